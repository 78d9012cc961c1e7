/- the reference's Why -/
import Derived.Test.YtjaicilnlgjdcaaWd
import Derived.Deep.DeepCutAuto
namespace Go.Proofs.Ytjaicilnlgjdcaa
set_option linter.all false
open Go.RowKit Go.Shelf

/-- the id of the first record of which p holds; 0 if there is none -/
def firstId (p : Rcn → Bool) : List Rcn → Int
  | [] => 0
  | x :: l => if p x = true then x.id else firstId p l
theorem firstId_yes {p : Rcn → Bool} {x : Rcn} {l : List Rcn} (h : p x = true) : firstId p (x :: l) = x.id := if_pos h
theorem firstId_no {p : Rcn → Bool} {x : Rcn} {l : List Rcn} (h : ¬ p x = true) : firstId p (x :: l) = firstId p l := if_neg h
theorem firstId_ne {p : Rcn → Bool} {j : Int} (h0 : 0 < j) : ∀ {l : List Rcn}, (∀ y ∈ l, y.id ≠ j) → firstId p l ≠ j
  | [], _ => by unfold firstId; omega
  | x :: l, h => by
    unfold firstId
    split
    · exact h x (by simp)
    · exact firstId_ne h0 (fun y hy => h y (List.mem_cons_of_mem _ hy))
theorem firstId_none {p : Rcn → Bool} : ∀ {l : List Rcn}, (∀ y ∈ l, p y = false) → firstId p l = 0
  | [], _ => rfl
  | x :: l, h => by
    unfold firstId
    rw [if_neg (by rw [h x (by simp)]; simp)]
    exact firstId_none (fun y hy => h y (List.mem_cons_of_mem _ hy))
def pM (sh : Int) (p : Bool) (rm : Int) (x : Rcn) : Bool := decide (x.sh = sh) && (p && decide (askM x = rm))
def pD (sh : Int) (q : Bool) (rd : Int) (x : Rcn) : Bool := decide (x.sh = sh) && (q && decide (askD x = rd))
def twoL (l : List Rcn) (one two : Int) : List Int := (l.filter (fun x => decide (x.id = one) || decide (x.id = two))).map Rcn.id
theorem why_two (rm rd sh : Int) : ∀ (l : List Rcn) (p q : Bool) (ids : List Int), (∀ x ∈ l, 0 < x.id) → l.Pairwise (fun x y => x.id < y.id ∧ x.kn ≤ y.kn) →
    (∀ x ∈ l, x.sh = sh → ¬ ((p && decide (askM x = rm)) = true ∧ (q && decide (askD x = rd)) = true)) →
    ((shF sh l).foldl (whyStep rm rd) (p, q, ids)).2.2 = ids ++ twoL l (firstId (pM sh p rm) l) (firstId (pD sh q rd) l)
  | [], p, q, ids, _, _, _ => by simp [shF, twoL]
  | x :: l, p, q, ids, hp, hw, hn => by
    rw [List.pairwise_cons] at hw
    have hx0 := hp x (by simp)
    have hne : ∀ y ∈ l, y.id ≠ x.id := fun y hy => by have := (hw.1 y hy).1; omega
    have ih := fun p' q' ids' h => why_two rm rd sh l p' q' ids' (fun y hy => hp y (List.mem_cons_of_mem _ hy)) hw.2 h
    have hn' : ∀ y ∈ l, y.sh = sh → ¬ ((p && decide (askM y = rm)) = true ∧ (q && decide (askD y = rd)) = true) := fun y hy => hn y (List.mem_cons_of_mem _ hy)
    have hcong : ∀ (a b a' b' : Int), (∀ y ∈ l, (y.id = a ↔ y.id = a') ∧ (y.id = b ↔ y.id = b')) → twoL l a b = twoL l a' b' := fun a b a' b' h => by
      unfold twoL
      congr 1
      refine List.filter_congr (fun y hy => ?_)
      have := h y hy
      rw [Bool.eq_iff_iff]
      simp only [Bool.or_eq_true, decide_eq_true_eq]
      rw [this.1, this.2]
    have hpos : ∀ y ∈ l, 0 < y.id := fun y hy => hp y (List.mem_cons_of_mem _ hy)
    by_cases hs : x.sh = sh
    · have e0 : shF sh (x :: l) = x :: shF sh l := by unfold shF; rw [List.filter_cons, if_pos (by simpa using hs)]
      rw [e0, List.foldl_cons]
      by_cases h1 : (p && decide (askM x = rm)) = true
      · have h2 : ¬ (q && decide (askD x = rd)) = true := fun h => hn x (by simp) hs ⟨h1, h⟩
        have e : whyStep rm rd (p, q, ids) x = (false, q, ids ++ [x.id]) := by unfold whyStep; rw [if_pos h1]
        rw [e, ih false q (ids ++ [x.id]) (fun y _ _ => by simp)]
        have e1 : firstId (pM sh p rm) (x :: l) = x.id := firstId_yes (by unfold pM; rw [h1]; simpa using hs)
        have e2 : firstId (pD sh q rd) (x :: l) = firstId (pD sh q rd) l := firstId_no (by unfold pD; rw [Bool.and_eq_true]; exact fun h => h2 h.2)
        rw [e1, e2]
        have e3 : firstId (pM sh false rm) l = 0 := firstId_none (fun y _ => by simp [pM])
        have e4 : twoL (x :: l) x.id (firstId (pD sh q rd) l) = x.id :: twoL l x.id (firstId (pD sh q rd) l) := by unfold twoL; rw [List.filter_cons, if_pos (by simp)]; rfl
        rw [e4, e3, List.append_assoc, hcong 0 (firstId (pD sh q rd) l) x.id (firstId (pD sh q rd) l) (fun y hy => ⟨by have := hne y hy; have := hpos y hy; omega, Iff.rfl⟩)]
        rfl
      · by_cases h2 : (q && decide (askD x = rd)) = true
        · have e : whyStep rm rd (p, q, ids) x = (p, false, ids ++ [x.id]) := by unfold whyStep; rw [if_neg h1, if_pos h2]
          rw [e, ih p false (ids ++ [x.id]) (fun y _ _ => by simp)]
          have e1 : firstId (pD sh q rd) (x :: l) = x.id := firstId_yes (by unfold pD; rw [h2]; simpa using hs)
          have e2 : firstId (pM sh p rm) (x :: l) = firstId (pM sh p rm) l := firstId_no (by unfold pM; rw [Bool.and_eq_true]; exact fun h => h1 h.2)
          rw [e1, e2]
          have e3 : firstId (pD sh false rd) l = 0 := firstId_none (fun y _ => by simp [pD])
          have e4 : twoL (x :: l) (firstId (pM sh p rm) l) x.id = x.id :: twoL l (firstId (pM sh p rm) l) x.id := by unfold twoL; rw [List.filter_cons, if_pos (by simp)]; rfl
          rw [e4, e3, List.append_assoc, hcong (firstId (pM sh p rm) l) 0 (firstId (pM sh p rm) l) x.id (fun y hy => ⟨Iff.rfl, by have := hne y hy; have := hpos y hy; omega⟩)]
          rfl
        · have e : whyStep rm rd (p, q, ids) x = (p, q, ids) := by unfold whyStep; rw [if_neg h1, if_neg h2]
          rw [e, ih p q ids hn']
          have e1 : firstId (pM sh p rm) (x :: l) = firstId (pM sh p rm) l := firstId_no (by unfold pM; rw [Bool.and_eq_true]; exact fun h => h1 h.2)
          have e2 : firstId (pD sh q rd) (x :: l) = firstId (pD sh q rd) l := firstId_no (by unfold pD; rw [Bool.and_eq_true]; exact fun h => h2 h.2)
          rw [e1, e2]
          have k1 := firstId_ne (p := pM sh p rm) hx0 hne
          have k2 := firstId_ne (p := pD sh q rd) hx0 hne
          have e4 : twoL (x :: l) (firstId (pM sh p rm) l) (firstId (pD sh q rd) l) = twoL l (firstId (pM sh p rm) l) (firstId (pD sh q rd) l) := by
            unfold twoL; rw [List.filter_cons, if_neg (by simp only [Bool.or_eq_true, decide_eq_true_eq]; omega)]
          rw [e4]
    · have e0 : shF sh (x :: l) = shF sh l := by unfold shF; rw [List.filter_cons, if_neg (by simpa using hs)]
      rw [e0, ih p q ids hn']
      have e1 : firstId (pM sh p rm) (x :: l) = firstId (pM sh p rm) l := firstId_no (by unfold pM; simp [hs])
      have e2 : firstId (pD sh q rd) (x :: l) = firstId (pD sh q rd) l := firstId_no (by unfold pD; simp [hs])
      rw [e1, e2]
      have k1 := firstId_ne (p := pM sh p rm) hx0 hne
      have k2 := firstId_ne (p := pD sh q rd) hx0 hne
      have e4 : twoL (x :: l) (firstId (pM sh p rm) l) (firstId (pD sh q rd) l) = twoL l (firstId (pM sh p rm) l) (firstId (pD sh q rd) l) := by
        unfold twoL; rw [List.filter_cons, if_neg (by simp only [Bool.or_eq_true, decide_eq_true_eq]; omega)]
      rw [e4]
/-- what Why returns, as the reference reckons it -/
theorem whyI_two {m d sh known : Int} {xs : List Rcn} {rm rd : Int} (hr : rateI m d xs sh known = (rm, rd, 0)) :
    whyI m d xs sh known = (twoL (cntS xs known) (firstId (pM sh (decide (m < rm)) rm) (cntS xs known)) (firstId (pD sh (decide (d < rd)) rd) (cntS xs known)), 0) := by
  have hr0 := hr
  unfold rateI at hr
  by_cases hc : chkI m d xs = 0
  · rw [if_pos hc] at hr
    by_cases ha : allB (ofS xs known sh) = true
    · have hrb : rateB m d = true := by
        unfold chkI at hc
        by_cases h : rateB m d = true
        · exact h
        · rw [if_neg h] at hc; simp at hc
      have hcr : (crI xs).2 = 0 := by unfold chkI at hc; rw [if_pos hrb] at hc; exact hc
      have hcr' := (crI_iff xs).1 hcr
      obtain ⟨⟨m0, m1⟩, d0, d1⟩ := rateB_bd hrb
      have hmem : ∀ x ∈ cntS xs known, x ∈ xs := fun x hx => (List.mem_filter.1 hx).1
      have := why_two rm rd sh (cntS xs known) (decide (m < rm)) (decide (d < rd)) [] (fun x hx => (hcr'.2.1 x (hmem x hx)).2.1) (hcr'.2.2.sublist List.filter_sublist) (fun x hx hs => by
        rintro ⟨h1, h2⟩
        simp only [Bool.and_eq_true, decide_eq_true_eq] at h1 h2
        have hb := allB_at (cs := cntS xs known) (sh := sh) ha (List.getElem?_eq_some_iff.2 (List.mem_iff_getElem.1 hx).choose_spec) hs
        exact ask_one hb ⟨by omega, by omega⟩)
      unfold whyI
      rw [hr0, if_pos rfl]
      simp only [whyF]
      rw [← shF_ofS, this]
      simp
    · rw [if_neg ha] at hr
      injection hr with _ h2
      injection h2 with _ h3
      simp at h3
  · rw [if_neg hc] at hr
    injection hr with _ h2
    injection h2 with _ h3
    exact absurd h3 hc
end Go.Proofs.Ytjaicilnlgjdcaa
