/-
  claims as sets and numbers; what can be claimed
-/
import Derived.Test.YtologmoanaccpaaGreatDoorOC
import Derived.Test.YtologmoanaccpaaGreatDoorOf
namespace Go.Proofs.YtologmoanaccpaaGreatDoor
set_option linter.all false

theorem clN_bits (k : Nat) : ∀ (l : List Cl) (a : Nat), (l.foldl (fun a x => a ||| 2 ^ x.own.toNat) a).testBit k = (a.testBit k || l.any fun x => decide (x.own.toNat = k))
  | [], a => by simp
  | x :: l, a => by
    rw [List.foldl_cons, clN_bits k l, Nat.testBit_or, Nat.testBit_two_pow, List.any_cons, Bool.or_assoc]
theorem clN_bit (l : List Cl) (k : Nat) : (clN l).testBit k = l.any fun x => decide (x.own.toNat = k) := by
  unfold clN
  rw [clN_bits, Nat.zero_testBit, Bool.false_or]
theorem wt_skip (k : Nat) : ∀ (l : List Cl) (a : List Int), (∀ x ∈ l, x.own.toNat ≠ k) → (l.foldl (fun a x => a.set x.own.toNat x.num) a).getD k 0 = a.getD k 0
  | [], _, _ => rfl
  | x :: l, a, h => by
    rw [List.foldl_cons, wt_skip k l _ (fun y hy => h y (List.mem_cons_of_mem _ hy))]
    have := h x (List.mem_cons_self ..)
    rw [List.getD_eq_getElem?_getD, List.getElem?_set_ne this, ← List.getD_eq_getElem?_getD]
theorem wt_at : ∀ (l : List Cl) (a : List Int), a.length = 41 → (l.map fun x => x.own.toNat).Nodup → (∀ x ∈ l, x.own.toNat ≤ 40) → ∀ x ∈ l, (l.foldl (fun a x => a.set x.own.toNat x.num) a).getD x.own.toNat 0 = x.num
  | [], _, _, _, _, x, hx => by cases hx
  | y :: l, a, ha, hn, hb, x, hx => by
    rw [List.map_cons, List.nodup_cons] at hn
    rw [List.foldl_cons]
    rcases List.mem_cons.1 hx with rfl | hx
    · rw [wt_skip _ _ _ (fun z hz e => hn.1 (List.mem_map.2 ⟨z, hz, e⟩))]
      have := hb x (List.mem_cons_self ..)
      rw [List.getD_eq_getElem?_getD, List.getElem?_set_self (by omega)]
      rfl
    · exact wt_at l _ (by rw [List.length_set]; exact ha) hn.2 (fun z hz => hb z (List.mem_cons_of_mem _ hz)) x hx
theorem nodup_nat {l : List Cl} (h : (l.map Cl.own).Nodup) (hp : ∀ x ∈ l, 1 ≤ x.own) : (l.map fun x => x.own.toNat).Nodup := by
  induction l with
  | nil => simp
  | cons x l ih =>
    rw [List.map_cons, List.nodup_cons] at h ⊢
    refine ⟨fun hm => h.1 ?_, ih h.2 (fun y hy => hp y (List.mem_cons_of_mem _ hy))⟩
    obtain ⟨z, hz, e⟩ := List.mem_map.1 hm
    have h1 := hp x (List.mem_cons_self ..)
    have h2 := hp z (List.mem_cons_of_mem _ hz)
    exact List.mem_map.2 ⟨z, hz, by omega⟩
theorem wtL_at {l : List Cl} (h : (l.map Cl.own).Nodup) (hp : ∀ x ∈ l, 1 ≤ x.own ∧ x.own ≤ 40) {x : Cl} (hx : x ∈ l) : wq (wtL l) x.own.toNat = x.num := by
  unfold wq wtL
  exact wt_at l _ (by simp) (nodup_nat h fun y hy => (hp y hy).1) (fun y hy => by have := hp y hy; omega) x hx
theorem wtL_none {l : List Cl} {k : Nat} (h : ∀ x ∈ l, x.own.toNat ≠ k) : wq (wtL l) k = 0 := by
  unfold wq wtL
  rw [wt_skip k l _ h, List.getD_eq_getElem?_getD, List.getElem?_replicate]
  split <;> rfl
theorem wc_at {l : List Cl} (h : (l.map Cl.own).Nodup) (hp : ∀ x ∈ l, 1 ≤ x.own ∧ x.own ≤ 40) {x : Cl} (hx : x ∈ l) : wc (clN l) (wtL l) x.own.toNat = x.num := by
  unfold wc
  rw [if_pos (by rw [clN_bit, List.any_eq_true]; exact ⟨x, hx, by simp⟩), wtL_at h hp hx]
theorem wc_none {l : List Cl} {k : Nat} (h : ∀ x ∈ l, x.own.toNat ≠ k) : wc (clN l) (wtL l) k = 0 := by
  unfold wc
  rw [wtL_none h]; split <;> rfl
theorem wtL_bd {l : List Cl} (h : (l.map Cl.own).Nodup) (hp : ∀ x ∈ l, 1 ≤ x.own ∧ x.own ≤ 40) (hn : ∀ x ∈ l, 0 ≤ x.num ∧ x.num ≤ 60) (k : Nat) : 0 ≤ wq (wtL l) k ∧ wq (wtL l) k ≤ 60 := by
  by_cases hx : ∃ x ∈ l, x.own.toNat = k
  · obtain ⟨x, hx, rfl⟩ := hx
    rw [wtL_at h hp hx]
    exact hn x hx
  · rw [wtL_none fun x hx' e => hx ⟨x, hx', e⟩]; omega
/-- what an owner can claim -/
theorem claim_le {α : Type} {D : α → Nat} {found : List α} {l : List Cl} {ow : List Int} (h : (l.map Cl.own).Nodup) (hp : ∀ x ∈ l, 1 ≤ x.own ∧ x.own ≤ 40) (hm : MetA (found.map fun s => D s &&& clN l) (clN l) (wtL l) ow) {x : Cl} (hx : x ∈ l) :
    x.num ≤ ((((found.filter fun s => (D s).testBit x.own.toNat).length) : Nat) : Int) := by
  obtain ⟨h1, h2⟩ := hp x hx
  have hw := wc_at h hp hx
  have he := hm.2 x.own.toNat (by omega) (by omega)
  rw [hw] at he
  rw [← he, List.count_eq_length_filter]
  have hl := len_le (p := fun y => y == (x.own.toNat : Int)) (q := fun f => f.testBit x.own.toNat) hm.1.1 (fun b y f hy hf hp => by
    have hy0 : y = (x.own.toNat : Int) := by simpa using hp
    obtain ⟨_, _, f', hf', hb⟩ := hm.1.2 b y hy (by omega)
    rw [hf] at hf'
    cases hf'
    rw [hy0, Int.toNat_natCast] at hb
    exact hb)
  refine Int.ofNat_le.2 (Nat.le_trans hl ?_)
  rw [List.filter_map, List.length_map]
  refine Nat.le_of_eq ?_
  congr 1
  apply List.filter_congr
  intro s _
  simp only [Function.comp]
  rw [Nat.testBit_and, clN_bit]
  have : (l.any fun y => decide (y.own.toNat = x.own.toNat)) = true := List.any_eq_true.2 ⟨x, hx, by simp⟩
  rw [this, Bool.and_true]
theorem sure_met {fits : List Nat} {cl : Nat} {wt : List Int} (h : ∀ o, 1 ≤ o → o ≤ 40 → cl.testBit o = true → wq wt o ≤ (((fits.filter fun f => f == 2 ^ o).length : Nat) : Int)) : ¬ ShA fits cl wt := by
  rintro ⟨ow, a, o, hv, hle, h1, h2, hlt, ha, hq⟩
  have hc : cl.testBit o = true := by
    cases e : cl.testBit o
    · unfold wc at hlt
      rw [e] at hlt
      simp at hlt
      omega
    · rfl
  have h3 := h o h1 h2 hc
  unfold wc at hlt
  rw [if_pos hc, List.count_eq_length_filter] at hlt
  have hl := len_ge (p := fun y => y == (o : Int)) (q := fun f => f == 2 ^ o) hv.1 (fun b y f hy hf hp => by
    have hf0 : f = 2 ^ o := by simpa using hp
    subst hf0
    obtain ⟨x, hx, hx0, _⟩ := (hq o ha).2.2 b _ hf (by rw [Nat.testBit_two_pow]; simp)
    rw [hy] at hx
    cases hx
    obtain ⟨q1, q2, f', hf', hb⟩ := hv.2 b y hy hx0
    rw [hf] at hf'
    cases hf'
    rw [Nat.testBit_two_pow] at hb
    have : o = y.toNat := by simpa using hb
    simp; omega)
  omega
/-- if each owner claims what is sure, there is no shortage -/
theorem own_met {α : Type} {D : α → Nat} {found : List α} {l : List Cl} (h : (l.map Cl.own).Nodup) (hp : ∀ x ∈ l, 1 ≤ x.own ∧ x.own ≤ 40) (hn : ∀ x ∈ l, x.num = (((found.filter fun s => D s == 2 ^ x.own.toNat).length : Nat) : Int)) : ¬ ShA (found.map fun s => D s &&& clN l) (clN l) (wtL l) := by
  refine sure_met fun o h1 h2 hc => ?_
  rw [clN_bit, List.any_eq_true] at hc
  obtain ⟨x, hx, e⟩ := hc
  have e : x.own.toNat = o := by simpa using e
  subst e
  rw [wtL_at h hp hx, hn x hx]
  rw [List.filter_map, List.length_map]
  refine Int.ofNat_le.2 ?_
  rw [← List.countP_eq_length_filter, ← List.countP_eq_length_filter]
  refine List.countP_mono_left fun s _ hs => ?_
  simp only [Function.comp]
  have hs0 : D s = 2 ^ x.own.toNat := by simpa using hs
  rw [hs0]
  have : (2 ^ x.own.toNat &&& clN l) = 2 ^ x.own.toNat := by
    apply Nat.eq_of_testBit_eq
    intro i
    rw [Nat.testBit_and, Nat.testBit_two_pow]
    by_cases e : x.own.toNat = i
    · subst e
      rw [clN_bit, List.any_eq_true.2 ⟨x, hx, by simp⟩]; simp
    · simp [e]
  rw [this]; simp
/-- what is sure is sure for one owner alone -/
theorem sure_sum {α : Type} (D : α → Nat) : ∀ (found : List α) (l : List Cl), (l.map fun x => x.own.toNat).Nodup → (l.map fun x => (found.filter fun s => D s == 2 ^ x.own.toNat).length).sum ≤ found.length
  | [], l, hh => by
    clear hh
    induction l with
    | nil => simp
    | cons x l ih => simpa using ih
  | s :: found, l, h => by
    have ih := sure_sum D found l h
    have e : (l.map fun x => ((s :: found).filter fun s => D s == 2 ^ x.own.toNat).length).sum ≤ (l.map fun x => (found.filter fun s => D s == 2 ^ x.own.toNat).length).sum + 1 := by
      clear ih
      have hle : ∀ x : Cl, ((s :: found).filter fun s => D s == 2 ^ x.own.toNat).length = (found.filter fun s => D s == 2 ^ x.own.toNat).length + if D s == 2 ^ x.own.toNat then 1 else 0 := fun x => by
        rw [List.filter_cons]
        split <;> simp
      induction l with
      | nil => simp
      | cons x l ih =>
        rw [List.map_cons, List.nodup_cons] at h
        rw [List.map_cons, List.map_cons, List.sum_cons, List.sum_cons, hle x]
        by_cases hx : D s == 2 ^ x.own.toNat
        · rw [if_pos hx]
          have : (l.map fun x => ((s :: found).filter fun s => D s == 2 ^ x.own.toNat).length) = (l.map fun x => (found.filter fun s => D s == 2 ^ x.own.toNat).length) := by
            apply List.map_congr_left
            intro y hy
            rw [hle y, if_neg]; · rfl
            intro hy2
            have h1 : D s = 2 ^ x.own.toNat := by simpa using hx
            have h2 : D s = 2 ^ y.own.toNat := by simpa using hy2
            have h3 : x.own.toNat = y.own.toNat := (Nat.pow_right_inj (by omega)).1 (h1.symm.trans h2)
            exact h.1 (List.mem_map.2 ⟨y, hy, h3.symm⟩)
          rw [this]; omega
        · rw [if_neg hx]
          have := ih h.2
          omega
    rw [List.length_cons]
    omega
end Go.Proofs.YtologmoanaccpaaGreatDoor
