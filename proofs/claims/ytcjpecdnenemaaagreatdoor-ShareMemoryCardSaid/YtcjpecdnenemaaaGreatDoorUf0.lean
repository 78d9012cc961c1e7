/-
  What Fill gives fits, and no beast more does (P1.6; no run in this text).
-/
import Derived.Test.YtcjpecdnenemaaaGreatDoorUs2
namespace Go.Proofs.YtcjpecdnenemaaaGreatDoor
set_option linter.all false
open Go.RowKit

theorem cast_succ (n : Int) : ((n + 1 : Int) : Rat) = (n : Rat) + 1 := by rw [Rat.intCast_add]; rfl
theorem val_times {a b : Int} (k : Int) : val (a, b) * (k : Rat) = val (a * k, b) := by
  rw [← val_int, val_mul, Int.mul_one]
theorem fit_val {sn sd en ed : Int} (hs : vld sn sd = true) (he : vld en ed = true) (hp : 0 < en) :
    0 ≤ fitS sn sd en ed ∧ fitS sn sd en ed ≤ 100000 ∧ (0 ≤ val (sn, sd) → val (en, ed) * (fitS sn sd en ed : Rat) ≤ val (sn, sd)) ∧ (fitS sn sd en ed < 100000 → val (sn, sd) < val (en, ed) * ((fitS sn sd en ed : Rat) + 1)) := by
  have h1 := vld_pos hs
  have h2 := vld_pos he
  have hD : 0 < sd * en := Int.mul_pos (by omega) hp
  obtain ⟨b1, b2⟩ := fitS_bd sn sd en ed (by omega) (by omega)
  refine ⟨b1, b2, ?_, ?_⟩
  · intro h0
    have h3 := (val_nn h1).1 h0
    rw [val_times, val_le h2 h1]
    unfold fitS ratS
    rw [if_neg (by omega)]
    have hq := Int.ediv_mul_le (sn * ed) (b := sd * en) (by omega)
    have hm : min (sn * ed / (sd * en)) 100000 ≤ sn * ed / (sd * en) := Int.min_le_left _ _
    have := Int.mul_le_mul_of_nonneg_right hm (Int.le_of_lt hD)
    have e : en * min (sn * ed / (sd * en)) 100000 * sd = min (sn * ed / (sd * en)) 100000 * (sd * en) := by
      rw [Int.mul_comm en, Int.mul_assoc, Int.mul_comm en sd]
    rw [e]
    omega
  · intro hf
    rw [← cast_succ, val_times, val_lt h1 h2]
    by_cases h3 : sn < 0
    · have e : fitS sn sd en ed = 0 := by unfold fitS; rw [if_pos h3]
      rw [e]
      have h4 : sn * ed < 0 := Int.mul_neg_of_neg_of_pos h3 (by omega)
      have h5 : 0 < en * (0 + 1) * sd := by simp only [Int.zero_add, Int.mul_one]; exact Int.mul_pos hp (by omega)
      omega
    · have e : fitS sn sd en ed = sn * ed / (sd * en) := by
        unfold fitS ratS at hf ⊢
        rw [if_neg h3] at hf ⊢
        omega
      rw [e]
      have := Int.lt_ediv_add_one_mul_self (sn * ed) hD
      have e2 : en * (sn * ed / (sd * en) + 1) * sd = (sn * ed / (sd * en) + 1) * (sd * en) := by
        rw [Int.mul_comm en, Int.mul_assoc, Int.mul_comm en sd]
      rw [e2]
      exact this
def zipN (es : List ((Int × Int) × Hd)) (o : List Hd) : List ((Int × Int) × Int) := (es.map (·.1)).zip (o.map (·.num))
structure FillOk (es : List ((Int × Int) × Hd)) (o : List Hd) (a r : Rat) : Prop where
  len : o.length = es.length
  sum : r = a - sumV (zipN es o)
  le : r ≤ a
  nn : 0 ≤ a → 0 ≤ r
  each : ∀ (i : Nat) e h, es[i]? = some e → o[i]? = some h → h.sort = e.2.sort ∧ 0 ≤ h.num ∧ h.num ≤ e.2.num ∧ (h.num < e.2.num → r < val e.1)
def goodF (es : List ((Int × Int) × Hd)) : Prop := ∀ e ∈ es, vld e.1.1 e.1.2 = true ∧ 0 < e.1.1 ∧ 0 ≤ e.2.num ∧ e.2.num ≤ 100000
theorem fill_fold : ∀ (es : List ((Int × Int) × Hd)) (acc r : (Int × Int) × List Hd), vld acc.1.1 acc.1.2 = true → goodF es → es.foldl stepF (some acc) = some r →
    ∃ o, r.2 = acc.2 ++ o ∧ vld r.1.1 r.1.2 = true ∧ FillOk es o (val acc.1) (val r.1)
  | [], acc, r, hv, _, h => by
    simp at h
    subst h
    refine ⟨[], by simp, hv, ⟨rfl, ?_, by grind, fun h => h, fun i e h he => by simp at he⟩⟩
    simp only [zipN, List.map_nil, List.zip_nil_left, sumV]
    grind
  | e :: es, acc, r, hv, hg, h => by
    rw [List.foldl_cons] at h
    rcases hs : stepF (some acc) e with _ | b
    · rw [hs, stepF_none] at h; cases h
    · rw [hs] at h
      obtain ⟨m, hm, hl, hb⟩ := stepF_some hs
      obtain ⟨g1, g2, g3, g4⟩ := hg e (List.mem_cons_self ..)
      obtain ⟨f1, f2, f3, f4⟩ := fit_val hv g1 g2
      obtain ⟨ft, hft⟩ : ∃ ft, ft = fitS acc.1.1 acc.1.2 e.1.1 e.1.2 := ⟨_, rfl⟩
      rw [← hft] at hm hb f1 f2 f3 f4
      obtain ⟨n, hn⟩ : ∃ n, n = min e.2.num ft := ⟨_, rfl⟩
      rw [← hn] at hm hb
      have n0 : 0 ≤ n := by omega
      have n1 : n ≤ ft := by omega
      have n2 : n ≤ e.2.num := by omega
      obtain ⟨v1, v2⟩ := mulF_val g1 (by omega) (by omega) hm
      obtain ⟨v3, v4⟩ := subF_val hv v2 hl
      obtain ⟨o, h1, h2, h3⟩ := fill_fold es b r v4 (fun x hx => hg x (List.mem_cons_of_mem _ hx)) h
      have hpp : 0 < val e.1 := (val_pos (a := e.1.1) (b := e.1.2) (vld_pos g1)).2 g2
      have hnr := nn_mul (Rat.le_of_lt hpp) (by simpa using castR_le n0)
      have hnf : val e.1 * (n : Rat) ≤ val e.1 * (ft : Rat) := Rat.mul_le_mul_of_nonneg_left (castR_le n1) (Rat.le_of_lt hpp)
      have ha1 : val b.1 = val acc.1 - val e.1 * (n : Rat) := by rw [v3, v1]
      have hle : val r.1 ≤ val b.1 := h3.le
      refine ⟨⟨e.2.sort, n⟩ :: o, by rw [h1, hb]; simp, h2, ⟨by simp [h3.len], ?_, by grind, ?_, ?_⟩⟩
      · have h4 := h3.sum
        have e1 : zipN (e :: es) (⟨e.2.sort, n⟩ :: o) = (e.1, n) :: zipN es o := rfl
        rw [e1, sumV]
        grind
      · intro h0
        have h5 := f3 h0
        have h6 : val (e.1.1, e.1.2) = val e.1 := rfl
        have h7 : val (acc.1.1, acc.1.2) = val acc.1 := rfl
        rw [h6, h7] at h5
        exact h3.nn (by grind)
      · intro i x y hx hy
        cases i with
        | zero =>
          simp at hx hy
          subst hx
          subst hy
          refine ⟨rfl, n0, n2, fun hlt => ?_⟩
          have e2 : n = ft := by
            have hlt' : n < e.2.num := hlt
            omega
          have h5 := f4 (by have hlt' : n < e.2.num := hlt; omega)
          have h6 : val (e.1.1, e.1.2) = val e.1 := rfl
          have h7 : val (acc.1.1, acc.1.2) = val acc.1 := rfl
          rw [h6, h7, ← e2] at h5
          have h8 : val e.1 * ((n : Rat) + 1) = val e.1 * (n : Rat) + val e.1 := by grind
          grind
        | succ i => exact h3.each i x y (by simpa using hx) (by simpa using hy)
/-- heads with what each of them takes up, and what they want -/
def zipH (xs : List Eqv) (hs : List Hd) (day known : Int) : List ((Int × Int) × Hd) := (eachL xs hs day known).zip hs
theorem zipH_map (xs : List Eqv) (hs : List Hd) (day known : Int) : zipH xs hs day known = hs.map (fun h => (stS (inForceS xs h.sort day known), h)) := by
  unfold zipH eachL
  induction hs with
  | nil => rfl
  | cons h hs ih => simp only [List.map_cons, List.zip_cons_cons, ih]
theorem zipH_good {xs : List Eqv} {hs : List Hd} {sn sd day known : Int} (h : eachE xs hs sn sd day known = 0) : goodF (zipH xs hs day known) := by
  obtain ⟨h1, h2, h3, h4⟩ := each_ok h
  have hv := eachL_vld h1 h4
  have ha := (areS_ok h2).2
  rw [zipH_map]
  intro e he
  obtain ⟨x, hx, rfl⟩ := List.mem_map.1 he
  have h5 := hv _ (List.mem_map.2 ⟨x, hx, rfl⟩)
  exact ⟨h5.1, h5.2, (ha x hx).2⟩
/-- what Fill gives -/
def fillR (xs : List Eqv) (hs : List Hd) (sn sd day known : Int) : List Hd × Int :=
  if eachE xs hs sn sd day known = 0 then (match fillS (sn, sd) (zipH xs hs day known) with | some r => (r.2, 0) | none => ([], 2)) else ([], eachE xs hs sn sd day known)
theorem fillR_bad {xs : List Eqv} {hs out : List Hd} {sn sd day known e : Int} (h : fillR xs hs sn sd day known = (out, e)) (he : e ≠ 0) : out = [] := by
  unfold fillR at h
  split at h
  · split at h
    · simp only [Prod.mk.injEq] at h; exact absurd h.2.symm he
    · simp only [Prod.mk.injEq] at h; exact h.1.symm
  · simp only [Prod.mk.injEq] at h; exact h.1.symm
/-- **what Fill gives, and what is left** -/
theorem fillR_ok {xs : List Eqv} {hs out : List Hd} {sn sd day known : Int} (h : fillR xs hs sn sd day known = (out, 0)) :
    ∃ l : Int × Int, eachE xs hs sn sd day known = 0 ∧ vld sn sd = true ∧ FillOk (zipH xs hs day known) out (val (sn, sd)) (val l) ∧ fillS (sn, sd) (zipH xs hs day known) = some (l, out) := by
  unfold fillR at h
  by_cases he : eachE xs hs sn sd day known = 0
  · rw [if_pos he] at h
    rcases hf : fillS (sn, sd) (zipH xs hs day known) with _ | r
    · rw [hf] at h
      simp at h
    · rw [hf] at h
      simp only [Prod.mk.injEq, and_true] at h
      obtain ⟨_, _, hv, _⟩ := each_ok he
      obtain ⟨o, h1, h2, h3⟩ := fill_fold (zipH xs hs day known) ((sn, sd), []) r hv (zipH_good he) hf
      simp only [List.nil_append] at h1
      rw [h1] at h
      subst h
      refine ⟨r.1, he, hv, h3, ?_⟩
      rw [← h1]
  · rw [if_neg he] at h
    simp only [Prod.mk.injEq] at h
    exact absurd h.2 he
theorem fill_each {xs : List Eqv} {hs out : List Hd} {day known : Int} {a r : Rat} (h : FillOk (zipH xs hs day known) out a r) : out.length = hs.length ∧ ∀ (i : Nat) x o, hs[i]? = some x → out[i]? = some o → o.sort = x.sort ∧ 0 ≤ o.num ∧ o.num ≤ x.num ∧ (o.num < x.num → r < val (stS (inForceS xs x.sort day known))) := by
  refine ⟨by rw [h.len, zipH_map, List.length_map], fun i x o hx ho => ?_⟩
  have hz : (zipH xs hs day known)[i]? = some (stS (inForceS xs x.sort day known), x) := by rw [zipH_map, List.getElem?_map, hx]; rfl
  exact h.each i _ o hz ho
theorem fill_zip {xs : List Eqv} {hs out : List Hd} {day known : Int} {a r : Rat} (h : FillOk (zipH xs hs day known) out a r) : zipN (zipH xs hs day known) out = zipE xs out day known := by
  obtain ⟨hl, he⟩ := fill_each h
  unfold zipN
  rw [zipE_map, zipH_map]
  apply List.ext_getElem?
  intro i
  by_cases hi : i < out.length
  · have ho : out[i]? = some (out[i]'hi) := List.getElem?_eq_getElem hi
    have hx : hs[i]? = some (hs[i]'(by omega)) := List.getElem?_eq_getElem (by omega)
    have := (he i _ _ hx ho).1
    have e1 : ((hs.map (fun h => (stS (inForceS xs h.sort day known), h))).map (·.1))[i]? = some (stS (inForceS xs (hs[i]'(by omega)).sort day known)) := by simp [hx]
    have e2 : (out.map (·.num))[i]? = some (out[i]'hi).num := by simp [ho]
    have e3 : (((hs.map (fun h => (stS (inForceS xs h.sort day known), h))).map (·.1)).zip (out.map (·.num)))[i]? = some (stS (inForceS xs (hs[i]'(by omega)).sort day known), (out[i]'hi).num) := List.getElem?_zip_eq_some.2 ⟨e1, e2⟩
    rw [e3, List.getElem?_map, ho]
    simp only [Option.map_some, this]
  · rw [List.getElem?_eq_none (by simp; omega), List.getElem?_eq_none (by simp; omega)]
/-- **it fits** -/
theorem fill_fits {xs : List Eqv} {hs out : List Hd} {sn sd day known a b : Int} {l : Int × Int} (hv : vld sn sd = true) (h : FillOk (zipH xs hs day known) out (val (sn, sd)) (val l)) (hx : excS xs out sn sd day known = (a, b, 0)) (h0 : 0 ≤ sn) : a ≤ 0 := by
  obtain ⟨e1, f1⟩ := excS_ok hx
  obtain ⟨g1, _⟩ := zipE_good e1
  obtain ⟨v1, v2⟩ := excF_val g1 hv f1
  have h1 := h.sum
  rw [fill_zip h] at h1
  have h2 := h.nn ((val_nn (vld_pos hv)).2 h0)
  rcases Int.lt_or_le 0 a with h3 | h3
  · have := (val_pos (vld_pos v2)).2 h3
    grind
  · exact h3
/-- **one beast more does not** -/
theorem fill_most {xs : List Eqv} {hs out : List Hd} {sn sd day known a b : Int} {l : Int × Int} {i : Nat} {x o : Hd} (hv : vld sn sd = true) (h : FillOk (zipH xs hs day known) out (val (sn, sd)) (val l)) (hx : hs[i]? = some x) (ho : out[i]? = some o) (hlt : o.num < x.num)
    (hy : excS xs (out.set i ⟨o.sort, o.num + 1⟩) sn sd day known = (a, b, 0)) : 0 < a := by
  obtain ⟨e1, f1⟩ := excS_ok hy
  obtain ⟨g1, _⟩ := zipE_good e1
  obtain ⟨v1, v2⟩ := excF_val g1 hv f1
  obtain ⟨_, he⟩ := fill_each h
  obtain ⟨k1, _, _, k2⟩ := he i x o hx ho
  have k3 := k2 hlt
  rw [zipE_set, k1, sumV_set _ i _ o.num 1 (by rw [← k1]; exact zipE_at ho)] at v1
  have h1 := h.sum
  rw [fill_zip h] at h1
  rcases Int.lt_or_le 0 a with h3 | h3
  · exact h3
  · have h4 := mt (val_pos (a := a) (b := b) (vld_pos v2)).1 (by omega)
    have e2 : ((1 : Int) : Rat) = 1 := rfl
    rw [e2] at v1
    grind
end Go.Proofs.YtcjpecdnenemaaaGreatDoor
