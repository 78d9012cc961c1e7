/-
  Plain mathematics: the order of fractions.
-/
import Derived.Test.YtcjpecdnenemaaaGreatDoorFrM
import Derived.Test.YtcjpecdnenemaaaGreatDoorGC
namespace Go.Proofs.YtcjpecdnenemaaaGreatDoor
set_option linter.all false
set_option linter.unusedSimpArgs false

theorem cmp_swap (an ad bn bd : Int) : cmpI bn bd an ad = -cmpI an ad bn bd := by
  unfold cmpI
  by_cases h1 : an * bd < bn * ad
  · rw [if_neg (show ¬ bn * ad < an * bd by omega), if_pos h1, if_pos h1]; rfl
  · by_cases h2 : an * bd > bn * ad
    · rw [if_pos h2, if_neg h1, if_pos h2]
    · rw [if_neg h2, if_neg h1, if_neg h1, if_neg h2]; rfl
theorem cmp_range (an ad bn bd : Int) : cmpI an ad bn bd = -1 ∨ cmpI an ad bn bd = 0 ∨ cmpI an ad bn bd = 1 := by
  unfold cmpI
  by_cases h1 : an * bd < bn * ad
  · rw [if_pos h1]; exact Or.inl rfl
  · by_cases h2 : an * bd > bn * ad
    · rw [if_neg h1, if_pos h2]; exact Or.inr (Or.inr rfl)
    · rw [if_neg h1, if_neg h2]; exact Or.inr (Or.inl rfl)
theorem cmp_lt {an ad bn bd : Int} : cmpI an ad bn bd = -1 ↔ an * bd < bn * ad := by
  unfold cmpI
  by_cases h1 : an * bd < bn * ad
  · simp [h1]
  · by_cases h2 : an * bd > bn * ad
    · simp [h1, h2]
    · simp [h1, h2]
theorem cmp_gt {an ad bn bd : Int} : cmpI an ad bn bd = 1 ↔ bn * ad < an * bd := by
  unfold cmpI
  by_cases h1 : an * bd < bn * ad
  · simp [h1]; omega
  · by_cases h2 : an * bd > bn * ad
    · simp [h1, h2]; try omega
    · simp [h1, h2]; try omega
theorem cmp_zero {an ad bn bd : Int} : cmpI an ad bn bd = 0 ↔ an * bd = bn * ad := by
  unfold cmpI
  by_cases h1 : an * bd < bn * ad
  · simp [h1]; omega
  · by_cases h2 : an * bd > bn * ad
    · simp [h1, h2]; omega
    · simp [h1, h2]; omega
theorem cmp_eq {an ad bn bd : Int} (ha : vld an ad = true) (hb : vld bn bd = true) (h : cmpI an ad bn bd = 0) : an = bn ∧ ad = bd := vld_unique ha hb (cmp_zero.1 h)
theorem cmp_le {an ad bn bd : Int} : cmpI an ad bn bd ≤ 0 ↔ an * bd ≤ bn * ad := by
  rcases cmp_range an ad bn bd with h | h | h
  · rw [h]; have := cmp_lt.1 h; omega
  · rw [h]; have := cmp_zero.1 h; omega
  · rw [h]; have := cmp_gt.1 h; omega
theorem cmp_trans {an ad bn bd cn cd : Int} (ha : 1 ≤ ad) (hb : 1 ≤ bd) (hc : 1 ≤ cd) (h1 : cmpI an ad bn bd ≤ 0) (h2 : cmpI bn bd cn cd ≤ 0) : cmpI an ad cn cd ≤ 0 := by
  rw [cmp_le] at h1 h2 ⊢
  have e1 := Int.mul_le_mul_of_nonneg_right h1 (show 0 ≤ cd by omega)
  have e2 := Int.mul_le_mul_of_nonneg_right h2 (show 0 ≤ ad by omega)
  have e3 : (an * cd) * bd ≤ (cn * ad) * bd := by
    simp only [Int.mul_assoc, Int.mul_comm, Int.mul_left_comm] at e1 e2 ⊢
    omega
  exact Int.le_of_mul_le_mul_right e3 (by omega)
theorem sgn_same {U V D E : Int} (hD : 1 ≤ D) (hE : 1 ≤ E) (h : U * E = V * D) : (U < 0 ↔ V < 0) ∧ (0 < U ↔ 0 < V) := by
  have p1 : U < 0 → U * E < 0 := fun h => Int.mul_neg_of_neg_of_pos h (by omega)
  have p2 : 0 < U → 0 < U * E := fun h => Int.mul_pos h (by omega)
  have p3 : V < 0 → V * D < 0 := fun h => Int.mul_neg_of_neg_of_pos h (by omega)
  have p4 : 0 < V → 0 < V * D := fun h => Int.mul_pos h (by omega)
  have p5 : U = 0 → U * E = 0 := fun h => by rw [h, Int.zero_mul]
  have p6 : V = 0 → V * D = 0 := fun h => by rw [h, Int.zero_mul]
  generalize U * E = X at *
  generalize V * D = Y at *
  omega
theorem cmp_sgn {an ad bn bd xn xd yn yd : Int} (h1 : an * bd - bn * ad < 0 ↔ xn * yd - yn * xd < 0) (h2 : 0 < an * bd - bn * ad ↔ 0 < xn * yd - yn * xd) : cmpI an ad bn bd = cmpI xn xd yn yd := by
  rcases cmp_range an ad bn bd with h | h | h
  · rw [h]; have e := cmp_lt.1 h; exact (cmp_lt.2 (by have := h1.1 (by omega); omega)).symm
  · rw [h]; have e := cmp_zero.1 h
    refine (cmp_zero.2 ?_).symm
    have n1 : ¬ (xn * yd - yn * xd < 0) := fun hh => by have := h1.2 hh; omega
    have n2 : ¬ (0 < xn * yd - yn * xd) := fun hh => by have := h2.2 hh; omega
    omega
  · rw [h]; have e := cmp_gt.1 h; exact (cmp_gt.2 (by have := h2.1 (by omega); omega)).symm
theorem cmp_add {an ad bn bd cn cd x0 x1 y0 y1 : Int} (hx : addS an ad cn cd = (x0, x1, 0)) (hy : addS bn bd cn cd = (y0, y1, 0)) : cmpI x0 x1 y0 y1 = cmpI an ad bn bd := by
  obtain ⟨va, vc, vx, ex⟩ := addS_ok hx
  obtain ⟨vb, _, vy, ey⟩ := addS_ok hy
  have pa := vld_pos va
  have pb := vld_pos vb
  have pc := vld_pos vc
  have px := vld_pos vx
  have py := vld_pos vy
  have hD : 1 ≤ (x1 * y1) * (cd * cd) := pos_mul (pos_mul px py) (pos_mul pc pc)
  have hE : 1 ≤ (ad * cd) * (bd * cd) := pos_mul (pos_mul pa pc) (pos_mul pb pc)
  have e : (x0 * y1 - y0 * x1) * ((ad * cd) * (bd * cd)) = (an * bd - bn * ad) * ((x1 * y1) * (cd * cd)) := by
    have e1 := congrArg (· * (y1 * (bd * cd))) ex
    have e2 := congrArg (· * (x1 * (ad * cd))) ey
    simp only [Int.mul_add, Int.add_mul, Int.sub_mul, Int.mul_sub, Int.mul_assoc, Int.mul_comm, Int.mul_left_comm] at e1 e2 ⊢
    omega
  have s := sgn_same hD hE e
  exact cmp_sgn s.1 s.2
theorem gcdI_one (k : Int) : gcdI k 1 = 1 := by unfold gcdI; simp
theorem vld_whole {k : Int} (h1 : -1000000000000 ≤ k) (h2 : k ≤ 1000000000000) : vld k 1 = true := vld_iff.2 ⟨⟨by omega, by omega⟩, ⟨h1, h2⟩, gcdI_one k⟩
/-- the whole numbers beside a fraction -/
theorem floor_one {an : Int} (h : vld an 1 = true) : floorS an 1 = an ∧ ceilS an 1 = an := by
  unfold floorS ceilS
  rw [if_pos h, if_pos h]
  exact ⟨by omega, by omega⟩
theorem floor_two {an ad : Int} (h : vld an ad = true) (hd : ad ≠ 1) : ∃ k, floorS an ad = k ∧ ceilS an ad = k + 1 ∧ k * ad < an ∧ an < (k + 1) * ad ∧ -1000000000000 ≤ k ∧ k + 1 ≤ 1000000000000 := by
  unfold floorS ceilS
  rw [if_pos h, if_pos h]
  obtain ⟨⟨h1, h2⟩, ⟨h3, h4⟩, hg⟩ := vld_iff.1 h
  have e := Int.emod_add_mul_ediv an ad
  have r0 := Int.emod_nonneg an (show ad ≠ 0 by omega)
  have r1 := Int.emod_lt_of_pos an (show 0 < ad by omega)
  have rne : an % ad ≠ 0 := by
    intro h0
    have hdv := Int.dvd_of_emod_eq_zero h0
    have : gcdI an ad = ad := by
      unfold gcdI
      rw [Int.gcd_eq_natAbs_right hdv]; omega
    omega
  generalize an / ad = k at e ⊢
  generalize an % ad = r at e r0 r1 rne
  have k1 : k * ad < an := by rw [Int.mul_comm]; omega
  have k2 : an < (k + 1) * ad := by rw [Int.add_mul, Int.mul_comm k]; omega
  have n : (-an) / ad = -(k + 1) := by
    have : -an = (ad - r) + ad * (-(k + 1)) := by rw [Int.mul_neg, Int.mul_add]; omega
    rw [this, Int.add_mul_ediv_left _ _ (by omega), Int.ediv_eq_zero_of_lt (by omega) (by omega)]; omega
  have l1 : -1000000000000 ≤ k := by
    rcases Int.lt_or_le k (-1000000000000) with hk | hk
    · have : (k + 1) * ad ≤ (k + 1) * 1 := Int.mul_le_mul_of_nonpos_left (by omega) (by omega)
      omega
    · exact hk
  have l2 : k + 1 ≤ 1000000000000 := by
    rcases Int.lt_or_le 1000000000000 (k + 1) with hk | hk
    · have : k * 1 ≤ k * ad := Int.mul_le_mul_of_nonneg_left (by omega) (by omega)
      omega
    · exact hk
  exact ⟨k, rfl, by rw [n]; omega, k1, k2, l1, l2⟩
end Go.Proofs.YtcjpecdnenemaaaGreatDoor
