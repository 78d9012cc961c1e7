/-
  Plain mathematics of fractions in lowest terms: a fraction is what its cross products say.
-/
import Derived.Test.YtcjpecdnenemaaaGreatDoorGA
namespace Go.Proofs.YtcjpecdnenemaaaGreatDoor
set_option linter.all false

theorem vld_pos {x y : Int} (h : vld x y = true) : 1 ≤ y := (vld_iff.1 h).1.1
theorem gcdI_mul (x y k : Int) (hk : 1 ≤ k) : gcdI (x * k) (y * k) = gcdI x y * k := by
  unfold gcdI
  rw [Int.gcd_mul_right]
  have : ((k.natAbs : Nat) : Int) = k := by omega
  rw [Int.natCast_mul, this]
theorem lowF_iff {n d x y : Int} (hd : 1 ≤ d) : lowF n d = some (x, y) ↔ vld x y = true ∧ n * y = x * d := by
  constructor
  · intro h
    obtain ⟨hv, hx, hy⟩ := lowF_some h
    rw [if_neg (by omega)] at hx hy
    obtain ⟨p, hp⟩ := gcdI_dvd_left n d
    obtain ⟨q, hq⟩ := gcdI_dvd_right n d
    have hg : gcdI n d ≠ 0 := by
      intro h0; rw [h0] at hq; omega
    have e1 : n.tdiv (gcdI n d) = p := by
      conv => lhs; lhs; rw [hp]
      exact Int.mul_tdiv_cancel_left p hg
    have e2 : d.tdiv (gcdI n d) = q := by
      conv => lhs; lhs; rw [hq]
      exact Int.mul_tdiv_cancel_left q hg
    rw [e1] at hx
    rw [e2] at hy
    subst hx hy
    refine ⟨hv, ?_⟩
    conv => lhs; rw [hp]
    conv => rhs; rw [hq]
    rw [Int.mul_assoc, Int.mul_left_comm]
  · rintro ⟨hv, e⟩
    obtain ⟨⟨hy1, hy2⟩, hx, hg⟩ := vld_iff.1 hv
    have hgn : Int.gcd y x = 1 := by
      rw [Int.gcd_comm]; unfold gcdI at hg; omega
    have hdv : y ∣ d := by
      have h1 : y ∣ x * d := ⟨n, by rw [← e, Int.mul_comm]⟩
      have h2 := Int.dvd_gcd_mul_iff_dvd_mul.2 h1
      rw [hgn] at h2
      simpa using h2
    obtain ⟨k, rfl⟩ := hdv
    have hk : 1 ≤ k := by
      rcases Int.lt_or_le k 1 with h | h
      · have : y * k ≤ y * 0 := Int.mul_le_mul_of_nonneg_left (by omega) (by omega)
        omega
      · exact h
    have en : n = x * k := by
      have h2 : n * y = (x * k) * y := by rw [e]; simp only [Int.mul_assoc, Int.mul_comm, Int.mul_left_comm]
      exact Int.eq_of_mul_eq_mul_right (by omega) h2
    subst en
    have hgk : gcdI (x * k) (y * k) = k := by rw [gcdI_mul x y k hk, hg, Int.one_mul]
    have e1 : (x * k).tdiv k = x := Int.mul_tdiv_cancel x (by omega)
    have e2 : (y * k).tdiv k = y := Int.mul_tdiv_cancel y (by omega)
    have h0 : ¬ y * k < 0 := by omega
    unfold lowF
    rw [hgk]
    simp only [h0, e1, e2, hv, if_true, if_false]
theorem vld_unique {x y x' y' : Int} (h : vld x y = true) (h' : vld x' y' = true) (e : x * y' = x' * y) : x = x' ∧ y = y' := by
  have h1 := (lowF_iff (vld_pos h)).2 ⟨h', e⟩
  have h2 := (lowF_iff (vld_pos h)).2 ⟨h, rfl⟩
  rw [h1] at h2
  simp only [Option.some.injEq, Prod.mk.injEq] at h2
  exact ⟨h2.1.symm, h2.2.symm⟩
theorem mulF_iff {an ad bn bd x y : Int} (ha : vld an ad = true) (hb : vld bn bd = true) (h : mulF an ad bn bd = some (x, y)) : vld x y = true ∧ x * (ad * bd) = an * bn * y := by
  unfold mulF at h
  have ga := vld_pos ha
  have gb := vld_pos hb
  obtain ⟨p, hp⟩ := gcdI_dvd_left an bd
  obtain ⟨q, hq⟩ := gcdI_dvd_right an bd
  obtain ⟨r, hr⟩ := gcdI_dvd_left bn ad
  obtain ⟨s, hs⟩ := gcdI_dvd_right bn ad
  have hg0 := gcdI_nonneg an bd
  have hh0 := gcdI_nonneg bn ad
  generalize gcdI an bd = g at h hp hq hg0
  generalize gcdI bn ad = k at h hr hs hh0
  subst hp hq hr hs
  have hg : g ≠ 0 := by intro h0; rw [h0] at gb; omega
  have hk : k ≠ 0 := by intro h0; rw [h0] at ga; omega
  simp only [Int.mul_tdiv_cancel_left _ hg, Int.mul_tdiv_cancel_left _ hk, Int.mul_ediv_cancel_left _ hg, Int.mul_ediv_cancel_left _ hk] at h
  split at h
  · cases h
  · have hs1 : 1 ≤ s := by
      rcases Int.lt_or_le s 1 with h1 | h1
      · have : k * s ≤ k * 0 := Int.mul_le_mul_of_nonneg_left (by omega) (by omega)
        omega
      · exact h1
    have hq1 : 1 ≤ q := by
      rcases Int.lt_or_le q 1 with h1 | h1
      · have : g * q ≤ g * 0 := Int.mul_le_mul_of_nonneg_left (by omega) (by omega)
        omega
      · exact h1
    have hsq : 1 ≤ s * q := by
      have : 1 * 1 ≤ s * q := Int.mul_le_mul hs1 hq1 (by omega) (by omega)
      omega
    obtain ⟨hv, e⟩ := (lowF_iff hsq).1 h
    refine ⟨hv, ?_⟩
    have e2 := congrArg (· * (g * k)) e
    simp only [Int.mul_assoc, Int.mul_comm, Int.mul_left_comm] at e2 ⊢
    exact e2.symm
theorem max_mul_zero (x : Int) : max (0 : Int) (-0) * x = 0 := by simp
theorem mulF_comm (an ad bn bd : Int) : mulF an ad bn bd = mulF bn bd an ad := by
  unfold mulF
  generalize gcdI an bd = g
  generalize gcdI bn ad = k
  simp only
  have ew : bn.tdiv k * an.tdiv g = an.tdiv g * bn.tdiv k := Int.mul_comm _ _
  have ed : bd / g * (ad / k) = ad / k * (bd / g) := Int.mul_comm _ _
  rw [ew, ed]
  generalize an.tdiv g = x
  generalize bn.tdiv k = y
  by_cases hx : x = 0
  · subst hx
    by_cases hy : y = 0
    · subst hy; simp
    · simp [hy]
  · by_cases hy : y = 0
    · subst hy; simp
    · have : max y (-y) * max x (-x) = max x (-x) * max y (-y) := Int.mul_comm _ _
      simp only [hx, hy, this, ne_eq, not_false_eq_true, true_and]
theorem addS_comm (an ad bn bd : Int) : addS an ad bn bd = addS bn bd an ad := by
  unfold addS
  rw [Bool.and_comm, Int.add_comm (an * bd), Int.mul_comm ad bd]
theorem mulS_comm (an ad bn bd : Int) : mulS an ad bn bd = mulS bn bd an ad := by
  unfold mulS
  rw [Bool.and_comm, mulF_comm]
theorem okL_ok {r : Option (Int × Int)} {x y : Int} (h : okL r = (x, y, 0)) : r = some (x, y) := by
  rcases r with _ | ⟨a, b⟩
  · simp [okL] at h
  · simp [okL] at h; rw [h.1, h.2]
theorem addS_ok {an ad bn bd x y : Int} (h : addS an ad bn bd = (x, y, 0)) : vld an ad = true ∧ vld bn bd = true ∧ vld x y = true ∧ x * (ad * bd) = (an * bd + bn * ad) * y := by
  unfold addS at h
  split at h
  · rename_i hv
    rw [Bool.and_eq_true] at hv
    have hp : 1 ≤ ad * bd := by
      have : 1 * 1 ≤ ad * bd := Int.mul_le_mul (vld_pos hv.1) (vld_pos hv.2) (by omega) (by have := vld_pos hv.1; omega)
      omega
    obtain ⟨h1, h2⟩ := (lowF_iff hp).1 (okL_ok h)
    exact ⟨hv.1, hv.2, h1, h2.symm⟩
  · simp at h
theorem mulS_ok {an ad bn bd x y : Int} (h : mulS an ad bn bd = (x, y, 0)) : vld an ad = true ∧ vld bn bd = true ∧ vld x y = true ∧ x * (ad * bd) = an * bn * y := by
  unfold mulS at h
  split at h
  · rename_i hv
    rw [Bool.and_eq_true] at hv
    obtain ⟨h1, h2⟩ := mulF_iff hv.1 hv.2 (okL_ok h)
    exact ⟨hv.1, hv.2, h1, h2⟩
  · simp at h
/-- Sub undoes Add. -/
theorem sub_add {an ad bn bd x y : Int} (h : addS an ad bn bd = (x, y, 0)) : subS x y bn bd = (an, ad, 0) := by
  obtain ⟨va, vb, vx, e⟩ := addS_ok h
  have hp : 1 ≤ y * bd := by
    have : 1 * 1 ≤ y * bd := Int.mul_le_mul (vld_pos vx) (vld_pos vb) (by omega) (by have := vld_pos vx; omega)
    omega
  have hl : lowF (x * bd + -bn * y) (y * bd) = some (an, ad) := (lowF_iff hp).2 ⟨va, by
    simp only [Int.mul_add, Int.add_mul, Int.neg_mul, Int.mul_neg, Int.mul_assoc, Int.mul_comm, Int.mul_left_comm] at e ⊢
    omega⟩
  unfold subS
  rw [vx, vb, hl]
  rfl
theorem pos_mul {a b : Int} (ha : 1 ≤ a) (hb : 1 ≤ b) : 1 ≤ a * b := by
  have : 1 * 1 ≤ a * b := Int.mul_le_mul ha hb (by omega) (by omega)
  omega
/-- A product with a sum is the sum of the products. -/
theorem mul_add {an ad bn bd cn cd s0 s1 t0 t1 u0 u1 v0 v1 w0 w1 : Int} (hs : addS bn bd cn cd = (s0, s1, 0)) (ht : mulS an ad s0 s1 = (t0, t1, 0)) (hu : mulS an ad bn bd = (u0, u1, 0)) (hv : mulS an ad cn cd = (v0, v1, 0)) (hw : addS u0 u1 v0 v1 = (w0, w1, 0)) : t0 = w0 ∧ t1 = w1 := by
  obtain ⟨vb, vc, vs, es⟩ := addS_ok hs
  obtain ⟨va, _, vt, et⟩ := mulS_ok ht
  obtain ⟨_, _, vu, eu⟩ := mulS_ok hu
  obtain ⟨_, _, vv, ev⟩ := mulS_ok hv
  obtain ⟨_, _, vw, ew⟩ := addS_ok hw
  refine vld_unique vt vw ?_
  have hK : 1 ≤ (ad * s1) * ((bd * cd) * (u1 * v1)) := pos_mul (pos_mul (vld_pos va) (vld_pos vs)) (pos_mul (pos_mul (vld_pos vb) (vld_pos vc)) (pos_mul (vld_pos vu) (vld_pos vv)))
  refine Int.eq_of_mul_eq_mul_right (a := (ad * s1) * ((bd * cd) * (u1 * v1))) (by omega) ?_
  have e1 := congrArg (· * (w1 * (bd * cd) * (u1 * v1))) et
  have e2 := congrArg (· * (an * t1 * w1 * (u1 * v1))) es
  have e5 := congrArg (· * (t1 * (ad * s1) * (bd * cd))) ew
  have e3 := congrArg (· * (v1 * w1 * t1 * s1 * cd)) eu
  have e4 := congrArg (· * (u1 * w1 * t1 * s1 * bd)) ev
  simp only [Int.mul_add, Int.add_mul, Int.mul_assoc, Int.mul_comm, Int.mul_left_comm] at e1 e2 e3 e4 e5 ⊢
  omega
end Go.Proofs.YtcjpecdnenemaaaGreatDoor
