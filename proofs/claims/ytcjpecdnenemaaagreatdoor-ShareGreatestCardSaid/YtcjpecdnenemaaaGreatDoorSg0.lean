/-
  The math of P1.5: Most is the greatest number that fits, Exchange never gives more back (no run in this text).
-/
import Derived.Test.YtcjpecdnenemaaaGreatDoorUs2
import Derived.Test.YtcjpecdnenemaaaGreatDoorUf0
import Derived.Test.YtcjpecdnenemaaaGreatDoorDv3
namespace Go.Proofs.YtcjpecdnenemaaaGreatDoor
set_option linter.all false
open Go.RowKit Go.Shelf

theorem one_uses {xs : List Eqv} {fr : ByteArray} {n day known x0 x1 : Int} (h : excS xs [⟨fr, n⟩] 0 1 day known = (x0, x1, 0)) :
    val (x0, x1) = val (stS (inForceS xs fr day known)) * (n : Rat) ∧ vld x0 x1 = true := by
  obtain ⟨he, hf⟩ := excS_ok h
  obtain ⟨hg, _⟩ := zipE_good he
  obtain ⟨h1, h2⟩ := excF_val hg (by decide) hf
  refine ⟨?_, h2⟩
  rw [h1, zipE_map, val_int]
  simp only [List.map_cons, List.map_nil, sumV]
  grind
theorem most_ok {xs : List Eqv} {fr : ByteArray} {sn sd day known k : Int} (h : mostS xs fr sn sd day known = (k, 0)) :
    ∃ en ed, stS (inForceS xs fr day known) = (en, ed) ∧ vld sn sd = true ∧ vld en ed = true ∧ 0 < en ∧ k = fitS sn sd en ed := by
  unfold mostS at h
  by_cases hc : (chkS xs).2 = 0
  · rw [if_pos hc] at h
    by_cases hv : vld sn sd = true
    · rw [if_pos hv] at h
      rcases hf : inForceS xs fr day known with _ | x
      · rw [hf] at h
        simp at h
      · rw [hf] at h
        obtain ⟨v1, v2, _⟩ := inForce_ok hc hf
        simp only [Prod.mk.injEq, and_true] at h
        exact ⟨x.num, x.den, rfl, hv, v1, v2, h.symm⟩
    · rw [if_neg hv] at h
      simp at h
  · rw [if_neg hc] at h
    simp only [Prod.mk.injEq] at h
    exact absurd h.2 hc
theorem most_bad {xs : List Eqv} {fr : ByteArray} {sn sd day known k e : Int} (h : mostS xs fr sn sd day known = (k, e)) : 0 ≤ k ∧ k ≤ 100000 := by
  by_cases he : e = 0
  · subst he
    obtain ⟨en, ed, _, hs, hv, hp, rfl⟩ := most_ok h
    obtain ⟨a, b, _⟩ := fit_val hs hv hp
    exact ⟨a, b⟩
  · unfold mostS at h
    split at h
    · split at h
      · split at h
        · simp only [Prod.mk.injEq] at h; omega
        · simp only [Prod.mk.injEq] at h; omega
      · simp only [Prod.mk.injEq] at h; omega
    · simp only [Prod.mk.injEq] at h; omega
theorem great_fits {xs : List Eqv} {fr : ByteArray} {sn sd day known k x0 x1 : Int} (h : mostS xs fr sn sd day known = (k, 0)) (hx : excS xs [⟨fr, k⟩] 0 1 day known = (x0, x1, 0)) (h0 : 0 ≤ sn) : cmpS x0 x1 sn sd ≤ 0 := by
  obtain ⟨en, ed, hst, hs, hv, hp, hk⟩ := most_ok h
  obtain ⟨h1, h2⟩ := one_uses hx
  obtain ⟨_, _, h3, _⟩ := fit_val hs hv hp
  unfold cmpS
  rw [if_pos (by rw [h2, hs]; rfl)]
  refine (cmp_val (p := (x0, x1)) (q := (sn, sd)) h2 hs).2 ?_
  rw [h1, hst, hk]
  exact h3 ((val_nn (vld_pos hs)).2 h0)
theorem great_more {xs : List Eqv} {fr : ByteArray} {sn sd day known k y0 y1 : Int} (h : mostS xs fr sn sd day known = (k, 0)) (hy : excS xs [⟨fr, k + 1⟩] 0 1 day known = (y0, y1, 0)) (hk1 : k < 100000) : 0 < cmpS y0 y1 sn sd := by
  obtain ⟨en, ed, hst, hs, hv, hp, hk⟩ := most_ok h
  obtain ⟨h1, h2⟩ := one_uses hy
  obtain ⟨_, _, _, h4⟩ := fit_val hs hv hp
  rw [← hk] at h4
  have h5 := h4 hk1
  have h6 : ¬ cmpI y0 y1 sn sd ≤ 0 := fun hc => by
    have h7 := (cmp_val (p := (y0, y1)) (q := (sn, sd)) h2 hs).1 hc
    rw [h1, hst, cast_succ] at h7
    grind
  unfold cmpS
  rw [if_pos (by rw [h2, hs]; rfl)]
  omega
theorem ex_bad {xs : List Eqv} {fr tt : ByteArray} {n day known q e : Int} (h : exS xs fr tt n day known = (q, e)) (he : e ≠ 0) : q = 0 := by
  unfold exS at h
  split at h
  · split at h
    · split at h
      · simp only [Prod.mk.injEq] at h; omega
      · simp only [Prod.mk.injEq] at h; omega
    · simp only [Prod.mk.injEq] at h; omega
  · simp only [Prod.mk.injEq] at h; omega
theorem ex_ok {xs : List Eqv} {fr tt : ByteArray} {n day known q : Int} (h : exS xs fr tt n day known = (q, 0)) :
    (chkS xs).2 = 0 ∧ 0 ≤ n ∧ n ≤ 100000 ∧ ∃ x y, inForceS xs fr day known = some x ∧ inForceS xs tt day known = some y ∧ q = ratS (n * x.num) y.den (x.den * y.num) := by
  unfold exS at h
  by_cases hc : (chkS xs).2 = 0
  · rw [if_pos hc] at h
    by_cases hv : inB n 0 100000 = true
    · rw [if_pos hv] at h
      obtain ⟨a, b⟩ := inB_iff.1 hv
      rcases hf : inForceS xs fr day known with _ | x
      · rw [hf] at h; simp at h
      · rcases hg : inForceS xs tt day known with _ | y
        · rw [hf, hg] at h; simp at h
        · rw [hf, hg] at h
          simp only [Prod.mk.injEq, and_true] at h
          exact ⟨hc, a, b, x, y, rfl, rfl, h.symm⟩
    · rw [if_neg hv] at h
      simp at h
  · rw [if_neg hc] at h
    simp only [Prod.mk.injEq] at h
    exact absurd h.2 hc
theorem ex_of {xs : List Eqv} {fr tt : ByteArray} {n day known : Int} {x y : Eqv} (hc : (chkS xs).2 = 0) (a : 0 ≤ n) (b : n ≤ 100000) (hx : inForceS xs fr day known = some x) (hy : inForceS xs tt day known = some y) :
    exS xs fr tt n day known = (ratS (n * x.num) y.den (x.den * y.num), 0) := by
  unfold exS
  rw [if_pos hc, if_pos (inB_iff.2 ⟨a, b⟩), hx, hy]
theorem great_back {xs : List Eqv} {fr tt : ByteArray} {n day known q : Int} (h : exS xs fr tt n day known = (q, 0)) :
    ∃ b, exS xs tt fr q day known = (b, 0) ∧ b ≤ n := by
  obtain ⟨hc, n0, n1, x, y, hx, hy, hq⟩ := ex_ok h
  obtain ⟨vx, px, _⟩ := inForce_ok hc hx
  obtain ⟨vy, py, _⟩ := inForce_ok hc hy
  have dx := vld_pos vx
  have dy := vld_pos vy
  have c1 : 0 < x.den * y.num := Int.mul_pos (by omega) py
  have c2 : 0 < y.den * x.num := Int.mul_pos (by omega) px
  have t0 : 0 ≤ n * x.num * y.den := Int.mul_nonneg (Int.mul_nonneg n0 (by omega)) (by omega)
  have r0 := Int.ediv_nonneg t0 (Int.le_of_lt c1)
  unfold ratS at hq
  have q0 : 0 ≤ q := by omega
  have q1 : q ≤ 100000 := by omega
  have q2 : q * (x.den * y.num) ≤ n * x.num * y.den := (Int.le_ediv_iff_mul_le c1).1 (by omega)
  refine ⟨_, ex_of hc q0 q1 hy hx, ?_⟩
  unfold ratS
  have h9 : q * y.num * x.den / (y.den * x.num) ≤ n := by
    refine Int.le_of_lt_add_one ((Int.ediv_lt_iff_lt_mul c2).2 ?_)
    have e1 : q * y.num * x.den = q * (x.den * y.num) := by rw [Int.mul_assoc, Int.mul_comm y.num]
    have e2 : (n + 1) * (y.den * x.num) = n * x.num * y.den + y.den * x.num := by rw [Int.add_mul, Int.one_mul, Int.mul_comm y.den, ← Int.mul_assoc]
    omega
  omega
theorem great_same {xs : List Eqv} {fr tt : ByteArray} {n day known q : Int} (h : exS xs fr tt n day known = (q, 0)) : exS xs fr fr n day known = (n, 0) := by
  obtain ⟨hc, n0, n1, x, y, hx, hy, hq⟩ := ex_ok h
  obtain ⟨vx, px, _⟩ := inForce_ok hc hx
  have dx := vld_pos vx
  have c1 : 0 < x.den * x.num := Int.mul_pos (by omega) px
  rw [ex_of hc n0 n1 hx hx]
  unfold ratS
  rw [Int.mul_assoc, Int.mul_comm x.num, Int.mul_ediv_cancel _ (by omega)]
  rw [show min n 100000 = n by omega]
end Go.Proofs.YtcjpecdnenemaaaGreatDoor
