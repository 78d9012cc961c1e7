/- ShareHeirs: the math of shares -/
import Derived.Test.YtcjpecdnenemaaaGreatDoorRv
import Derived.Test.YtcjpecdnenemaaaGreatDoorSm1
import Derived.Test.YtcjpecdnenemaaaGreatDoorMs9
namespace Go.Proofs.YtcjpecdnenemaaaGreatDoor
set_option linter.all false
open Go.RowKit Go.Shelf Go.Sort

theorem okL_ok0 {o : Option (Int × Int)} (h : (okL o).2.2 = 0) : ∃ r, o = some r ∧ okL o = (r.1, r.2, 0) := by
  cases o with
  | none => simp [okL] at h
  | some r => obtain ⟨a, b⟩ := r; exact ⟨_, rfl, rfl⟩
theorem share_one {sn sd s z : Int} (hd : 1 ≤ sd) (hs : 1 ≤ s) (h : (shareS sn sd s z).2.2 = 0) :
    ∃ p : Int × Int, ((shareS sn sd s z).1, (shareS sn sd s z).2.1) = p ∧ vld p.1 p.2 = true ∧ val p = val (sn * z, sd * s) := by
  unfold shareS normS at h ⊢
  split at h
  · cases h
  · rename_i hc
    rw [if_neg hc]
    obtain ⟨r, h1, h2⟩ := okL_ok0 h
    obtain ⟨h3, h4⟩ := low_val (Int.add_one_le_iff.2 (pm hd hs)) h1
    exact ⟨r, by rw [h2], h4, h3⟩
theorem share_zero {sn sd s z : Int} {p : Int × Int} (hd : 1 ≤ sd) (hs : 1 ≤ s) (hp : vld p.1 p.2 = true) (hv : val p = val (sn * z, sd * s)) (h0 : 0 < sn) : p.1 = 0 ↔ z = 0 := by
  have hq := vld_pos hp
  have e := (val_eq hq (Int.add_one_le_iff.2 (pm hd hs))).1 (show val (p.1, p.2) = val (sn * z, sd * s) from hv)
  have hds := pm hd hs
  constructor
  · intro h
    rw [h, Int.zero_mul] at e
    rcases Int.mul_eq_zero.1 e.symm with h1 | h1
    · rcases Int.mul_eq_zero.1 h1 with h2 | h2
      · omega
      · exact h2
    · omega
  · intro h
    rw [h, Int.mul_zero, Int.zero_mul] at e
    rcases Int.mul_eq_zero.1 e with h1 | h1
    · exact h1
    · omega
/-- the values of fractions together -/
def sumR : List (Int × Int) → Rat
  | [] => 0
  | p :: l => val p + sumR l
theorem sumF_val : ∀ (es : List (Int × Int)) (acc r : Int × Int), vld acc.1 acc.2 = true → (∀ p ∈ es, vld p.1 p.2 = true) → es.foldl addO (some acc) = some r → val r = val acc + sumR es ∧ vld r.1 r.2 = true
  | [], acc, r, ha, _, h => by simp at h; subst h; exact ⟨by simp [sumR]; grind, ha⟩
  | e :: es, acc, r, ha, hg, h => by
    rw [List.foldl_cons] at h
    rcases hs : addO (some acc) e with _ | a
    · rw [hs, addO_none] at h; cases h
    · rw [hs] at h
      obtain ⟨h1, h2⟩ := addO_val ha (hg e (List.mem_cons_self ..)) hs
      obtain ⟨h3, h4⟩ := sumF_val es a r h2 (fun x hx => hg x (List.mem_cons_of_mem _ hx)) h
      exact ⟨by rw [h3, h1, sumR]; grind, h4⟩
theorem val_part {a d : Int} : val (a, d) = (a : Rat) * val (1, d) := by
  rw [← val_int, val_mul, Int.mul_one, Int.one_mul]
theorem shares_sum {sn sd s : Int} (hd : 1 ≤ sd) (hs : 1 ≤ s) : ∀ zs : List Int, (∀ z ∈ zs, (shareS sn sd s z).2.2 = 0) → sumR (shareL sn sd s zs) = ((sn * zs.sum : Int) : Rat) * val (1, sd * s) ∧ ∀ p ∈ shareL sn sd s zs, vld p.1 p.2 = true
  | [], _ => ⟨by simp [shareL, sumR], fun p hp => by simp [shareL] at hp⟩
  | z :: zs, h => by
    obtain ⟨p, hp1, hp2, hp3⟩ := share_one hd hs (h z (List.mem_cons_self ..))
    obtain ⟨i1, i2⟩ := shares_sum hd hs zs (fun x hx => h x (List.mem_cons_of_mem _ hx))
    have e : shareL sn sd s (z :: zs) = p :: shareL sn sd s zs := by rw [← hp1]; rfl
    rw [e]
    refine ⟨?_, fun q hq => ?_⟩
    · rw [sumR, i1, hp3, val_part, List.sum_cons, Int.mul_add, Rat.intCast_add]
      grind
    · rcases List.mem_cons.1 hq with h | h
      · rw [h]; exact hp2
      · exact i2 q h
theorem shares_total {sn sd : Int} {zs : List Int} {x y : Int} (hv : vld sn sd = true) (hs : 1 ≤ zs.sum) (h : ∀ z ∈ zs, (shareS sn sd zs.sum z).2.2 = 0) (hx : sumS (shareL sn sd zs.sum zs) = (x, y, 0)) : x = sn ∧ y = sd := by
  have hd := vld_pos hv
  obtain ⟨h1, h2⟩ := shares_sum hd hs zs h
  unfold sumS at hx
  split at hx
  · simp at hx
  · rw [if_pos (by rw [List.all_eq_true]; exact h2)] at hx
    obtain ⟨r, h3, h4⟩ := okL_ok0 (show (okL (sumF (shareL sn sd zs.sum zs))).2.2 = 0 by rw [hx])
    rw [h4] at hx
    obtain ⟨h5, h6⟩ := sumF_val _ (0, 1) r (by decide) h2 h3
    have e : val r = val (sn, sd) := by
      rw [h5, h1, ← val_part, val_int]
      have : val (sn * zs.sum, sd * zs.sum) = val (sn, sd) := (val_eq (Int.add_one_le_iff.2 (pm hd hs)) hd).2 (by rw [Int.mul_assoc, Int.mul_comm zs.sum])
      rw [this]
      grind
    have := val_inj h6 hv e
    injection hx with a b
    injection b with b _
    subst this
    exact ⟨a.symm, b.symm⟩
theorem share_mul {sn sd s z x y x' y' : Int} {p : Int × Int} (hv : vld sn sd = true) (hs : 1 ≤ s) (hs2 : s ≤ 40000) (z0 : 0 ≤ z) (z1 : z ≤ 1000) (hp : vld p.1 p.2 = true) (hpv : val p = val (sn * z, sd * s))
    (h1 : mulS p.1 p.2 s 1 = (x, y, 0)) (h2 : mulS sn sd z 1 = (x', y', 0)) : x = x' ∧ y = y' := by
  have hd := vld_pos hv
  unfold mulS at h1 h2
  split at h1
  · split at h2
    · obtain ⟨m, a1, a2⟩ := okL_ok0 (show (okL (mulF p.1 p.2 s 1)).2.2 = 0 by rw [h1])
      obtain ⟨m', b1, b2⟩ := okL_ok0 (show (okL (mulF sn sd z 1)).2.2 = 0 by rw [h2])
      rw [a2] at h1
      rw [b2] at h2
      obtain ⟨c1, c2⟩ := mulF_val hp (by omega) (by omega) a1
      obtain ⟨d1, d2⟩ := mulF_val (p := (sn, sd)) hv (by omega) (by omega) b1
      have e : val m = val m' := by
        rw [c1, d1, hpv, ← val_int, ← val_int, val_mul, val_mul, Int.mul_one, Int.mul_one]
        exact (val_eq (Int.add_one_le_iff.2 (pm hd hs)) hd).2 (by rw [Int.mul_assoc, Int.mul_comm s])
      have := val_inj c2 d2 e
      subst this
      injection h1 with p1 p2
      injection p2 with p2 _
      injection h2 with q1 q2
      injection q2 with q2 _
      exact ⟨p1.symm.trans q1, p2.symm.trans q2⟩
    · simp at h2
  · simp at h1
end Go.Proofs.YtcjpecdnenemaaaGreatDoor
