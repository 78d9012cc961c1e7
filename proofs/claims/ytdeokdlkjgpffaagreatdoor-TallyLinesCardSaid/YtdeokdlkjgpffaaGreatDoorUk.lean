/- what the laws' sample answers: the numbers -/
import Derived.Test.YtdeokdlkjgpffaaGreatDoorUj
import Derived.Test.YtdeokdlkjgpffaaGreatDoorUe
import Derived.Test.YtdeokdlkjgpffaaGreatDoorTj
namespace Go.Proofs.YtdeokdlkjgpffaaGreatDoor
set_option linter.all false
open Go.RowKit

theorem leastOf_eq {d lw : Int} {k : Nat} (hd : 0 ≤ d) (hk : k ≤ 100000) (h1 : k = 0 ∨ hiI d ((k : Int) - 1) < lw) (h2 : lw ≤ hiI d k) : leastOf d lw = k := by
  refine firstN_eq (by omega) (fun j hj => ?_) (fun _ => by simpa using h2)
  rcases h1 with h1 | h1
  · omega
  · have := hiI_mono (a := (j : Int)) (b := (k : Int) - 1) hd (by omega)
    simp only [decide_eq_false_iff_not]; omega
theorem mostOf_eq {m hg k : Int} (hm : 0 ≤ m) (hm1 : m ≤ 1000) (h0 : 0 ≤ k) (hk : k ≤ 100000) (h1 : k = 100000 ∨ hg < loI m (k + 1)) (h2 : loI m k ≤ hg) : mostOf m hg = k := by
  have e : belowOf m hg = (100000 - k).toNat := by
    refine firstN_eq (by omega) (fun j hj => ?_) (fun _ => ?_)
    · rcases h1 with h1 | h1
      · omega
      · have := loI_mono (a := k + 1) (b := 100000 - (j : Int)) hm hm1 (by omega)
        simp only [decide_eq_false_iff_not]; omega
    · have : (100000 : Int) - ((100000 - k).toNat : Int) = k := by omega
      simp only [this, decide_eq_true_eq]; exact h2
  unfold mostOf; rw [e]; omega
theorem v187 : leastOf 20 190 = 187 := leastOf_eq (by omega) (by omega) (.inr (by decide)) (by decide)
theorem v200 : mostOf 50 190 = 200 := mostOf_eq (by omega) (by omega) (by omega) (by omega) (.inr (by decide)) (by decide)
theorem v210 : mostOf 50 200 = 210 := mostOf_eq (by omega) (by omega) (by omega) (by omega) (.inr (by decide)) (by decide)
def x1 : Rcn := ⟨1, 0, 0, 3, 200, 190⟩
def x2 : Rcn := ⟨2, 0, 0, 3, 100, 103⟩
theorem v_tr : trI 50 20 190 = (187, 200, true) := by
  unfold trI; rw [if_pos (by decide), v187, v200]; rfl
theorem v_trOk : trOk 50 20 190 = true := by decide
theorem v_oc : ocI 50 20 1 0 1 190 10 = (187, 210, true) := by
  unfold ocI; rw [if_pos (by decide), v187, show (190 : Int) + 10 = 200 by rfl, v210]; rfl
theorem v_ocOk : ocOk 50 20 1 0 1 190 10 = true := by decide
theorem v_bo : bothX 5 9 true 8 12 true = (8, 9, true) := by decide
theorem v_m1 : misI 200 190 = 50 ∧ misB 200 190 = true := by decide +kernel
theorem v_d1 : douI 200 205 = 25 ∧ douB 200 205 = true := by decide +kernel
theorem v_m2 : misI 10 4 = 0 ∧ misB 10 4 = false := by decide +kernel
theorem v_ra : rateI 10 10 [x1, x2] 3 0 = (50, 30, 0) := by decide +kernel
theorem v_wh : whyI 10 10 [x1, x2] 3 0 = ([1, 2], 0) := by decide +kernel
theorem v_sh : shL 50 20 200 = 190 ∧ shH 50 20 200 = 204 ∧ shOk 50 20 200 = true := by decide
end Go.Proofs.YtdeokdlkjgpffaaGreatDoor
