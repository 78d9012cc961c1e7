/-
  The closed facts that the row of ShareDivides asks.
-/
import Derived.Test.YtcjpecdnenemaaaGreatDoorFac
import Derived.Test.YtcjpecdnenemaaaGreatDoorRows
namespace Go.Proofs.YtcjpecdnenemaaaGreatDoor
open Go
set_option maxRecDepth 1000000 in
set_option maxHeartbeats 4000000 in
theorem shareDivides_facts : joinedFacts Tryz.prog 10 Tryz.f10 Rows.shareDividesSpec Rows.shareDividesRow = true := by
  unfold joinedFacts
  repeat' (with_reducible refine band ?_ ?_)
  · as_aux_lemma => kernel_rfl
  · exact f_laidOut
  · exact f_maps
  · as_aux_lemma => kernel_rfl
  · as_aux_lemma => kernel_rfl
  · rfl
  · exact beq_of_eq f_stops
  · rfl
  · exact beq_of_eq f_knobs
  · as_aux_lemma => kernel_rfl
  · as_aux_lemma => kernel_rfl
  · as_aux_lemma => kernel_rfl
  · as_aux_lemma => kernel_rfl
  · as_aux_lemma => kernel_rfl
  · as_aux_lemma => kernel_rfl
  · as_aux_lemma => kernel_rfl
  · as_aux_lemma => kernel_rfl
  · as_aux_lemma => kernel_rfl
  · as_aux_lemma => kernel_rfl
  · as_aux_lemma => kernel_rfl
  · as_aux_lemma => kernel_rfl
  · as_aux_lemma => kernel_rfl
  · exact beq_of_eq (show Rows.shareDividesRow.plainKeys = Tryz.prog.plainKeys from f_keys.symm)
  · rfl
  · exact f_heard
  · exact f_may
  · exact beq_of_eq (show Rows.shareDividesRow.lifted = Tryz.prog.liftsFinal from f_lifts.symm)
  · rw [f_make]; rfl
  · as_aux_lemma => kernel_rfl
  · as_aux_lemma => kernel_rfl
  · as_aux_lemma => kernel_rfl
  · as_aux_lemma => kernel_rfl
set_option maxRecDepth 1000000 in
theorem shareDivides_named : Tryz.prog.funcNamed Rows.shareDividesRow.func = some 10 := by kernel_rfl
set_option maxRecDepth 1000000 in
theorem shareDivides_inst : Tryz.f10.isInstance Tryz.prog Rows.shareDividesRow.origin Rows.shareDividesRow.targs := of_decide_eq_true (by kernel_rfl)
set_option maxRecDepth 1000000 in
theorem shareDivides_wrap : Tryz.f10.isWrapper Tryz.prog Rows.shareDividesRow.wrapper Rows.shareDividesRow.mainSum := by unfold Func.isWrapper; first | (rw [if_pos (by decide +kernel)]; kernel_rfl) | (rw [if_neg (by decide +kernel)]; exact ⟨rfl, rfl⟩)
end Go.Proofs.YtcjpecdnenemaaaGreatDoor
