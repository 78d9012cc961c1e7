/-
  The closed facts that the row of ShareHeirs asks.
-/
import Derived.Test.YtcjpecdnenemaaaGreatDoorFac
import Derived.Test.YtcjpecdnenemaaaGreatDoorRows
namespace Go.Proofs.YtcjpecdnenemaaaGreatDoor
open Go
set_option maxRecDepth 1000000 in
set_option maxHeartbeats 4000000 in
theorem shareHeirs_facts : joinedFacts Tryz.prog 13 Tryz.f13 Rows.shareHeirsSpec Rows.shareHeirsRow = true := by
  unfold joinedFacts
  repeat' (with_reducible refine band ?_ ?_)
  · as_aux_lemma => kernel_rfl
  · exact f_laidOut
  · exact f_maps
  · as_aux_lemma => kernel_rfl
  · as_aux_lemma => kernel_rfl
  · rfl
  · exact beq_of_eq f_stops
  · rfl
  · exact beq_of_eq f_knobs
  · as_aux_lemma => kernel_rfl
  · as_aux_lemma => kernel_rfl
  · as_aux_lemma => kernel_rfl
  · as_aux_lemma => kernel_rfl
  · as_aux_lemma => kernel_rfl
  · as_aux_lemma => kernel_rfl
  · as_aux_lemma => kernel_rfl
  · as_aux_lemma => kernel_rfl
  · as_aux_lemma => kernel_rfl
  · as_aux_lemma => kernel_rfl
  · as_aux_lemma => kernel_rfl
  · as_aux_lemma => kernel_rfl
  · as_aux_lemma => kernel_rfl
  · exact beq_of_eq (show Rows.shareHeirsRow.plainKeys = Tryz.prog.plainKeys from f_keys.symm)
  · rfl
  · exact f_heard
  · exact f_may
  · exact beq_of_eq (show Rows.shareHeirsRow.lifted = Tryz.prog.liftsFinal from f_lifts.symm)
  · rw [f_make]; rfl
  · as_aux_lemma => kernel_rfl
  · as_aux_lemma => kernel_rfl
  · as_aux_lemma => kernel_rfl
  · as_aux_lemma => kernel_rfl
set_option maxRecDepth 1000000 in
theorem shareHeirs_named : Tryz.prog.funcNamed Rows.shareHeirsRow.func = some 13 := by kernel_rfl
set_option maxRecDepth 1000000 in
theorem shareHeirs_inst : Tryz.f13.isInstance Tryz.prog Rows.shareHeirsRow.origin Rows.shareHeirsRow.targs := of_decide_eq_true (by kernel_rfl)
set_option maxRecDepth 1000000 in
theorem shareHeirs_wrap : Tryz.f13.isWrapper Tryz.prog Rows.shareHeirsRow.wrapper Rows.shareHeirsRow.mainSum := by unfold Func.isWrapper; first | (rw [if_pos (by decide +kernel)]; kernel_rfl) | (rw [if_neg (by decide +kernel)]; exact ⟨rfl, rfl⟩)
end Go.Proofs.YtcjpecdnenemaaaGreatDoor
