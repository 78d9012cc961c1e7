/-
  The closed facts that the row of MarkSure asks.
-/
import Derived.Test.YtologmoanaccpaaGreatDoorFac
import Derived.Test.YtologmoanaccpaaGreatDoorRows
namespace Go.Proofs.YtologmoanaccpaaGreatDoor
open Go
set_option maxRecDepth 1000000 in
set_option maxHeartbeats 4000000 in
theorem markSure_facts : joinedFacts Tryz.prog 16 Tryz.f16 Rows.markSureSpec Rows.markSureRow = true := by
  unfold joinedFacts
  repeat' (with_reducible refine band ?_ ?_)
  · as_aux_lemma => kernel_rfl
  · exact f_laidOut
  · exact f_maps
  · as_aux_lemma => kernel_rfl
  · as_aux_lemma => kernel_rfl
  · rfl
  · exact beq_of_eq f_stops
  · rfl
  · exact beq_of_eq f_knobs
  · as_aux_lemma => kernel_rfl
  · as_aux_lemma => kernel_rfl
  · as_aux_lemma => kernel_rfl
  · as_aux_lemma => kernel_rfl
  · as_aux_lemma => kernel_rfl
  · as_aux_lemma => kernel_rfl
  · as_aux_lemma => kernel_rfl
  · as_aux_lemma => kernel_rfl
  · as_aux_lemma => kernel_rfl
  · as_aux_lemma => kernel_rfl
  · as_aux_lemma => kernel_rfl
  · as_aux_lemma => kernel_rfl
  · as_aux_lemma => kernel_rfl
  · exact beq_of_eq (show Rows.markSureRow.plainKeys = Tryz.prog.plainKeys from f_keys.symm)
  · rfl
  · exact f_heard
  · exact f_may
  · exact beq_of_eq (show Rows.markSureRow.lifted = Tryz.prog.liftsFinal from f_lifts.symm)
  · rw [f_make]; rfl
  · as_aux_lemma => kernel_rfl
  · as_aux_lemma => kernel_rfl
  · as_aux_lemma => kernel_rfl
  · as_aux_lemma => kernel_rfl
set_option maxRecDepth 1000000 in
theorem markSure_named : Tryz.prog.funcNamed Rows.markSureRow.func = some 16 := by kernel_rfl
set_option maxRecDepth 1000000 in
theorem markSure_inst : Tryz.f16.isInstance Tryz.prog Rows.markSureRow.origin Rows.markSureRow.targs := of_decide_eq_true (by kernel_rfl)
set_option maxRecDepth 1000000 in
theorem markSure_wrap : Tryz.f16.isWrapper Tryz.prog Rows.markSureRow.wrapper Rows.markSureRow.mainSum := by unfold Func.isWrapper; first | (rw [if_pos (by decide +kernel)]; kernel_rfl) | (rw [if_neg (by decide +kernel)]; exact ⟨rfl, rfl⟩)
end Go.Proofs.YtologmoanaccpaaGreatDoor
