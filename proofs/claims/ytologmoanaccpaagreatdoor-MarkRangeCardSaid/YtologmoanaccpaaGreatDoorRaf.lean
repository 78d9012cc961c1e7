/-
  The closed facts that the row of MarkRange asks.
-/
import Derived.Test.YtologmoanaccpaaGreatDoorFac
import Derived.Test.YtologmoanaccpaaGreatDoorRows
namespace Go.Proofs.YtologmoanaccpaaGreatDoor
open Go
set_option maxRecDepth 1000000 in
set_option maxHeartbeats 4000000 in
theorem markRange_facts : joinedFacts Tryz.prog 17 Tryz.f17 Rows.markRangeSpec Rows.markRangeRow = true := by
  unfold joinedFacts
  repeat' (with_reducible refine band ?_ ?_)
  · as_aux_lemma => kernel_rfl
  · exact f_laidOut
  · exact f_maps
  · as_aux_lemma => kernel_rfl
  · as_aux_lemma => kernel_rfl
  · rfl
  · exact beq_of_eq f_stops
  · rfl
  · exact beq_of_eq f_knobs
  · as_aux_lemma => kernel_rfl
  · as_aux_lemma => kernel_rfl
  · as_aux_lemma => kernel_rfl
  · as_aux_lemma => kernel_rfl
  · as_aux_lemma => kernel_rfl
  · as_aux_lemma => kernel_rfl
  · as_aux_lemma => kernel_rfl
  · as_aux_lemma => kernel_rfl
  · as_aux_lemma => kernel_rfl
  · as_aux_lemma => kernel_rfl
  · as_aux_lemma => kernel_rfl
  · as_aux_lemma => kernel_rfl
  · as_aux_lemma => kernel_rfl
  · exact beq_of_eq (show Rows.markRangeRow.plainKeys = Tryz.prog.plainKeys from f_keys.symm)
  · rfl
  · exact f_heard
  · exact f_may
  · exact beq_of_eq (show Rows.markRangeRow.lifted = Tryz.prog.liftsFinal from f_lifts.symm)
  · rw [f_make]; rfl
  · as_aux_lemma => kernel_rfl
  · as_aux_lemma => kernel_rfl
  · as_aux_lemma => kernel_rfl
  · as_aux_lemma => kernel_rfl
set_option maxRecDepth 1000000 in
theorem markRange_named : Tryz.prog.funcNamed Rows.markRangeRow.func = some 17 := by kernel_rfl
set_option maxRecDepth 1000000 in
theorem markRange_inst : Tryz.f17.isInstance Tryz.prog Rows.markRangeRow.origin Rows.markRangeRow.targs := of_decide_eq_true (by kernel_rfl)
set_option maxRecDepth 1000000 in
theorem markRange_wrap : Tryz.f17.isWrapper Tryz.prog Rows.markRangeRow.wrapper Rows.markRangeRow.mainSum := by unfold Func.isWrapper; first | (rw [if_pos (by decide +kernel)]; kernel_rfl) | (rw [if_neg (by decide +kernel)]; exact ⟨rfl, rfl⟩)
end Go.Proofs.YtologmoanaccpaaGreatDoor
