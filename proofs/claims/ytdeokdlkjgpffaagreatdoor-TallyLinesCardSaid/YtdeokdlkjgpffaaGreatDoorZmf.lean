/-
  The closed facts that the row of TallyLines asks.
-/
import Derived.Test.YtdeokdlkjgpffaaGreatDoorFac
import Derived.Test.YtdeokdlkjgpffaaGreatDoorRows
namespace Go.Proofs.YtdeokdlkjgpffaaGreatDoor
open Go
set_option maxRecDepth 1000000 in
set_option maxHeartbeats 4000000 in
theorem tallyLines_facts : joinedFacts Tryz.prog 3 Tryz.f3 Rows.tallyLinesSpec Rows.tallyLinesRow = true := by
  unfold joinedFacts
  repeat' (with_reducible refine band ?_ ?_)
  · as_aux_lemma => kernel_rfl
  · exact f_laidOut
  · exact f_maps
  · as_aux_lemma => kernel_rfl
  · as_aux_lemma => kernel_rfl
  · rfl
  · exact beq_of_eq f_stops
  · rfl
  · exact beq_of_eq f_knobs
  · as_aux_lemma => kernel_rfl
  · as_aux_lemma => kernel_rfl
  · as_aux_lemma => kernel_rfl
  · as_aux_lemma => kernel_rfl
  · as_aux_lemma => kernel_rfl
  · as_aux_lemma => kernel_rfl
  · as_aux_lemma => kernel_rfl
  · as_aux_lemma => kernel_rfl
  · as_aux_lemma => kernel_rfl
  · as_aux_lemma => kernel_rfl
  · as_aux_lemma => kernel_rfl
  · as_aux_lemma => kernel_rfl
  · as_aux_lemma => kernel_rfl
  · exact beq_of_eq (show Rows.tallyLinesRow.plainKeys = Tryz.prog.plainKeys from f_keys.symm)
  · rfl
  · exact f_heard
  · exact f_may
  · exact beq_of_eq (show Rows.tallyLinesRow.lifted = Tryz.prog.liftsFinal from f_lifts.symm)
  · rw [f_make]; rfl
  · as_aux_lemma => kernel_rfl
  · as_aux_lemma => kernel_rfl
  · as_aux_lemma => kernel_rfl
  · as_aux_lemma => kernel_rfl
set_option maxRecDepth 1000000 in
theorem tallyLines_named : Tryz.prog.funcNamed Rows.tallyLinesRow.func = some 3 := by kernel_rfl
set_option maxRecDepth 1000000 in
theorem tallyLines_inst : Tryz.f3.isInstance Tryz.prog Rows.tallyLinesRow.origin Rows.tallyLinesRow.targs := of_decide_eq_true (by kernel_rfl)
set_option maxRecDepth 1000000 in
theorem tallyLines_wrap : Tryz.f3.isWrapper Tryz.prog Rows.tallyLinesRow.wrapper Rows.tallyLinesRow.mainSum := by unfold Func.isWrapper; first | (rw [if_pos (by decide +kernel)]; kernel_rfl) | (rw [if_neg (by decide +kernel)]; exact ⟨rfl, rfl⟩)
end Go.Proofs.YtdeokdlkjgpffaaGreatDoor
