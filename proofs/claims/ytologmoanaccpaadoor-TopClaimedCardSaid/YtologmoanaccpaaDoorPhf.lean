/-
  The closed facts that the row of TopClaimed asks.
-/
import Derived.Test.YtologmoanaccpaaDoorFac
import Derived.Test.YtologmoanaccpaaDoorRows
namespace Go.Proofs.YtologmoanaccpaaDoor
open Go
set_option maxRecDepth 1000000 in
set_option maxHeartbeats 4000000 in
theorem topClaimed_facts : joinedFacts Tryd.prog 4 Tryd.f4 Rows.topClaimedSpec Rows.topClaimedRow = true := by
  unfold joinedFacts
  repeat' (with_reducible refine band ?_ ?_)
  · as_aux_lemma => kernel_rfl
  · exact f_laidOut
  · exact f_maps
  · as_aux_lemma => kernel_rfl
  · as_aux_lemma => kernel_rfl
  · rfl
  · exact beq_of_eq f_stops
  · rfl
  · exact beq_of_eq f_knobs
  · as_aux_lemma => kernel_rfl
  · as_aux_lemma => kernel_rfl
  · as_aux_lemma => kernel_rfl
  · as_aux_lemma => kernel_rfl
  · as_aux_lemma => kernel_rfl
  · as_aux_lemma => kernel_rfl
  · as_aux_lemma => kernel_rfl
  · as_aux_lemma => kernel_rfl
  · as_aux_lemma => kernel_rfl
  · as_aux_lemma => kernel_rfl
  · as_aux_lemma => kernel_rfl
  · as_aux_lemma => kernel_rfl
  · as_aux_lemma => kernel_rfl
  · exact beq_of_eq (show Rows.topClaimedRow.plainKeys = Tryd.prog.plainKeys from f_keys.symm)
  · rfl
  · exact f_heard
  · exact f_may
  · exact beq_of_eq (show Rows.topClaimedRow.lifted = Tryd.prog.liftsFinal from f_lifts.symm)
  · rw [f_make]; rfl
  · as_aux_lemma => kernel_rfl
  · as_aux_lemma => kernel_rfl
  · as_aux_lemma => kernel_rfl
  · as_aux_lemma => kernel_rfl
set_option maxRecDepth 1000000 in
theorem topClaimed_named : Tryd.prog.funcNamed Rows.topClaimedRow.func = some 4 := by kernel_rfl
set_option maxRecDepth 1000000 in
theorem topClaimed_inst : Tryd.f4.isInstance Tryd.prog Rows.topClaimedRow.origin Rows.topClaimedRow.targs := of_decide_eq_true (by kernel_rfl)
set_option maxRecDepth 1000000 in
theorem topClaimed_wrap : Tryd.f4.isWrapper Tryd.prog Rows.topClaimedRow.wrapper Rows.topClaimedRow.mainSum := by unfold Func.isWrapper; first | (rw [if_pos (by decide +kernel)]; kernel_rfl) | (rw [if_neg (by decide +kernel)]; exact ⟨rfl, rfl⟩)
end Go.Proofs.YtologmoanaccpaaDoor
