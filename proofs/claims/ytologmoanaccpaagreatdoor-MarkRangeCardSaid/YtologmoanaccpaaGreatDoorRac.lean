/-
  MarkRange returns true at every input, and its arguments read behind the call as they read before, where the listed variables of Go's library hold what the program's own text lays in it: the tied card.
-/
import Derived.Test.YtologmoanaccpaaGreatDoorRaf
import Derived.Test.YtologmoanaccpaaGreatDoorRal
import Derived.Test.YtologmoanaccpaaGreatDoorTie
import Derived.Test.YtologmoanaccpaaGreatDoorCards
import Derived.SevenTiedAt
namespace Go.Proofs.YtologmoanaccpaaGreatDoor
open Go
set_option maxRecDepth 1000000 in
theorem markRange_holds : Rows.MarkRangeSaid :=
  OpenClaim.holds_of_wide 17 Tryz.f17 rfl rfl rfl rfl rfl rfl rfl ⟨rfl, rfl, rfl, rfl, rfl⟩ rfl rfl rfl rfl rfl markRange_named Tryz.func17 markRange_facts markRange_inst markRange_wrap
    (fun os started H enc _ => by rw [OpenClaim.pre_eq_preRow]; exact markRange_lifted os started H enc (fun _ _ _ => 0))
set_option maxRecDepth 1000000 in
theorem markRange_card : Rows.MarkRangeCardSaid :=
  Claim7.holds_tied_plain_at .later [] [.data, .data, .pinned] true (true, "a7329a36c1e71eb0fe7c499f826df4acd111813cc9b93005399adacc552b864c") true markRange_holds (fun _ h => by cases h) (by as_aux_lemma => kernel_rfl) (fun _ h => by cases h) markRange_row_tie rfl ⟨rfl, rfl⟩ f_main rfl
    (fun f fn hf hfn => by
      obtain rfl : f = 17 := Option.some.inj (markRange_named.symm.trans hf) |>.symm
      obtain rfl : fn = Tryz.f17 := (Option.some.inj (Tryz.func17.symm.trans hfn)).symm
      exact ⟨f_looks.symm, fun j t ht => by
        rw [Tryz.params17] at ht
        have hm : t ∈ [25,3,62,70,43,3] := by simpa using Array.mem_of_getElem? ht
        have hall : ([25,3,62,70,43,3].all fun u => !Tryz.prog.wantsStandIn u) = true := by as_aux_lemma => kernel_rfl
        exact (show Tryz.prog.wantsStandIn t = false by simpa using List.all_eq_true.1 hall t hm)⟩)
    (by as_aux_lemma => kernel_rfl)
end Go.Proofs.YtologmoanaccpaaGreatDoor
