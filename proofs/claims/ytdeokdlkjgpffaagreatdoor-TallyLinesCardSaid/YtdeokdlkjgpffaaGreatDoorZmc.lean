/-
  TallyLines returns true at every input, and its arguments read behind the call as they read before, where the seven listed variables of Go's library hold what the program's own text lays in them: the tied card.
-/
import Derived.Test.YtdeokdlkjgpffaaGreatDoorZmf
import Derived.Test.YtdeokdlkjgpffaaGreatDoorZl
import Derived.Test.YtdeokdlkjgpffaaGreatDoorTie
import Derived.Test.YtdeokdlkjgpffaaGreatDoorCards
import Derived.SevenTiedAt
namespace Go.Proofs.YtdeokdlkjgpffaaGreatDoor
open Go
set_option maxRecDepth 1000000 in
theorem tallyLines_holds : Rows.TallyLinesSaid :=
  OpenClaim.holds_of_wide 3 Tryz.f3 rfl rfl rfl rfl rfl rfl rfl ⟨rfl, rfl, rfl, rfl, rfl⟩ rfl rfl rfl rfl rfl tallyLines_named Tryz.func3 tallyLines_facts tallyLines_inst tallyLines_wrap
    (fun os started H enc _ => by rw [OpenClaim.pre_eq_preRow]; exact tallyLines_lifted os started H enc (fun _ _ _ => 0))
set_option maxRecDepth 1000000 in
theorem tallyLines_card : Rows.TallyLinesCardSaid :=
  Claim7.holds_tied_plain_at .later [] [.data, .data, .data, .data, .sentinel, .sentinel, .pinned] true (true, "49ab7f2f25118f0029894c9e256ec669cdd9203d50aba6521880901a5c2507eb") true tallyLines_holds (fun _ h => by cases h) (by as_aux_lemma => kernel_rfl) (fun _ h => by cases h) tallyLines_row_tie rfl ⟨rfl, rfl⟩ f_main rfl
    (fun f fn hf hfn => by
      obtain rfl : f = 3 := Option.some.inj (tallyLines_named.symm.trans hf) |>.symm
      obtain rfl : fn = Tryz.f3 := (Option.some.inj (Tryz.func3.symm.trans hfn)).symm
      exact ⟨f_looks.symm, fun j t ht => by
        rw [Tryz.params3] at ht
        have hm : t ∈ [23,25,9,9] := by simpa using Array.mem_of_getElem? ht
        have hall : ([23,25,9,9].all fun u => !Tryz.prog.wantsStandIn u) = true := by as_aux_lemma => kernel_rfl
        exact (show Tryz.prog.wantsStandIn t = false by simpa using List.all_eq_true.1 hall t hm)⟩)
    (by as_aux_lemma => kernel_rfl)
end Go.Proofs.YtdeokdlkjgpffaaGreatDoor
