/-
  ShareMemory returns true at every input, and its arguments read behind the call as they read before, where the seven listed variables of Go's library hold what the program's own text lays in them: the tied card.
-/
import Derived.Test.YtcjpecdnenemaaaGreatDoorC18f
import Derived.Test.YtcjpecdnenemaaaGreatDoorMM
import Derived.Test.YtcjpecdnenemaaaGreatDoorTie
import Derived.Test.YtcjpecdnenemaaaGreatDoorCards
import Derived.SevenTiedAt
namespace Go.Proofs.YtcjpecdnenemaaaGreatDoor
open Go
set_option maxRecDepth 1000000 in
theorem shareMemory_holds : Rows.ShareMemorySaid :=
  OpenClaim.holds_of_wide 18 Tryz.f18 rfl rfl rfl rfl rfl rfl rfl ⟨rfl, rfl, rfl, rfl, rfl⟩ rfl rfl rfl rfl rfl shareMemory_named Tryz.func18 shareMemory_facts shareMemory_inst shareMemory_wrap
    (fun os started H enc _ => by rw [OpenClaim.pre_eq_preRow]; exact shareMemory_lifted os started H enc (fun _ _ _ => 0))
set_option maxRecDepth 1000000 in
theorem shareMemory_card : Rows.ShareMemoryCardSaid :=
  Claim7.holds_tied_plain_at .later [] [.data, .data, .data, .data, .sentinel, .sentinel, .pinned] true (true, "d7510c7d612f9135e5e2bf9293482730b769e69db1fe005281f6a56b6e528d0f") true shareMemory_holds (fun _ h => by cases h) (by as_aux_lemma => kernel_rfl) (fun _ h => by cases h) shareMemory_row_tie rfl ⟨rfl, rfl⟩ f_main rfl
    (fun f fn hf hfn => by
      obtain rfl : f = 18 := Option.some.inj (shareMemory_named.symm.trans hf) |>.symm
      obtain rfl : fn = Tryz.f18 := (Option.some.inj (Tryz.func18.symm.trans hfn)).symm
      exact ⟨f_looks.symm, fun j t ht => by
        rw [Tryz.params18] at ht
        have hm : t ∈ [35,37,61,55] := by simpa using Array.mem_of_getElem? ht
        have hall : ([35,37,61,55].all fun u => !Tryz.prog.wantsStandIn u) = true := by as_aux_lemma => kernel_rfl
        exact (show Tryz.prog.wantsStandIn t = false by simpa using List.all_eq_true.1 hall t hm)⟩)
    (by as_aux_lemma => kernel_rfl)
end Go.Proofs.YtcjpecdnenemaaaGreatDoor
