/-
  ShareHeirs returns true at every input, and its arguments read behind the call as they read before, where the seven listed variables of Go's library hold what the program's own text lays in them: the tied card.
-/
import Derived.Test.YtcjpecdnenemaaaGreatDoorC13f
import Derived.Test.YtcjpecdnenemaaaGreatDoorL13
import Derived.Test.YtcjpecdnenemaaaGreatDoorTie
import Derived.Test.YtcjpecdnenemaaaGreatDoorCards
import Derived.SevenTiedAt
namespace Go.Proofs.YtcjpecdnenemaaaGreatDoor
open Go
set_option maxRecDepth 1000000 in
theorem shareHeirs_holds : Rows.ShareHeirsSaid :=
  OpenClaim.holds_of_wide 13 Tryz.f13 rfl rfl rfl rfl rfl rfl rfl ⟨rfl, rfl, rfl, rfl, rfl⟩ rfl rfl rfl rfl rfl shareHeirs_named Tryz.func13 shareHeirs_facts shareHeirs_inst shareHeirs_wrap
    (fun os started H enc _ => by rw [OpenClaim.pre_eq_preRow]; exact shareHeirs_lifted os started H enc (fun _ _ _ => 0))
set_option maxRecDepth 1000000 in
theorem shareHeirs_card : Rows.ShareHeirsCardSaid :=
  Claim7.holds_tied_plain_at .later [] [.data, .data, .data, .data, .sentinel, .sentinel, .pinned] true (true, "d7510c7d612f9135e5e2bf9293482730b769e69db1fe005281f6a56b6e528d0f") true shareHeirs_holds (fun _ h => by cases h) (by as_aux_lemma => kernel_rfl) (fun _ h => by cases h) shareHeirs_row_tie rfl ⟨rfl, rfl⟩ f_main rfl
    (fun f fn hf hfn => by
      obtain rfl : f = 13 := Option.some.inj (shareHeirs_named.symm.trans hf) |>.symm
      obtain rfl : fn = Tryz.f13 := (Option.some.inj (Tryz.func13.symm.trans hfn)).symm
      exact ⟨f_looks.symm, fun j t ht => by
        rw [Tryz.params13] at ht
        have hm : t ∈ [23,3,55] := by simpa using Array.mem_of_getElem? ht
        have hall : ([23,3,55].all fun u => !Tryz.prog.wantsStandIn u) = true := by as_aux_lemma => kernel_rfl
        exact (show Tryz.prog.wantsStandIn t = false by simpa using List.all_eq_true.1 hall t hm)⟩)
    (by as_aux_lemma => kernel_rfl)
end Go.Proofs.YtcjpecdnenemaaaGreatDoor
