/-
  ShareDivides returns true at every input, and its arguments read behind the call as they read before, where the seven listed variables of Go's library hold what the program's own text lays in them: the tied card.
-/
import Derived.Test.YtcjpecdnenemaaaGreatDoorC10f
import Derived.Test.YtcjpecdnenemaaaGreatDoorL10
import Derived.Test.YtcjpecdnenemaaaGreatDoorTie
import Derived.Test.YtcjpecdnenemaaaGreatDoorCards
import Derived.SevenTiedAt
namespace Go.Proofs.YtcjpecdnenemaaaGreatDoor
open Go
set_option maxRecDepth 1000000 in
theorem shareDivides_holds : Rows.ShareDividesSaid :=
  OpenClaim.holds_of_wide 10 Tryz.f10 rfl rfl rfl rfl rfl rfl rfl ⟨rfl, rfl, rfl, rfl, rfl⟩ rfl rfl rfl rfl rfl shareDivides_named Tryz.func10 shareDivides_facts shareDivides_inst shareDivides_wrap
    (fun os started H enc _ => by rw [OpenClaim.pre_eq_preRow]; exact shareDivides_lifted os started H enc (fun _ _ _ => 0))
set_option maxRecDepth 1000000 in
theorem shareDivides_card : Rows.ShareDividesCardSaid :=
  Claim7.holds_tied_plain_at .later [] [.data, .data, .data, .data, .sentinel, .sentinel, .pinned] true (true, "d7510c7d612f9135e5e2bf9293482730b769e69db1fe005281f6a56b6e528d0f") true shareDivides_holds (fun _ h => by cases h) (by as_aux_lemma => kernel_rfl) (fun _ h => by cases h) shareDivides_row_tie rfl ⟨rfl, rfl⟩ f_main rfl
    (fun f fn hf hfn => by
      obtain rfl : f = 10 := Option.some.inj (shareDivides_named.symm.trans hf) |>.symm
      obtain rfl : fn = Tryz.f10 := (Option.some.inj (Tryz.func10.symm.trans hfn)).symm
      exact ⟨f_looks.symm, fun j t ht => by
        rw [Tryz.params10] at ht
        have hm : t ∈ [23,3,55] := by simpa using Array.mem_of_getElem? ht
        have hall : ([23,3,55].all fun u => !Tryz.prog.wantsStandIn u) = true := by as_aux_lemma => kernel_rfl
        exact (show Tryz.prog.wantsStandIn t = false by simpa using List.all_eq_true.1 hall t hm)⟩)
    (by as_aux_lemma => kernel_rfl)
end Go.Proofs.YtcjpecdnenemaaaGreatDoor
