/-
  ShareOrder returns true at every input, and its arguments read behind the call as they read before, where the seven listed variables of Go's library hold what the program's own text lays in them: the tied card.
-/
import Derived.Test.YtcjpecdnenemaaaGreatDoorC5f
import Derived.Test.YtcjpecdnenemaaaGreatDoorL5
import Derived.Test.YtcjpecdnenemaaaGreatDoorTie
import Derived.Test.YtcjpecdnenemaaaGreatDoorCards
import Derived.SevenTiedAt
namespace Go.Proofs.YtcjpecdnenemaaaGreatDoor
open Go
set_option maxRecDepth 1000000 in
theorem shareOrder_holds : Rows.ShareOrderSaid :=
  OpenClaim.holds_of_wide 12 Tryz.f12 rfl rfl rfl rfl rfl rfl rfl ⟨rfl, rfl, rfl, rfl, rfl⟩ rfl rfl rfl rfl rfl shareOrder_named Tryz.func12 shareOrder_facts shareOrder_inst shareOrder_wrap
    (fun os started H enc _ => by rw [OpenClaim.pre_eq_preRow]; exact shareOrder_lifted os started H enc (fun _ _ _ => 0))
set_option maxRecDepth 1000000 in
theorem shareOrder_card : Rows.ShareOrderCardSaid :=
  Claim7.holds_tied_plain_at .later [] [.data, .data, .data, .data, .sentinel, .sentinel, .pinned] true (true, "d7510c7d612f9135e5e2bf9293482730b769e69db1fe005281f6a56b6e528d0f") true shareOrder_holds (fun _ h => by cases h) (by as_aux_lemma => kernel_rfl) (fun _ h => by cases h) shareOrder_row_tie rfl ⟨rfl, rfl⟩ f_main rfl
    (fun f fn hf hfn => by
      obtain rfl : f = 12 := Option.some.inj (shareOrder_named.symm.trans hf) |>.symm
      obtain rfl : fn = Tryz.f12 := (Option.some.inj (Tryz.func12.symm.trans hfn)).symm
      exact ⟨f_looks.symm, fun j t ht => by
        rw [Tryz.params12] at ht
        have hm : t ∈ [23,23,23] := by simpa using Array.mem_of_getElem? ht
        have hall : ([23,23,23].all fun u => !Tryz.prog.wantsStandIn u) = true := by as_aux_lemma => kernel_rfl
        exact (show Tryz.prog.wantsStandIn t = false by simpa using List.all_eq_true.1 hall t hm)⟩)
    (by as_aux_lemma => kernel_rfl)
end Go.Proofs.YtcjpecdnenemaaaGreatDoor
