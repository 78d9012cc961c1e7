/-
  TopClaimed returns true at every input, and its arguments read behind the call as they read before, where the one listed variable of Go's library holds what the program's own text lays in it: the tied card.
-/
import Derived.Test.YtologmoanaccpaaDoorPhf
import Derived.Test.YtologmoanaccpaaDoorPg
import Derived.Test.YtologmoanaccpaaDoorTie
import Derived.Test.YtologmoanaccpaaDoorCards
import Derived.SevenTiedAt
namespace Go.Proofs.YtologmoanaccpaaDoor
open Go
set_option maxRecDepth 1000000 in
theorem topClaimed_holds : Rows.TopClaimedSaid :=
  OpenClaim.holds_of_wide 4 Tryd.f4 rfl rfl rfl rfl rfl rfl rfl ⟨rfl, rfl, rfl, rfl, rfl⟩ rfl rfl rfl rfl rfl topClaimed_named Tryd.func4 topClaimed_facts topClaimed_inst topClaimed_wrap
    (fun os started H enc _ => by rw [OpenClaim.pre_eq_preRow]; exact topClaimed_lifted os started H enc (fun _ _ _ => 0))
set_option maxRecDepth 1000000 in
theorem topClaimed_card : Rows.TopClaimedCardSaid :=
  Claim7.holds_tied_plain_at .later [] [.data] true (true, "783098914e3615576dc3e1752416c275bbdc2a9c2e020d6497065d8f4921c14b") false topClaimed_holds (fun _ h => by cases h) (by as_aux_lemma => kernel_rfl) (fun _ h => by cases h) topClaimed_row_tie rfl ⟨rfl, rfl⟩ f_main rfl
    (fun f fn hf hfn => by
      obtain rfl : f = 4 := Option.some.inj (topClaimed_named.symm.trans hf) |>.symm
      obtain rfl : fn = Tryd.f4 := (Option.some.inj (Tryd.func4.symm.trans hfn)).symm
      exact ⟨f_looks.symm, fun j t ht => by
        rw [Tryd.params4] at ht
        have hm : t ∈ [25,3,26,49] := by simpa using Array.mem_of_getElem? ht
        have hall : ([25,3,26,49].all fun u => !Tryd.prog.wantsStandIn u) = true := by as_aux_lemma => kernel_rfl
        exact (show Tryd.prog.wantsStandIn t = false by simpa using List.all_eq_true.1 hall t hm)⟩)
    (by as_aux_lemma => kernel_rfl)
end Go.Proofs.YtologmoanaccpaaDoor
