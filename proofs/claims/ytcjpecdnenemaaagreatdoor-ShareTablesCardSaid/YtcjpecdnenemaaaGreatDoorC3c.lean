/-
  ShareTables returns true at every input, and its arguments read behind the call as they read before, where the seven listed variables of Go's library hold what the program's own text lays in them: the tied card.
-/
import Derived.Test.YtcjpecdnenemaaaGreatDoorC3f
import Derived.Test.YtcjpecdnenemaaaGreatDoorL3
import Derived.Test.YtcjpecdnenemaaaGreatDoorTie
import Derived.Test.YtcjpecdnenemaaaGreatDoorCards
import Derived.SevenTiedAt
namespace Go.Proofs.YtcjpecdnenemaaaGreatDoor
open Go
set_option maxRecDepth 1000000 in
theorem shareTables_holds : Rows.ShareTablesSaid :=
  OpenClaim.holds_of_wide 5 Tryz.f5 rfl rfl rfl rfl rfl rfl rfl ⟨rfl, rfl, rfl, rfl, rfl⟩ rfl rfl rfl rfl rfl shareTables_named Tryz.func5 shareTables_facts shareTables_inst shareTables_wrap
    (fun os started H enc _ => by rw [OpenClaim.pre_eq_preRow]; exact shareTables_lifted os started H enc (fun _ _ _ => 0))
set_option maxRecDepth 1000000 in
theorem shareTables_card : Rows.ShareTablesCardSaid :=
  Claim7.holds_tied_plain_at .later [] [.data, .data, .data, .data, .sentinel, .sentinel, .pinned] true (true, "d7510c7d612f9135e5e2bf9293482730b769e69db1fe005281f6a56b6e528d0f") true shareTables_holds (fun _ h => by cases h) (by as_aux_lemma => kernel_rfl) (fun _ h => by cases h) shareTables_row_tie rfl ⟨rfl, rfl⟩ f_main rfl
    (fun f fn hf hfn => by
      obtain rfl : f = 5 := Option.some.inj (shareTables_named.symm.trans hf) |>.symm
      obtain rfl : fn = Tryz.f5 := (Option.some.inj (Tryz.func5.symm.trans hfn)).symm
      exact ⟨f_looks.symm, fun j t ht => by
        rw [Tryz.params5] at ht
        have hm : t ∈ [35,37,9] := by simpa using Array.mem_of_getElem? ht
        have hall : ([35,37,9].all fun u => !Tryz.prog.wantsStandIn u) = true := by as_aux_lemma => kernel_rfl
        exact (show Tryz.prog.wantsStandIn t = false by simpa using List.all_eq_true.1 hall t hm)⟩)
    (by as_aux_lemma => kernel_rfl)
end Go.Proofs.YtcjpecdnenemaaaGreatDoor
