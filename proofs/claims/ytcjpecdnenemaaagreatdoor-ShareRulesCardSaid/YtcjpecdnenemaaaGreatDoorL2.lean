/-
  ShareRules returns true at every input, and leaves its arguments as they were, where the listed library variables hold what the program's text lays.
-/
import Derived.Test.YtcjpecdnenemaaaGreatDoorGT
import Derived.Test.YtcjpecdnenemaaaGreatDoorLw1
namespace Go.Proofs.YtcjpecdnenemaaaGreatDoor
set_option linter.all false
open Go.ChangeShapes Go.WideShapes Go.RowKit Go.Shelf

set_option maxRecDepth 1000000 in
theorem rules_lifted (os : Os) (started : os.Started) (H : Type) (enc : TypeId × Value → H) (F : Stop.Interp) :
    ReturnsInHanded {} Tryz.checked os 11 .any ((OpenSpec.ofChange Rows.shareRulesSpec).preRow enc Tryz.prog Tryz.f11 Rows.shareRulesRow.domain false Rows.shareRulesRow.laid)
      (((OpenSpec.ofChange Rows.shareRulesSpec).at F).post enc Tryz.prog Tryz.f11 false true false false) := by
  refine returnsInHanded_of_row (C := Tryz.checked) (s := OpenSpec.ofChange Rows.shareRulesSpec) own_ started (by kernel_rfl) Tryz.func11
    (ChangeSpec.witness_shaped (enc := enc) (C := Tryz.checked) (os := os) (s := Rows.shareRulesSpec) (X := fun w _ => laidMetH Tryz.prog Rows.shareRulesRow.laid w) false (World.laidAll Tryz.prog os Rows.shareFractionsRow.laid) #[.agg #[.int .i64 0, .int .i64 0], .agg #[.int .i64 0, .int .i64 0], .agg #[.int .i64 0, .int .i64 0]] 8 (World.laidAll_os _ _ _)
      (wit_shaped os _) (by kernel_rfl) (by kernel_rfl) (by kernel_rfl) (wit_met os _)) ?_
  intro W base args ds gs before hval0 hW _ _ _ hL hsh _
  have hval : ∀ (j : Nat) t v, Tryz.f11.params[j]? = some t → args[j]? = some v → Value.okWide Tryz.prog W .any base t v := hval0
  have hW' := hW
  obtain ⟨p, q, hA0, hV, rfl, _, _⟩ := hW
  have hA : DataW.TrodAll enc Tryz.prog W 0 (fun _ => true) true Tryz.f11.params.toList args.toList ds p := hA0
  rw [Tryz.params11] at hA hval
  obtain ⟨v0, v1, v2, d0, d1, d2, p0, p1, p2, rfl, rfl, rfl, h0, h1, h2⟩ := trodAll_three hA
  obtain ⟨rfl, rfl⟩ := trodVars_none hV
  obtain ⟨an, ad, rfl, rfl, rfl, wa, wb⟩ := frac_open (hval 0 23 v0 rfl rfl) h0
  obtain ⟨bn, bd, rfl, rfl, rfl, wc, wd⟩ := frac_open (hval 1 23 v1 rfl rfl) h1
  obtain ⟨cn, cd, rfl, rfl, rfl, we, wf⟩ := frac_open (hval 2 23 v2 rfl rfl) h2
  clear hA0 hval0
  simp only [List.append_nil] at hW'
  have hE := env_of_laid hL hsh
  refine (rules_any an ad bn bd cn cd (wf_bd wc).1 (wf_bd wc).2 W hE).mono fun e W' ⟨he, hk⟩ => ?_
  subst he
  refine ⟨_, rfl, _, _, _, [], [], [], hW', ?_, ?_, rfl, hk.below.frame _, fun h => by cases h⟩
  · exact trodAll_mk1 (shut_bool Tryz.underlying4 _)
  · exact trodAll_mk3 (frac_shut wa wb) (frac_shut wc wd) (frac_shut we wf)
end Go.Proofs.YtcjpecdnenemaaaGreatDoor
