/-
  ShareInForce returns true at every input, and leaves its arguments as they were, where the listed library variables hold what the program's text lays.
-/
import Derived.Test.YtcjpecdnenemaaaGreatDoorOp2
import Derived.Test.YtcjpecdnenemaaaGreatDoorGT
import Derived.Test.YtcjpecdnenemaaaGreatDoorSF
import Derived.Test.YtcjpecdnenemaaaGreatDoorFac
namespace Go.Proofs.YtcjpecdnenemaaaGreatDoor
set_option linter.all false
open Go.ChangeShapes Go.WideShapes Go.RowKit Go.Shelf

set_option maxRecDepth 1000000 in
theorem shareInForce_lifted (os : Os) (started : os.Started) (H : Type) (enc : TypeId × Value → H) (F : Stop.Interp) :
    ReturnsInHanded {} Tryz.checked os 6 .any ((OpenSpec.ofChange Rows.shareInForceSpec).preRow enc Tryz.prog Tryz.f6 Rows.shareInForceRow.domain false Rows.shareInForceRow.laid)
      (((OpenSpec.ofChange Rows.shareInForceSpec).at F).post enc Tryz.prog Tryz.f6 false true false false) := by
  refine returnsInHanded_of_row (C := Tryz.checked) (s := OpenSpec.ofChange Rows.shareInForceSpec) own_ started (by kernel_rfl) Tryz.func6
    (ChangeSpec.witness_shaped (enc := enc) (C := Tryz.checked) (os := os) (s := Rows.shareInForceSpec) (X := fun w _ => laidMetH Tryz.prog Rows.shareInForceRow.laid w) false (World.laidAll Tryz.prog os Rows.shareFractionsRow.laid) #[.slice none 0 0, .string ⟨#[]⟩, .int .i64 0, .int .i64 0] 8 (World.laidAll_os _ _ _)
      (wit_shaped os _) (by kernel_rfl) (by kernel_rfl) (by kernel_rfl) (wit_met os _)) ?_
  intro W base args ds gs before hval0 hW _ _ _ hL hsh _
  have hval : ∀ (j : Nat) t v, Tryz.f6.params[j]? = some t → args[j]? = some v → Value.okWide Tryz.prog W .any base t v := hval0
  have hW' := hW
  obtain ⟨p, q, hA0, hV, rfl, _, _⟩ := hW
  have hA : DataW.TrodAll enc Tryz.prog W 0 (fun _ => true) true Tryz.f6.params.toList args.toList ds p := hA0
  obtain ⟨rfl, rfl⟩ := trodVars_none hV
  simp only [List.append_nil] at hW'
  have hlt : ∀ x ∈ p, x.block < W.heap.size := fun x hx => by simpa using hW'.lt x hx
  have hstay := fun (W' : World) (hb : Below W.heap.size W W') => args_stay (P := Tryz.prog) Tryz.f6.params.toList args.toList ds p f_laidOut (by as_aux_lemma => kernel_rfl) hA hb hlt
  rw [Tryz.params6] at hA hval
  obtain ⟨v0, va0, d0, da0, p0, pa0, ea0, rfl, rfl, h0, hR0⟩ := trodAll_cons hA
  obtain ⟨v1, va1, d1, da1, p1, pa1, ea1, rfl, rfl, h1, hR1⟩ := trodAll_cons hR0
  subst ea1
  obtain ⟨v2, va2, d2, da2, p2, pa2, ea2, rfl, rfl, h2, hR2⟩ := trodAll_cons hR1
  subst ea2
  obtain ⟨v3, va3, d3, da3, p3, pa3, ea3, rfl, rfl, h3, hR3⟩ := trodAll_cons hR2
  subst ea3
  obtain ⟨rfl, rfl, rfl⟩ := trodAll_nil hR3
  obtain rfl : args = #[v0, v1, v2, v3] := by cases args; simp_all
  obtain ⟨A0, n0, c0, l0, rfl, hS0⟩ := table_open (hval 0 _ v0 rfl rfl) h0
  obtain ⟨s1, rfl, hS1⟩ := str_open (hval 1 9 v1 rfl rfl) h1
  obtain ⟨x2, rfl, rfl, rfl, wx2⟩ := open_int Tryz.underlying3 (hval 2 3 v2 rfl rfl) h2
  obtain ⟨x3, rfl, rfl, rfl, wx3⟩ := open_int Tryz.underlying3 (hval 3 3 v3 rfl rfl) h3
  have hE := env_of_laid hL hsh
  refine (inforce6_any A0 n0 c0 l0 s1 x2 x3 hS1 W hE hS0).mono fun e W' ⟨he, hk⟩ => ?_
  subst he
  exact ⟨_, rfl, _, _, _, [], _, [], hW', trodAll_mk1 (shut_bool Tryz.underlying4 _), hstay W' hk.below, rfl, hk.below.frame _, fun h => by cases h⟩
end Go.Proofs.YtcjpecdnenemaaaGreatDoor
