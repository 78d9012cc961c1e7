/-
  ShareDivides returns true at every input, and leaves its arguments as they were, where the listed library variables hold what the program's text lays.
-/
import Derived.Test.YtcjpecdnenemaaaGreatDoorOp4
import Derived.Test.YtcjpecdnenemaaaGreatDoorGT
import Derived.Test.YtcjpecdnenemaaaGreatDoorDl1
import Derived.Test.YtcjpecdnenemaaaGreatDoorFac
namespace Go.Proofs.YtcjpecdnenemaaaGreatDoor
set_option linter.all false
open Go.ChangeShapes Go.WideShapes Go.RowKit Go.Shelf

set_option maxRecDepth 1000000 in
theorem shareDivides_lifted (os : Os) (started : os.Started) (H : Type) (enc : TypeId × Value → H) (F : Stop.Interp) :
    ReturnsInHanded {} Tryz.checked os 10 .any ((OpenSpec.ofChange Rows.shareDividesSpec).preRow enc Tryz.prog Tryz.f10 Rows.shareDividesRow.domain false Rows.shareDividesRow.laid)
      (((OpenSpec.ofChange Rows.shareDividesSpec).at F).post enc Tryz.prog Tryz.f10 false true false false) := by
  refine returnsInHanded_of_row (C := Tryz.checked) (s := OpenSpec.ofChange Rows.shareDividesSpec) own_ started (by kernel_rfl) Tryz.func10
    (ChangeSpec.witness_shaped (enc := enc) (C := Tryz.checked) (os := os) (s := Rows.shareDividesSpec) (X := fun w _ => laidMetH Tryz.prog Rows.shareDividesRow.laid w) false (World.laidAll Tryz.prog os Rows.shareFractionsRow.laid) #[.agg #[.int .i64 0, .int .i64 0], .int .i64 0, .slice none 0 0] 8 (World.laidAll_os _ _ _)
      (wit_shaped os _) (by kernel_rfl) (by kernel_rfl) (by kernel_rfl) (wit_met os _)) ?_
  intro W base args ds gs before hval0 hW _ _ _ hL hsh _
  have hval : ∀ (j : Nat) t v, Tryz.f10.params[j]? = some t → args[j]? = some v → Value.okWide Tryz.prog W .any base t v := hval0
  have hW' := hW
  obtain ⟨p, q, hA0, hV, rfl, _, _⟩ := hW
  have hA : DataW.TrodAll enc Tryz.prog W 0 (fun _ => true) true Tryz.f10.params.toList args.toList ds p := hA0
  obtain ⟨rfl, rfl⟩ := trodVars_none hV
  simp only [List.append_nil] at hW'
  have hlt : ∀ x ∈ p, x.block < W.heap.size := fun x hx => by simpa using hW'.lt x hx
  have hstay := fun (W' : World) (hb : Below W.heap.size W W') => args_stay (P := Tryz.prog) Tryz.f10.params.toList args.toList ds p f_laidOut (by as_aux_lemma => kernel_rfl) hA hb hlt
  rw [Tryz.params10] at hA hval
  obtain ⟨v0, va0, d0, da0, p0, pa0, ea0, rfl, rfl, h0, hR0⟩ := trodAll_cons hA
  obtain ⟨v1, va1, d1, da1, p1, pa1, ea1, rfl, rfl, h1, hR1⟩ := trodAll_cons hR0
  subst ea1
  obtain ⟨v2, va2, d2, da2, p2, pa2, ea2, rfl, rfl, h2, hR2⟩ := trodAll_cons hR1
  subst ea2
  obtain ⟨rfl, rfl, rfl⟩ := trodAll_nil hR2
  obtain rfl : args = #[v0, v1, v2] := by cases args; simp_all
  obtain ⟨x0, y0, rfl, rfl, rfl, wx0, wy0⟩ := frac_open (hval 0 23 v0 rfl rfl) h0
  obtain ⟨x1, rfl, rfl, rfl, wx1⟩ := open_int Tryz.underlying3 (hval 1 3 v1 rfl rfl) h1
  obtain ⟨A2, n2, c2, l2, rfl, hS2⟩ := ints_open (hval 2 _ v2 rfl rfl) h2
  have hE := env_of_laid hL hsh
  refine (divides_any x0 y0 x1 A2 n2 c2 l2 W hE hS2).mono fun e W' ⟨he, hk⟩ => ?_
  subst he
  exact ⟨_, rfl, _, _, _, [], _, [], hW', trodAll_mk1 (shut_bool Tryz.underlying4 _), hstay W' hk.below, rfl, hk.below.frame _, fun h => by cases h⟩
end Go.Proofs.YtcjpecdnenemaaaGreatDoor
