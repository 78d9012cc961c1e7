/-
  ShareSums returns true at every input, and leaves its arguments as they were, where the listed library variables hold what the program's text lays.
-/
import Derived.Test.YtcjpecdnenemaaaGreatDoorOp1
import Derived.Test.YtcjpecdnenemaaaGreatDoorLw4
import Derived.Test.YtcjpecdnenemaaaGreatDoorFac
namespace Go.Proofs.YtcjpecdnenemaaaGreatDoor
set_option linter.all false
open Go.ChangeShapes Go.WideShapes Go.RowKit Go.Shelf

set_option maxRecDepth 1000000 in
theorem shareSums_lifted (os : Os) (started : os.Started) (H : Type) (enc : TypeId × Value → H) (F : Stop.Interp) :
    ReturnsInHanded {} Tryz.checked os 4 .any ((OpenSpec.ofChange Rows.shareSumsSpec).preRow enc Tryz.prog Tryz.f4 Rows.shareSumsRow.domain false Rows.shareSumsRow.laid)
      (((OpenSpec.ofChange Rows.shareSumsSpec).at F).post enc Tryz.prog Tryz.f4 false true false false) := by
  refine returnsInHanded_of_row (C := Tryz.checked) (s := OpenSpec.ofChange Rows.shareSumsSpec) own_ started (by kernel_rfl) Tryz.func4
    (ChangeSpec.witness_shaped (enc := enc) (C := Tryz.checked) (os := os) (s := Rows.shareSumsSpec) (X := fun w _ => laidMetH Tryz.prog Rows.shareSumsRow.laid w) false (World.laidAll Tryz.prog os Rows.shareFractionsRow.laid) #[.slice none 0 0] 8 (World.laidAll_os _ _ _)
      (wit_shaped os _) (by kernel_rfl) (by kernel_rfl) (by kernel_rfl) (wit_met os _)) ?_
  intro W base args ds gs before hval0 hW _ _ _ hL hsh _
  have hval : ∀ (j : Nat) t v, Tryz.f4.params[j]? = some t → args[j]? = some v → Value.okWide Tryz.prog W .any base t v := hval0
  have hW' := hW
  obtain ⟨p, q, hA0, hV, rfl, _, _⟩ := hW
  have hA : DataW.TrodAll enc Tryz.prog W 0 (fun _ => true) true Tryz.f4.params.toList args.toList ds p := hA0
  obtain ⟨rfl, rfl⟩ := trodVars_none hV
  simp only [List.append_nil] at hW'
  have hlt : ∀ x ∈ p, x.block < W.heap.size := fun x hx => by simpa using hW'.lt x hx
  have hstay := fun (W' : World) (hb : Below W.heap.size W W') => args_stay (P := Tryz.prog) Tryz.f4.params.toList args.toList ds p f_laidOut (by as_aux_lemma => kernel_rfl) hA hb hlt
  rw [Tryz.params4] at hA hval
  obtain ⟨v0, va0, d0, da0, p0, pa0, ea0, rfl, rfl, h0, hR0⟩ := trodAll_cons hA
  obtain ⟨rfl, rfl, rfl⟩ := trodAll_nil hR0
  obtain rfl : args = #[v0] := by cases args; simp_all
  obtain ⟨A0, n0, c0, l0, rfl, hS0⟩ := fracs_open (hval 0 32 v0 rfl rfl) h0
  have hE := env_of_laid hL hsh
  refine (sums_any A0 n0 c0 l0 W hS0 hE).mono fun e W' ⟨he, hk⟩ => ?_
  subst he
  exact ⟨_, rfl, _, _, _, [], _, [], hW', trodAll_mk1 (shut_bool Tryz.underlying4 _), hstay W' hk.below, rfl, hk.below.frame _, fun h => by cases h⟩
end Go.Proofs.YtcjpecdnenemaaaGreatDoor
