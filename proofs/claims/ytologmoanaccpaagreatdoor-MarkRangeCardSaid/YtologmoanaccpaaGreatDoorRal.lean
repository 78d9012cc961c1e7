/-
  MarkRange returns true at every input, and leaves its arguments as they were, where the listed library variable holds what the program's text lays.
-/
import Derived.Test.YtologmoanaccpaaGreatDoorVw
import Derived.Test.YtologmoanaccpaaGreatDoorBO
namespace Go.Proofs.YtologmoanaccpaaGreatDoor
set_option linter.all false
open Go.ChangeShapes Go.WideShapes Go.RowKit Go.Shelf

set_option maxRecDepth 1000000 in
theorem markRange_lifted (os : Os) (started : os.Started) (H : Type) (enc : TypeId × Value → H) (F : Stop.Interp) :
    ReturnsInHanded {} Tryz.checked os 17 .any ((OpenSpec.ofChange Rows.markRangeSpec).preRow enc Tryz.prog Tryz.f17 Rows.markRangeRow.domain false Rows.markRangeRow.laid)
      (((OpenSpec.ofChange Rows.markRangeSpec).at F).post enc Tryz.prog Tryz.f17 false true false false) := by
  refine returnsInHanded_of_row (C := Tryz.checked) (s := OpenSpec.ofChange Rows.markRangeSpec) own_ started (by kernel_rfl) Tryz.func17
    (ChangeSpec.witness_shaped (enc := enc) (C := Tryz.checked) (os := os) (s := Rows.markRangeSpec) (X := fun w _ => laidMetH Tryz.prog Rows.markRangeRow.laid w) false (World.laidAll Tryz.prog os Rows.markWornRow.laid) #[.agg #[.slice none 0 0, .slice none 0 0], .int .i64 0, .slice none 0 0, .slice none 0 0, .slice none 0 0, .int .i64 0] 8 (World.laidAll_os _ _ _)
      (wit_shaped os _) (by kernel_rfl) (by kernel_rfl) (by kernel_rfl) (wit_met os _)) ?_
  intro W base args ds gs before hval0 hW _ _ _ hL hsh _
  have hval : ∀ (j : Nat) t v, Tryz.f17.params[j]? = some t → args[j]? = some v → Value.okWide Tryz.prog W .any base t v := hval0
  have hW' := hW
  obtain ⟨p, q, hA0, hV, rfl, _, _⟩ := hW
  have hA : DataW.TrodAll enc Tryz.prog W 0 (fun _ => true) true Tryz.f17.params.toList args.toList ds p := hA0
  obtain ⟨rfl, rfl⟩ := trodVars_none hV
  simp only [List.append_nil] at hW'
  have hlt : ∀ x ∈ p, x.block < W.heap.size := fun x hx => by simpa using hW'.lt x hx
  have hstay := fun (W' : World) (hb : Below W.heap.size W W') => args_stay (P := Tryz.prog) Tryz.f17.params.toList args.toList ds p f_laidOut (by as_aux_lemma => kernel_rfl) hA hb hlt
  rw [Tryz.params17] at hA hval
  obtain ⟨v0, va0, d0, da0, p0, pa0, ea0, rfl, rfl, h0, hR0⟩ := trodAll_cons hA
  obtain ⟨v1, va1, d1, da1, p1, pa1, ea1, rfl, rfl, h1, hR1⟩ := trodAll_cons hR0
  subst ea1
  obtain ⟨v2, va2, d2, da2, p2, pa2, ea2, rfl, rfl, h2, hR2⟩ := trodAll_cons hR1
  subst ea2
  obtain ⟨v3, va3, d3, da3, p3, pa3, ea3, rfl, rfl, h3, hR3⟩ := trodAll_cons hR2
  subst ea3
  obtain ⟨v4, va4, d4, da4, p4, pa4, ea4, rfl, rfl, h4, hR4⟩ := trodAll_cons hR3
  subst ea4
  obtain ⟨v5, va5, d5, da5, p5, pa5, ea5, rfl, rfl, h5, hR5⟩ := trodAll_cons hR4
  subst ea5
  obtain ⟨rfl, rfl, rfl⟩ := trodAll_nil hR5
  obtain rfl : args = #[v0, v1, v2, v3, v4, v5] := by cases args; simp_all
  obtain ⟨A0, n0, c0, ms0, B0, m0, e0, fs0, rfl, hS0⟩ := sm_open (hval 0 25 v0 rfl rfl) h0
  obtain ⟨x1, rfl, rfl, rfl, wx1⟩ := open_int Tryz.underlying3 (hval 1 3 v1 rfl rfl) h1
  obtain ⟨A2, n2, c2, l2, rfl, hS2⟩ := sgs_open (hval 2 62 v2 rfl rfl) h2
  obtain ⟨A3, n3, c3, l3, rfl, hS3⟩ := cls_open (hval 3 70 v3 rfl rfl) h3
  obtain ⟨A4, n4, c4, l4, rfl, hS4⟩ := ins_open (hval 4 43 v4 rfl rfl) h4
  obtain ⟨x5, rfl, rfl, rfl, wx5⟩ := open_int Tryz.underlying3 (hval 5 3 v5 rfl rfl) h5
  have hE := env_of_laid hL
  have hM := envM_of hsh
  refine (markRange_any A0 B0 A2 A3 A4 n0 c0 m0 e0 n2 c2 n3 c3 n4 c4 ms0 fs0 x1 x5 l2 l3 l4 W hS0 hS2 hS3 hS4 (wf_i wx5) hE hM).mono fun e W' ⟨he, hk⟩ => ?_
  subst he
  exact ⟨_, rfl, _, _, _, [], _, [], hW', trodAll_mk1 (shut_bool Tryz.underlying4 _), hstay W' hk.below, rfl, hk.below.frame _, fun h => by cases h⟩
end Go.Proofs.YtologmoanaccpaaGreatDoor
