/-
  TallySums returns true at every input, and its arguments read behind the call as they read before it, with no condition.
-/
import Derived.Test.YtjaicilnlgjdcaaVs
import Derived.Test.YtjaicilnlgjdcaaVa
namespace Go.Proofs.Ytjaicilnlgjdcaa
set_option linter.all false
open Go.ChangeShapes Go.WideShapes Go.ChangeAt Go.RowKit

set_option maxRecDepth 1000000 in
theorem tallySums_lifted (os : Os) (started : os.Started) (H : Type) (enc : TypeId × Value → H) :
    ReturnsInHanded {} Try.checked os 13 .any (Rows.tallySumsSpec.pre6 enc Try.prog Try.f13 Rows.tallySumsRow.domain false) (Rows.tallySumsSpec.post enc Try.prog Try.f13 false true false false) := by
  refine returnsInHanded_of_change (C := Try.checked) own_ started (by kernel_rfl) Try.func13
    (ChangeSpec.witness6 (enc := enc) (C := Try.checked) false ⟨#[], #[.slice none 0 0, .slice none 0 0, .agg #[.int .i64 0, .int .i64 0, .bool false], .agg #[.int .i64 0, .int .i64 0, .bool false], .int .i64 0, .int .i64 0], []⟩ 8 (by kernel_rfl) (by kernel_rfl) (by kernel_rfl) (by kernel_rfl)) ?_
  intro W base args ds gs before hval0 hW hcnd _
  have hval : ∀ (j : Nat) t v, Try.f13.params[j]? = some t → args[j]? = some v → Value.okWide Try.prog W .any base t v := hval0
  have hW' := hW
  obtain ⟨p, q, hA0, hV, rfl, hfz, hnd⟩ := hW
  have hA : DataW.TrodAll enc Try.prog W 0 (fun _ => true) true Try.f13.params.toList args.toList ds p := hA0
  obtain ⟨rfl, rfl⟩ := trodVars_none hV
  simp only [List.append_nil] at hW'
  have hlt : ∀ x ∈ p, x.block < W.heap.size := fun x hx => by simpa using hW'.lt x hx
  have hstay := fun (W' : World) (hb : Below W.heap.size W W') => args_stay (P := Try.prog) Try.f13.params.toList args.toList ds p f_laidOut (by as_aux_lemma => kernel_rfl) hA hb hlt
  rw [Try.params13] at hA hval
  obtain ⟨v0, va0, d0, da0, p0, pa0, ea0, rfl, rfl, h0, hR0⟩ := trodAll_cons hA
  obtain ⟨v1, va1, d1, da1, p1, pa1, ea1, rfl, rfl, h1, hR1⟩ := trodAll_cons hR0
  subst ea1
  obtain ⟨v2, va2, d2, da2, p2, pa2, ea2, rfl, rfl, h2, hR2⟩ := trodAll_cons hR1
  subst ea2
  obtain ⟨v3, va3, d3, da3, p3, pa3, ea3, rfl, rfl, h3, hR3⟩ := trodAll_cons hR2
  subst ea3
  obtain ⟨v4, va4, d4, da4, p4, pa4, ea4, rfl, rfl, h4, hR4⟩ := trodAll_cons hR3
  subst ea4
  obtain ⟨v5, va5, d5, da5, p5, pa5, ea5, rfl, rfl, h5, hR5⟩ := trodAll_cons hR4
  subst ea5
  obtain ⟨rfl, rfl, rfl⟩ := trodAll_nil hR5
  obtain rfl : args = #[v0, v1, v2, v3, v4, v5] := by cases args; simp_all
  obtain ⟨A0, n0, c0, l0, rfl, hS0, ok0⟩ := ivs_open (hval 0 42 v0 rfl rfl) h0
  obtain ⟨A1, n1, c1, l1, rfl, hS1, ok1⟩ := ints_open (hval 1 48 v1 rfl rfl) h1
  obtain ⟨x2, rfl, ok2⟩ := iv_open (hval 2 34 v2 rfl rfl) h2
  obtain ⟨x3, rfl, ok3⟩ := iv_open (hval 3 34 v3 rfl rfl) h3
  obtain ⟨x4, rfl, rfl, rfl, wx4⟩ := open_int Try.underlying3 (hval 4 3 v4 rfl rfl) h4
  have ok4 : okI x4 := wf_bd wx4
  obtain ⟨x5, rfl, rfl, rfl, wx5⟩ := open_int Try.underlying3 (hval 5 3 v5 rfl rfl) h5
  have ok5 : okI x5 := wf_bd wx5
  refine (sumsLaw_any A0 n0 c0 l0 A1 n1 c1 l1 x2.lo x2.hi x2.so x3.lo x3.hi x3.so x4 x5 W hS0 hS1.ints ok1).mono fun e W' ⟨he, hk⟩ => ?_
  subst he
  exact ⟨_, rfl, _, _, _, [], _, [], hW', trodAll_mk1 (shut_bool Try.underlying4 _), hstay W' hk.below, rfl, hk.below.frame _, fun h => by cases h⟩

theorem tallySums_holds : Rows.TallySumsSaid :=
  OpenClaim.holds_of_wide 13 Try.f13 rfl rfl rfl rfl rfl rfl rfl ⟨rfl, rfl, rfl, rfl, rfl⟩ rfl rfl rfl rfl rfl (by kernel_rfl) Try.func13 (by kernel_rfl)
    (of_decide_eq_true (by kernel_rfl)) (by unfold Func.isWrapper; first | (rw [if_pos (by decide +kernel)]; kernel_rfl) | (rw [if_neg (by decide +kernel)]; exact ⟨rfl, rfl⟩))
    (fun os started H enc _ => tallySums_lifted os started H enc)
#print axioms tallySums_holds
end Go.Proofs.Ytjaicilnlgjdcaa
