/-
  TallyPassage returns true at every input, and its arguments read behind the call as they read before it, with no condition.
-/
import Derived.Test.YtjaicilnlgjdcaaWo
import Derived.Test.YtjaicilnlgjdcaaVa
namespace Go.Proofs.Ytjaicilnlgjdcaa
set_option linter.all false
open Go.ChangeShapes Go.WideShapes Go.ChangeAt Go.RowKit

set_option maxRecDepth 1000000 in
theorem tallyPassage_lifted (os : Os) (started : os.Started) (H : Type) (enc : TypeId × Value → H) :
    ReturnsInHanded {} Try.checked os 12 .any (Rows.tallyPassageSpec.pre6 enc Try.prog Try.f12 Rows.tallyPassageRow.domain false) (Rows.tallyPassageSpec.post enc Try.prog Try.f12 false true false false) := by
  refine returnsInHanded_of_change (C := Try.checked) own_ started (by kernel_rfl) Try.func12
    (ChangeSpec.witness6 (enc := enc) (C := Try.checked) false ⟨#[], #[.slice none 0 0, .slice none 0 0, .int .i64 0], []⟩ 8 (by kernel_rfl) (by kernel_rfl) (by kernel_rfl) (by kernel_rfl)) ?_
  intro W base args ds gs before hval0 hW hcnd _
  have hval : ∀ (j : Nat) t v, Try.f12.params[j]? = some t → args[j]? = some v → Value.okWide Try.prog W .any base t v := hval0
  have hW' := hW
  obtain ⟨p, q, hA0, hV, rfl, hfz, hnd⟩ := hW
  have hA : DataW.TrodAll enc Try.prog W 0 (fun _ => true) true Try.f12.params.toList args.toList ds p := hA0
  obtain ⟨rfl, rfl⟩ := trodVars_none hV
  simp only [List.append_nil] at hW'
  have hlt : ∀ x ∈ p, x.block < W.heap.size := fun x hx => by simpa using hW'.lt x hx
  have hstay := fun (W' : World) (hb : Below W.heap.size W W') => args_stay (P := Try.prog) Try.f12.params.toList args.toList ds p f_laidOut (by as_aux_lemma => kernel_rfl) hA hb hlt
  rw [Try.params12] at hA hval
  obtain ⟨v0, va0, d0, da0, p0, pa0, ea0, rfl, rfl, h0, hR0⟩ := trodAll_cons hA
  obtain ⟨v1, va1, d1, da1, p1, pa1, ea1, rfl, rfl, h1, hR1⟩ := trodAll_cons hR0
  subst ea1
  obtain ⟨v2, va2, d2, da2, p2, pa2, ea2, rfl, rfl, h2, hR2⟩ := trodAll_cons hR1
  subst ea2
  obtain ⟨rfl, rfl, rfl⟩ := trodAll_nil hR2
  obtain rfl : args = #[v0, v1, v2] := by cases args; simp_all
  obtain ⟨A0, n0, c0, l0, rfl, hS0, ok0⟩ := rts_open (hval 0 46 v0 rfl rfl) h0
  obtain ⟨A1, n1, c1, l1, rfl, hS1, ok1⟩ := cts_open (hval 1 47 v1 rfl rfl) h1
  obtain ⟨x2, rfl, rfl, rfl, wx2⟩ := open_int Try.underlying3 (hval 2 3 v2 rfl rfl) h2
  have ok2 : okI x2 := wf_bd wx2
  refine (passageLaw_any A0 n0 c0 l0 A1 n1 c1 l1 x2 W hS0 hS1).mono fun e W' ⟨he, hk⟩ => ?_
  subst he
  exact ⟨_, rfl, _, _, _, [], _, [], hW', trodAll_mk1 (shut_bool Try.underlying4 _), hstay W' hk.below, rfl, hk.below.frame _, fun h => by cases h⟩

theorem tallyPassage_holds : Rows.TallyPassageSaid :=
  OpenClaim.holds_of_wide 12 Try.f12 rfl rfl rfl rfl rfl rfl rfl ⟨rfl, rfl, rfl, rfl, rfl⟩ rfl rfl rfl rfl rfl (by kernel_rfl) Try.func12 (by kernel_rfl)
    (of_decide_eq_true (by kernel_rfl)) (by unfold Func.isWrapper; first | (rw [if_pos (by decide +kernel)]; kernel_rfl) | (rw [if_neg (by decide +kernel)]; exact ⟨rfl, rfl⟩))
    (fun os started H enc _ => tallyPassage_lifted os started H enc)
#print axioms tallyPassage_holds
end Go.Proofs.Ytjaicilnlgjdcaa
