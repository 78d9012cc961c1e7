/-
  math of MarkNobody
-/
import Derived.Test.YtologmoanaccpaaGreatDoorVF
import Derived.Test.YtologmoanaccpaaGreatDoorYD
namespace Go.Proofs.YtologmoanaccpaaGreatDoor
set_option linter.all false

theorem nobody {ms : List Mk} {fs : List Fd} {day owner : Int} {s : Sg} {l l' : List Mk} (h0 : smE (ms ++ [⟨owner, day, day, s⟩]) fs = 0) (hp : l.Perm (frcL ms day)) (hfr : ∀ m ∈ l, apK fs s m.sg 6 ≠ 0) (hp' : l'.Perm (frcL (ms ++ [⟨owner, day, day, s⟩]) day)) (hs' : l'.Pairwise fun a b => a.own ≤ b.own) {z : Pr} (hz : z ∈ misL fs l') : z.a ≠ owner ∧ z.b ≠ owner := by
  obtain ⟨_, _, hm, _, _, hc⟩ := sm_ok h0
  have q := List.pairwise_iff_getElem.1 (rfL_mem hc hm hp' hs')
  have pw := frc_ne hc day
  obtain ⟨i, j, X, Y, hij, hX, hY, ha, rfl⟩ := mem_misL.1 hz
  obtain ⟨hi, rfl⟩ := List.getElem?_eq_some_iff.1 hX
  obtain ⟨hj, rfl⟩ := List.getElem?_eq_some_iff.1 hY
  have hlt := q i j hi hj hij
  have h1 := hp'.mem_iff.1 (List.getElem_mem hi)
  have h2 := hp'.mem_iff.1 (List.getElem_mem hj)
  have hx : (⟨owner, day, day, s⟩ : Mk) ∈ frcL (ms ++ [⟨owner, day, day, s⟩]) day := frcL_mem.2 ⟨by simp, inB_iff.2 ⟨Int.le_refl _, Int.le_refl _⟩⟩
  have key : ∀ U ∈ frcL (ms ++ [⟨owner, day, day, s⟩]) day, U.own ≠ owner → U ∈ l := fun U hU hn => by
    obtain ⟨h3, h4⟩ := frcL_mem.1 hU
    rw [List.mem_append, List.mem_singleton] at h3
    rcases h3 with h3 | h3
    · exact hp.mem_iff.2 (frcL_mem.2 ⟨h3, h4⟩)
    · rw [h3] at hn
      exact absurd rfl hn
  constructor
  · intro e
    dsimp only at e
    have h5 := pw_uniq pw h1 hx e
    have h6 := hfr _ (key _ h2 (by omega))
    rw [h5] at ha
    exact h6 ha
  · intro e
    dsimp only at e
    have h5 := pw_uniq pw h2 hx e
    have h6 := hfr _ (key _ h1 (by omega))
    rw [h5, apK_comm] at ha
    exact h6 ha
end Go.Proofs.YtologmoanaccpaaGreatDoor
