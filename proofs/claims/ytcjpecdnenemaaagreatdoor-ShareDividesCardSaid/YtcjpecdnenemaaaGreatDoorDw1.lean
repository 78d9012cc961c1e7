/- the math of the reference's Whole: who gets one more -/
import Derived.Test.YtcjpecdnenemaaaGreatDoorHr2
namespace Go.Proofs.YtcjpecdnenemaaaGreatDoor
set_option linter.all false
open Go.RowKit Go.Shelf Go.Sort

/-- the first of the greatest -/
def isBest (cut : List Int) (b : Nat) : Prop := ∃ v, cut[b]? = some v ∧ (∀ (i : Nat) (u : Int), cut[i]? = some u → u ≤ v) ∧ (∀ (i : Nat) (u : Int), i < b → cut[i]? = some u → u < v)
theorem best_uniq {cut : List Int} {a b : Nat} (h1 : isBest cut a) (h2 : isBest cut b) : a = b := by
  obtain ⟨v, e1, m1, f1⟩ := h1
  obtain ⟨u, e2, m2, f2⟩ := h2
  have hle := m1 b u e2
  have hge := m2 a v e1
  rcases Nat.lt_trichotomy a b with h | h | h
  · have := f2 a v h e1; omega
  · exact h
  · have := f1 b u h e2; omega
/-- cuts that have been given for -/
def zeroed (l : List Int) (os : List Nat) : List Int := os.foldl (fun l i => l.set i 0) l
theorem zeroed_snoc (l : List Int) (os : List Nat) (o : Nat) : zeroed l (os ++ [o]) = (zeroed l os).set o 0 := by simp [zeroed]
theorem zeroed_len (l : List Int) (os : List Nat) : (zeroed l os).length = l.length := by
  unfold zeroed
  induction os generalizing l with
  | nil => rfl
  | cons o os ih => rw [List.foldl_cons, ih, List.length_set]
theorem zeroed_get : ∀ (os : List Nat) (l : List Int) (i : Nat) (v : Int), l[i]? = some v → (zeroed l os)[i]? = some (if i ∈ os then 0 else v)
  | [], l, i, v, h => by simp [zeroed, h]
  | o :: os, l, i, v, h => by
    have e : zeroed l (o :: os) = zeroed (l.set o 0) os := rfl
    rw [e]
    by_cases hi : i = o
    · subst hi
      have h2 : (l.set i 0)[i]? = some 0 := by
        rw [List.getElem?_set_self (List.getElem?_eq_some_iff.1 h).1]
      rw [zeroed_get os _ i 0 h2, if_pos (List.mem_cons_self ..)]
      split <;> rfl
    · have h2 : (l.set o 0)[i]? = some v := by rw [List.getElem?_set_ne (Ne.symm hi), h]
      rw [zeroed_get os _ i v h2]
      have : (i ∈ o :: os) ↔ i ∈ os := by simp [hi]
      simp only [this]
theorem cutN_at {total s z : Int} {zs : List Int} {i : Nat} (hz : zs[i]? = some z) : cutN total s zs i = cutZ total s z := by
  unfold cutN
  rw [List.getD_eq_getElem?_getD, hz]
  rfl
/-- the next of the order is the first of the greatest cuts that are left -/
theorem best_step {total : Int} {zs : List Int} {Z : List Nat} {L : Nat} (hs : 0 < zs.sum) (hp : Z.Perm (List.range zs.length)) (hw : Z.Pairwise (ltC total zs.sum zs)) (hL : (L : Int) = total - (flS total zs.sum zs).sum) {j o : Nat} (hj : j < L) (ho : Z[j]? = some o) :
    isBest (zeroed (zs.map (cutZ total zs.sum)) (Z.take j)) o := by
  have hpos := raised_cut hs hp hw hL hj ho
  obtain ⟨hjl, hjo⟩ := List.getElem?_eq_some_iff.1 ho
  have hol : o < zs.length := List.mem_range.1 (hp.mem_iff.1 (List.mem_of_getElem? ho))
  have hnd : Z.Nodup := hp.nodup_iff.2 List.nodup_range
  have hsp : Z = Z.take j ++ o :: Z.drop (j + 1) := by
    conv => lhs; rw [← List.take_append_drop j Z, List.drop_eq_getElem_cons hjl, hjo]
  have hno : o ∉ Z.take j := by
    intro hm
    rw [hsp] at hnd
    exact (List.nodup_append.1 hnd).2.2 o hm o (List.mem_cons_self ..) rfl
  have hlate : ∀ i, i ∈ Z.drop (j + 1) → ltC total zs.sum zs o i := by
    intro i hi
    rw [hsp] at hw
    exact (List.pairwise_cons.1 (List.pairwise_append.1 hw).2.1).1 i hi
  have hzo : zs[o]? = some (zs[o]'hol) := List.getElem?_eq_getElem hol
  have hg : ∀ (i : Nat) (u : Int), (zeroed (zs.map (cutZ total zs.sum)) (Z.take j))[i]? = some u → i = o ∨ (u < cutN total zs.sum zs o ∨ (u = cutN total zs.sum zs o ∧ o < i)) := by
    intro i u hu
    have hil : i < zs.length := by
      have := (List.getElem?_eq_some_iff.1 hu).1
      rw [zeroed_len, List.length_map] at this
      exact this
    have hzi : zs[i]? = some (zs[i]'hil) := List.getElem?_eq_getElem hil
    have hm : (zs.map (cutZ total zs.sum))[i]? = some (cutN total zs.sum zs i) := by rw [List.getElem?_map, hzi, cutN_at hzi]; rfl
    rw [zeroed_get _ _ i _ hm] at hu
    injection hu with hu
    have hiZ : i ∈ Z := hp.mem_iff.2 (List.mem_range.2 hil)
    rw [hsp] at hiZ
    rcases List.mem_append.1 hiZ with h | h
    · rw [if_pos h] at hu
      right; left; omega
    · rcases List.mem_cons.1 h with h | h
      · exact .inl h
      · have hlt := hlate i h
        have hni : i ∉ Z.take j := by
          intro hm2
          rw [hsp] at hnd
          exact (List.nodup_append.1 hnd).2.2 i hm2 i (List.mem_cons_of_mem _ h) rfl
        rw [if_neg hni] at hu
        unfold ltC at hlt
        omega
  have hmo : (zs.map (cutZ total zs.sum))[o]? = some (cutN total zs.sum zs o) := by rw [List.getElem?_map, hzo, cutN_at hzo]; rfl
  have heo : (zeroed (zs.map (cutZ total zs.sum)) (Z.take j))[o]? = some (cutN total zs.sum zs o) := by rw [zeroed_get _ _ o _ hmo, if_neg hno]
  refine ⟨_, heo, fun i u hu => ?_, fun i u hi hu => ?_⟩
  · rcases hg i u hu with h | h
    · subst h
      rw [heo] at hu
      injection hu with hu
      omega
    · omega
  · rcases hg i u hu with h | h
    · omega
    · omega
end Go.Proofs.YtcjpecdnenemaaaGreatDoor
