/-
  parse at seven words.
  Read.
-/
import Derived.Test.YtcjpecdnenemaaaGreatDoorGH
import Derived.Test.YtcjpecdnenemaaaGreatDoorGJ
import Derived.Deep.RegionHeld3
import Derived.Lib.SplitLaws
namespace Go.Proofs.YtcjpecdnenemaaaGreatDoor
set_option linter.all false
open Go.RowKit Go.Shelf

/-- what a cell holds -/
def gv (w : World) (a : Addr) : Value := (w.cell? a).getD undef
theorem gv_some {w : World} {a : Addr} (h : (w.cell? a).isSome = true) : w.cell? a = some (gv w a) := by
  unfold gv
  obtain ⟨v, hv⟩ := Option.isSome_iff_exists.1 h
  rw [hv]; rfl
theorem gv_row {w : World} {b j : Nat} {vs : List Value} (h : RowC w b vs) (hj : j < vs.length) : w.cell? ⟨b, j, none⟩ = some (gv w ⟨b, j, none⟩) := gv_some (by rw [(h j _ (List.getElem?_eq_getElem hj)).1]; rfl)
/-- block b holds seven cells that may be written -/
def Row7 (w : World) (b : Nat) : Prop := ∃ vs : List Value, vs.length = 7 ∧ RowC w b vs
theorem Row7.kept {w w' : World} {b : Nat} (h : Row7 w b) (hk : Kept w w') : Row7 w' b := by
  obtain ⟨vs, h1, h2⟩ := h
  exact ⟨vs, h1, h2.kept hk⟩
theorem Row7.put {w : World} {b : Nat} (h : Row7 w b) (x : Eqv) : Row7 (put7 w b x) b := by
  obtain ⟨vs, h1, h2⟩ := h
  exact ⟨_, by simp [h1], ((((((h2.put (j := 0) (by simp [h1]) _).put (j := 1) (by simp [h1]) _).put (j := 2) (by simp [h1]) _).put (j := 3) (by simp [h1]) _).put (j := 4) (by simp [h1]) _).put (j := 5) (by simp [h1]) _).put (j := 6) (by simp [h1]) _⟩
theorem isSome_set {w : World} {b j i : Nat} {v : Value} (h : ((w.setCell ⟨b, j, none⟩ v).cell? ⟨b, i, none⟩).isSome = true) : (w.cell? ⟨b, i, none⟩).isSome = true := by
  simp only [World.setCell, World.cell?, Array.getElem?_modify, ↓reduceIte] at h ⊢
  rcases hb : w.heap[b]? with _ | o
  · rw [hb] at h; simp at h
  · rw [hb] at h
    cases o with
    | cells cs t f =>
      simp only [Option.map_some, Option.isSome_none, Bool.false_eq_true, if_false, Array.getElem?_setIfInBounds] at h ⊢
      rcases Nat.lt_or_ge i cs.size with hi | hi
      · rw [Array.getElem?_eq_getElem hi]; rfl
      · rw [Array.getElem?_eq_none hi] at h
        by_cases e : j = i
        · subst e; simp [Nat.not_lt.2 hi] at h
        · simp [e] at h
    | _ => simp_all
theorem Row7.unset {w : World} {b j : Nat} {v : Value} (h : Row7 (w.setCell ⟨b, j, none⟩ v) b) : Row7 w b := by
  obtain ⟨vs, h1, h2⟩ := h
  refine ⟨(List.range 7).map fun i => gv w ⟨b, i, none⟩, by simp, fun i u hu => ?_⟩
  have hi : i < 7 := by simpa using (List.getElem?_eq_some_iff.1 hu).1
  have hc := h2 i _ (List.getElem?_eq_getElem (by rw [h1]; exact hi))
  have hs := gv_some (isSome_set (by rw [hc.1]; rfl))
  have hf : w.frozen? ⟨b, i, none⟩ = false := by rw [← hc.2]; simp
  rw [List.getElem?_map, List.getElem?_range hi] at hu
  simp at hu
  subst hu
  exact ⟨hs, hf⟩
theorem Row7.unput {w : World} {b : Nat} {x : Eqv} (h : Row7 (put7 w b x) b) : Row7 w b := h.unset.unset.unset.unset.unset.unset.unset
theorem Row7.vals {w : World} {b : Nat} (h : Row7 w b) (x : Eqv) : RowC (put7 w b x) b (eqCells x) := by
  obtain ⟨vs, h1, h2⟩ := h
  match vs, h1, h2 with
  | [a0, a1, a2, a3, a4, a5, a6], _, h2 => exact ((((((h2.put (j := 0) (by simp) _).put (j := 1) (by simp) _).put (j := 2) (by simp) _).put (j := 3) (by simp) _).put (j := 4) (by simp) _).put (j := 5) (by simp) _).put (j := 6) (by simp) _
theorem SG_of (bk c : Nat) (s3 : ByteArray) (w W : World) (h1 : W.cell? ⟨w.heap.size, 0, none⟩ = some (.slice (some ⟨bk, 0, none⟩) 7 c)) (h2 : W.cell? ⟨bk, 3, none⟩ = some (.string s3)) (h3 : Kept w W) (h4 : Row7 W (w.heap.size + 1)) : W.cell? ⟨w.heap.size, 0, none⟩ = some (.slice (some ⟨bk, 0, none⟩) 7 c) ∧ W.cell? ⟨bk, 3, none⟩ = some (.string s3) ∧ W.cell? ⟨w.heap.size + 1, 0, none⟩ = some (gv W ⟨w.heap.size + 1, 0, none⟩) ∧ W.cell? ⟨w.heap.size + 1, 1, none⟩ = some (gv W ⟨w.heap.size + 1, 1, none⟩) ∧ W.cell? ⟨w.heap.size + 1, 2, none⟩ = some (gv W ⟨w.heap.size + 1, 2, none⟩) ∧ W.cell? ⟨w.heap.size + 1, 3, none⟩ = some (gv W ⟨w.heap.size + 1, 3, none⟩) ∧ W.cell? ⟨w.heap.size + 1, 4, none⟩ = some (gv W ⟨w.heap.size + 1, 4, none⟩) ∧ W.cell? ⟨w.heap.size + 1, 5, none⟩ = some (gv W ⟨w.heap.size + 1, 5, none⟩) ∧ W.cell? ⟨w.heap.size + 1, 6, none⟩ = some (gv W ⟨w.heap.size + 1, 6, none⟩) ∧ W.frozen? ⟨w.heap.size + 1, 0, none⟩ = false ∧ W.frozen? ⟨w.heap.size + 1, 1, none⟩ = false ∧ W.frozen? ⟨w.heap.size + 1, 2, none⟩ = false ∧ W.frozen? ⟨w.heap.size + 1, 3, none⟩ = false ∧ W.frozen? ⟨w.heap.size + 1, 4, none⟩ = false ∧ W.frozen? ⟨w.heap.size + 1, 5, none⟩ = false ∧ W.frozen? ⟨w.heap.size + 1, 6, none⟩ = false ∧ Kept w W ∧ Row7 W (w.heap.size + 1) := by
  obtain ⟨vs, hl, hr⟩ := id h4
  have f : ∀ j, j < 7 → W.frozen? ⟨w.heap.size + 1, j, none⟩ = false := fun j hj => (hr j _ (List.getElem?_eq_getElem (by rw [hl]; exact hj))).2
  exact ⟨h1, h2, gv_row hr (by omega), gv_row hr (by omega), gv_row hr (by omega), gv_row hr (by omega), gv_row hr (by omega), gv_row hr (by omega), gv_row hr (by omega), f 0 (by omega), f 1 (by omega), f 2 (by omega), f 3 (by omega), f 4 (by omega), f 5 (by omega), f 6 (by omega), h3, h4⟩
theorem SG_step (bk c : Nat) (s3 : ByteArray) (w W w' : World) (h : W.cell? ⟨w.heap.size, 0, none⟩ = some (.slice (some ⟨bk, 0, none⟩) 7 c) ∧ W.cell? ⟨bk, 3, none⟩ = some (.string s3) ∧ W.cell? ⟨w.heap.size + 1, 0, none⟩ = some (gv W ⟨w.heap.size + 1, 0, none⟩) ∧ W.cell? ⟨w.heap.size + 1, 1, none⟩ = some (gv W ⟨w.heap.size + 1, 1, none⟩) ∧ W.cell? ⟨w.heap.size + 1, 2, none⟩ = some (gv W ⟨w.heap.size + 1, 2, none⟩) ∧ W.cell? ⟨w.heap.size + 1, 3, none⟩ = some (gv W ⟨w.heap.size + 1, 3, none⟩) ∧ W.cell? ⟨w.heap.size + 1, 4, none⟩ = some (gv W ⟨w.heap.size + 1, 4, none⟩) ∧ W.cell? ⟨w.heap.size + 1, 5, none⟩ = some (gv W ⟨w.heap.size + 1, 5, none⟩) ∧ W.cell? ⟨w.heap.size + 1, 6, none⟩ = some (gv W ⟨w.heap.size + 1, 6, none⟩) ∧ W.frozen? ⟨w.heap.size + 1, 0, none⟩ = false ∧ W.frozen? ⟨w.heap.size + 1, 1, none⟩ = false ∧ W.frozen? ⟨w.heap.size + 1, 2, none⟩ = false ∧ W.frozen? ⟨w.heap.size + 1, 3, none⟩ = false ∧ W.frozen? ⟨w.heap.size + 1, 4, none⟩ = false ∧ W.frozen? ⟨w.heap.size + 1, 5, none⟩ = false ∧ W.frozen? ⟨w.heap.size + 1, 6, none⟩ = false ∧ Kept w W ∧ Row7 W (w.heap.size + 1)) (hk : Kept W w') : w'.cell? ⟨w.heap.size, 0, none⟩ = some (.slice (some ⟨bk, 0, none⟩) 7 c) ∧ w'.cell? ⟨bk, 3, none⟩ = some (.string s3) ∧ w'.cell? ⟨w.heap.size + 1, 0, none⟩ = some (gv w' ⟨w.heap.size + 1, 0, none⟩) ∧ w'.cell? ⟨w.heap.size + 1, 1, none⟩ = some (gv w' ⟨w.heap.size + 1, 1, none⟩) ∧ w'.cell? ⟨w.heap.size + 1, 2, none⟩ = some (gv w' ⟨w.heap.size + 1, 2, none⟩) ∧ w'.cell? ⟨w.heap.size + 1, 3, none⟩ = some (gv w' ⟨w.heap.size + 1, 3, none⟩) ∧ w'.cell? ⟨w.heap.size + 1, 4, none⟩ = some (gv w' ⟨w.heap.size + 1, 4, none⟩) ∧ w'.cell? ⟨w.heap.size + 1, 5, none⟩ = some (gv w' ⟨w.heap.size + 1, 5, none⟩) ∧ w'.cell? ⟨w.heap.size + 1, 6, none⟩ = some (gv w' ⟨w.heap.size + 1, 6, none⟩) ∧ w'.frozen? ⟨w.heap.size + 1, 0, none⟩ = false ∧ w'.frozen? ⟨w.heap.size + 1, 1, none⟩ = false ∧ w'.frozen? ⟨w.heap.size + 1, 2, none⟩ = false ∧ w'.frozen? ⟨w.heap.size + 1, 3, none⟩ = false ∧ w'.frozen? ⟨w.heap.size + 1, 4, none⟩ = false ∧ w'.frozen? ⟨w.heap.size + 1, 5, none⟩ = false ∧ w'.frozen? ⟨w.heap.size + 1, 6, none⟩ = false ∧ Kept w w' ∧ Row7 w' (w.heap.size + 1) := by
  obtain ⟨h1, h2, _, _, _, _, _, _, _, _, _, _, _, _, _, _, h3, h4⟩ := h
  exact SG_of bk c s3 w w' ((hk.cells _ _ (cell_lt h1)).trans h1) ((hk.cells _ _ (cell_lt h2)).trans h2) (h3.trans hk) (h4.kept hk)
theorem SG_put (bk c : Nat) (s3 : ByteArray) (w W : World) (x : Eqv) (hbl : bk < w.heap.size) (h : W.cell? ⟨w.heap.size, 0, none⟩ = some (.slice (some ⟨bk, 0, none⟩) 7 c) ∧ W.cell? ⟨bk, 3, none⟩ = some (.string s3) ∧ W.cell? ⟨w.heap.size + 1, 0, none⟩ = some (gv W ⟨w.heap.size + 1, 0, none⟩) ∧ W.cell? ⟨w.heap.size + 1, 1, none⟩ = some (gv W ⟨w.heap.size + 1, 1, none⟩) ∧ W.cell? ⟨w.heap.size + 1, 2, none⟩ = some (gv W ⟨w.heap.size + 1, 2, none⟩) ∧ W.cell? ⟨w.heap.size + 1, 3, none⟩ = some (gv W ⟨w.heap.size + 1, 3, none⟩) ∧ W.cell? ⟨w.heap.size + 1, 4, none⟩ = some (gv W ⟨w.heap.size + 1, 4, none⟩) ∧ W.cell? ⟨w.heap.size + 1, 5, none⟩ = some (gv W ⟨w.heap.size + 1, 5, none⟩) ∧ W.cell? ⟨w.heap.size + 1, 6, none⟩ = some (gv W ⟨w.heap.size + 1, 6, none⟩) ∧ W.frozen? ⟨w.heap.size + 1, 0, none⟩ = false ∧ W.frozen? ⟨w.heap.size + 1, 1, none⟩ = false ∧ W.frozen? ⟨w.heap.size + 1, 2, none⟩ = false ∧ W.frozen? ⟨w.heap.size + 1, 3, none⟩ = false ∧ W.frozen? ⟨w.heap.size + 1, 4, none⟩ = false ∧ W.frozen? ⟨w.heap.size + 1, 5, none⟩ = false ∧ W.frozen? ⟨w.heap.size + 1, 6, none⟩ = false ∧ Kept w W ∧ Row7 W (w.heap.size + 1)) : (((((((W.setCell ⟨w.heap.size + 1, 0, none⟩ (.int .i64 x.id)).setCell ⟨w.heap.size + 1, 1, none⟩ (.int .i64 x.frm)).setCell ⟨w.heap.size + 1, 2, none⟩ (.int .i64 x.kno)).setCell ⟨w.heap.size + 1, 3, none⟩ (.string x.sort)).setCell ⟨w.heap.size + 1, 4, none⟩ (.int .i64 x.num)).setCell ⟨w.heap.size + 1, 5, none⟩ (.int .i64 x.den)).setCell ⟨w.heap.size + 1, 6, none⟩ (.int .i64 x.off)).cell? ⟨w.heap.size, 0, none⟩ = some (.slice (some ⟨bk, 0, none⟩) 7 c) ∧ (((((((W.setCell ⟨w.heap.size + 1, 0, none⟩ (.int .i64 x.id)).setCell ⟨w.heap.size + 1, 1, none⟩ (.int .i64 x.frm)).setCell ⟨w.heap.size + 1, 2, none⟩ (.int .i64 x.kno)).setCell ⟨w.heap.size + 1, 3, none⟩ (.string x.sort)).setCell ⟨w.heap.size + 1, 4, none⟩ (.int .i64 x.num)).setCell ⟨w.heap.size + 1, 5, none⟩ (.int .i64 x.den)).setCell ⟨w.heap.size + 1, 6, none⟩ (.int .i64 x.off)).cell? ⟨bk, 3, none⟩ = some (.string s3) ∧ (((((((W.setCell ⟨w.heap.size + 1, 0, none⟩ (.int .i64 x.id)).setCell ⟨w.heap.size + 1, 1, none⟩ (.int .i64 x.frm)).setCell ⟨w.heap.size + 1, 2, none⟩ (.int .i64 x.kno)).setCell ⟨w.heap.size + 1, 3, none⟩ (.string x.sort)).setCell ⟨w.heap.size + 1, 4, none⟩ (.int .i64 x.num)).setCell ⟨w.heap.size + 1, 5, none⟩ (.int .i64 x.den)).setCell ⟨w.heap.size + 1, 6, none⟩ (.int .i64 x.off)).cell? ⟨w.heap.size + 1, 0, none⟩ = some (gv (((((((W.setCell ⟨w.heap.size + 1, 0, none⟩ (.int .i64 x.id)).setCell ⟨w.heap.size + 1, 1, none⟩ (.int .i64 x.frm)).setCell ⟨w.heap.size + 1, 2, none⟩ (.int .i64 x.kno)).setCell ⟨w.heap.size + 1, 3, none⟩ (.string x.sort)).setCell ⟨w.heap.size + 1, 4, none⟩ (.int .i64 x.num)).setCell ⟨w.heap.size + 1, 5, none⟩ (.int .i64 x.den)).setCell ⟨w.heap.size + 1, 6, none⟩ (.int .i64 x.off)) ⟨w.heap.size + 1, 0, none⟩) ∧ (((((((W.setCell ⟨w.heap.size + 1, 0, none⟩ (.int .i64 x.id)).setCell ⟨w.heap.size + 1, 1, none⟩ (.int .i64 x.frm)).setCell ⟨w.heap.size + 1, 2, none⟩ (.int .i64 x.kno)).setCell ⟨w.heap.size + 1, 3, none⟩ (.string x.sort)).setCell ⟨w.heap.size + 1, 4, none⟩ (.int .i64 x.num)).setCell ⟨w.heap.size + 1, 5, none⟩ (.int .i64 x.den)).setCell ⟨w.heap.size + 1, 6, none⟩ (.int .i64 x.off)).cell? ⟨w.heap.size + 1, 1, none⟩ = some (gv (((((((W.setCell ⟨w.heap.size + 1, 0, none⟩ (.int .i64 x.id)).setCell ⟨w.heap.size + 1, 1, none⟩ (.int .i64 x.frm)).setCell ⟨w.heap.size + 1, 2, none⟩ (.int .i64 x.kno)).setCell ⟨w.heap.size + 1, 3, none⟩ (.string x.sort)).setCell ⟨w.heap.size + 1, 4, none⟩ (.int .i64 x.num)).setCell ⟨w.heap.size + 1, 5, none⟩ (.int .i64 x.den)).setCell ⟨w.heap.size + 1, 6, none⟩ (.int .i64 x.off)) ⟨w.heap.size + 1, 1, none⟩) ∧ (((((((W.setCell ⟨w.heap.size + 1, 0, none⟩ (.int .i64 x.id)).setCell ⟨w.heap.size + 1, 1, none⟩ (.int .i64 x.frm)).setCell ⟨w.heap.size + 1, 2, none⟩ (.int .i64 x.kno)).setCell ⟨w.heap.size + 1, 3, none⟩ (.string x.sort)).setCell ⟨w.heap.size + 1, 4, none⟩ (.int .i64 x.num)).setCell ⟨w.heap.size + 1, 5, none⟩ (.int .i64 x.den)).setCell ⟨w.heap.size + 1, 6, none⟩ (.int .i64 x.off)).cell? ⟨w.heap.size + 1, 2, none⟩ = some (gv (((((((W.setCell ⟨w.heap.size + 1, 0, none⟩ (.int .i64 x.id)).setCell ⟨w.heap.size + 1, 1, none⟩ (.int .i64 x.frm)).setCell ⟨w.heap.size + 1, 2, none⟩ (.int .i64 x.kno)).setCell ⟨w.heap.size + 1, 3, none⟩ (.string x.sort)).setCell ⟨w.heap.size + 1, 4, none⟩ (.int .i64 x.num)).setCell ⟨w.heap.size + 1, 5, none⟩ (.int .i64 x.den)).setCell ⟨w.heap.size + 1, 6, none⟩ (.int .i64 x.off)) ⟨w.heap.size + 1, 2, none⟩) ∧ (((((((W.setCell ⟨w.heap.size + 1, 0, none⟩ (.int .i64 x.id)).setCell ⟨w.heap.size + 1, 1, none⟩ (.int .i64 x.frm)).setCell ⟨w.heap.size + 1, 2, none⟩ (.int .i64 x.kno)).setCell ⟨w.heap.size + 1, 3, none⟩ (.string x.sort)).setCell ⟨w.heap.size + 1, 4, none⟩ (.int .i64 x.num)).setCell ⟨w.heap.size + 1, 5, none⟩ (.int .i64 x.den)).setCell ⟨w.heap.size + 1, 6, none⟩ (.int .i64 x.off)).cell? ⟨w.heap.size + 1, 3, none⟩ = some (gv (((((((W.setCell ⟨w.heap.size + 1, 0, none⟩ (.int .i64 x.id)).setCell ⟨w.heap.size + 1, 1, none⟩ (.int .i64 x.frm)).setCell ⟨w.heap.size + 1, 2, none⟩ (.int .i64 x.kno)).setCell ⟨w.heap.size + 1, 3, none⟩ (.string x.sort)).setCell ⟨w.heap.size + 1, 4, none⟩ (.int .i64 x.num)).setCell ⟨w.heap.size + 1, 5, none⟩ (.int .i64 x.den)).setCell ⟨w.heap.size + 1, 6, none⟩ (.int .i64 x.off)) ⟨w.heap.size + 1, 3, none⟩) ∧ (((((((W.setCell ⟨w.heap.size + 1, 0, none⟩ (.int .i64 x.id)).setCell ⟨w.heap.size + 1, 1, none⟩ (.int .i64 x.frm)).setCell ⟨w.heap.size + 1, 2, none⟩ (.int .i64 x.kno)).setCell ⟨w.heap.size + 1, 3, none⟩ (.string x.sort)).setCell ⟨w.heap.size + 1, 4, none⟩ (.int .i64 x.num)).setCell ⟨w.heap.size + 1, 5, none⟩ (.int .i64 x.den)).setCell ⟨w.heap.size + 1, 6, none⟩ (.int .i64 x.off)).cell? ⟨w.heap.size + 1, 4, none⟩ = some (gv (((((((W.setCell ⟨w.heap.size + 1, 0, none⟩ (.int .i64 x.id)).setCell ⟨w.heap.size + 1, 1, none⟩ (.int .i64 x.frm)).setCell ⟨w.heap.size + 1, 2, none⟩ (.int .i64 x.kno)).setCell ⟨w.heap.size + 1, 3, none⟩ (.string x.sort)).setCell ⟨w.heap.size + 1, 4, none⟩ (.int .i64 x.num)).setCell ⟨w.heap.size + 1, 5, none⟩ (.int .i64 x.den)).setCell ⟨w.heap.size + 1, 6, none⟩ (.int .i64 x.off)) ⟨w.heap.size + 1, 4, none⟩) ∧ (((((((W.setCell ⟨w.heap.size + 1, 0, none⟩ (.int .i64 x.id)).setCell ⟨w.heap.size + 1, 1, none⟩ (.int .i64 x.frm)).setCell ⟨w.heap.size + 1, 2, none⟩ (.int .i64 x.kno)).setCell ⟨w.heap.size + 1, 3, none⟩ (.string x.sort)).setCell ⟨w.heap.size + 1, 4, none⟩ (.int .i64 x.num)).setCell ⟨w.heap.size + 1, 5, none⟩ (.int .i64 x.den)).setCell ⟨w.heap.size + 1, 6, none⟩ (.int .i64 x.off)).cell? ⟨w.heap.size + 1, 5, none⟩ = some (gv (((((((W.setCell ⟨w.heap.size + 1, 0, none⟩ (.int .i64 x.id)).setCell ⟨w.heap.size + 1, 1, none⟩ (.int .i64 x.frm)).setCell ⟨w.heap.size + 1, 2, none⟩ (.int .i64 x.kno)).setCell ⟨w.heap.size + 1, 3, none⟩ (.string x.sort)).setCell ⟨w.heap.size + 1, 4, none⟩ (.int .i64 x.num)).setCell ⟨w.heap.size + 1, 5, none⟩ (.int .i64 x.den)).setCell ⟨w.heap.size + 1, 6, none⟩ (.int .i64 x.off)) ⟨w.heap.size + 1, 5, none⟩) ∧ (((((((W.setCell ⟨w.heap.size + 1, 0, none⟩ (.int .i64 x.id)).setCell ⟨w.heap.size + 1, 1, none⟩ (.int .i64 x.frm)).setCell ⟨w.heap.size + 1, 2, none⟩ (.int .i64 x.kno)).setCell ⟨w.heap.size + 1, 3, none⟩ (.string x.sort)).setCell ⟨w.heap.size + 1, 4, none⟩ (.int .i64 x.num)).setCell ⟨w.heap.size + 1, 5, none⟩ (.int .i64 x.den)).setCell ⟨w.heap.size + 1, 6, none⟩ (.int .i64 x.off)).cell? ⟨w.heap.size + 1, 6, none⟩ = some (gv (((((((W.setCell ⟨w.heap.size + 1, 0, none⟩ (.int .i64 x.id)).setCell ⟨w.heap.size + 1, 1, none⟩ (.int .i64 x.frm)).setCell ⟨w.heap.size + 1, 2, none⟩ (.int .i64 x.kno)).setCell ⟨w.heap.size + 1, 3, none⟩ (.string x.sort)).setCell ⟨w.heap.size + 1, 4, none⟩ (.int .i64 x.num)).setCell ⟨w.heap.size + 1, 5, none⟩ (.int .i64 x.den)).setCell ⟨w.heap.size + 1, 6, none⟩ (.int .i64 x.off)) ⟨w.heap.size + 1, 6, none⟩) ∧ (((((((W.setCell ⟨w.heap.size + 1, 0, none⟩ (.int .i64 x.id)).setCell ⟨w.heap.size + 1, 1, none⟩ (.int .i64 x.frm)).setCell ⟨w.heap.size + 1, 2, none⟩ (.int .i64 x.kno)).setCell ⟨w.heap.size + 1, 3, none⟩ (.string x.sort)).setCell ⟨w.heap.size + 1, 4, none⟩ (.int .i64 x.num)).setCell ⟨w.heap.size + 1, 5, none⟩ (.int .i64 x.den)).setCell ⟨w.heap.size + 1, 6, none⟩ (.int .i64 x.off)).frozen? ⟨w.heap.size + 1, 0, none⟩ = false ∧ (((((((W.setCell ⟨w.heap.size + 1, 0, none⟩ (.int .i64 x.id)).setCell ⟨w.heap.size + 1, 1, none⟩ (.int .i64 x.frm)).setCell ⟨w.heap.size + 1, 2, none⟩ (.int .i64 x.kno)).setCell ⟨w.heap.size + 1, 3, none⟩ (.string x.sort)).setCell ⟨w.heap.size + 1, 4, none⟩ (.int .i64 x.num)).setCell ⟨w.heap.size + 1, 5, none⟩ (.int .i64 x.den)).setCell ⟨w.heap.size + 1, 6, none⟩ (.int .i64 x.off)).frozen? ⟨w.heap.size + 1, 1, none⟩ = false ∧ (((((((W.setCell ⟨w.heap.size + 1, 0, none⟩ (.int .i64 x.id)).setCell ⟨w.heap.size + 1, 1, none⟩ (.int .i64 x.frm)).setCell ⟨w.heap.size + 1, 2, none⟩ (.int .i64 x.kno)).setCell ⟨w.heap.size + 1, 3, none⟩ (.string x.sort)).setCell ⟨w.heap.size + 1, 4, none⟩ (.int .i64 x.num)).setCell ⟨w.heap.size + 1, 5, none⟩ (.int .i64 x.den)).setCell ⟨w.heap.size + 1, 6, none⟩ (.int .i64 x.off)).frozen? ⟨w.heap.size + 1, 2, none⟩ = false ∧ (((((((W.setCell ⟨w.heap.size + 1, 0, none⟩ (.int .i64 x.id)).setCell ⟨w.heap.size + 1, 1, none⟩ (.int .i64 x.frm)).setCell ⟨w.heap.size + 1, 2, none⟩ (.int .i64 x.kno)).setCell ⟨w.heap.size + 1, 3, none⟩ (.string x.sort)).setCell ⟨w.heap.size + 1, 4, none⟩ (.int .i64 x.num)).setCell ⟨w.heap.size + 1, 5, none⟩ (.int .i64 x.den)).setCell ⟨w.heap.size + 1, 6, none⟩ (.int .i64 x.off)).frozen? ⟨w.heap.size + 1, 3, none⟩ = false ∧ (((((((W.setCell ⟨w.heap.size + 1, 0, none⟩ (.int .i64 x.id)).setCell ⟨w.heap.size + 1, 1, none⟩ (.int .i64 x.frm)).setCell ⟨w.heap.size + 1, 2, none⟩ (.int .i64 x.kno)).setCell ⟨w.heap.size + 1, 3, none⟩ (.string x.sort)).setCell ⟨w.heap.size + 1, 4, none⟩ (.int .i64 x.num)).setCell ⟨w.heap.size + 1, 5, none⟩ (.int .i64 x.den)).setCell ⟨w.heap.size + 1, 6, none⟩ (.int .i64 x.off)).frozen? ⟨w.heap.size + 1, 4, none⟩ = false ∧ (((((((W.setCell ⟨w.heap.size + 1, 0, none⟩ (.int .i64 x.id)).setCell ⟨w.heap.size + 1, 1, none⟩ (.int .i64 x.frm)).setCell ⟨w.heap.size + 1, 2, none⟩ (.int .i64 x.kno)).setCell ⟨w.heap.size + 1, 3, none⟩ (.string x.sort)).setCell ⟨w.heap.size + 1, 4, none⟩ (.int .i64 x.num)).setCell ⟨w.heap.size + 1, 5, none⟩ (.int .i64 x.den)).setCell ⟨w.heap.size + 1, 6, none⟩ (.int .i64 x.off)).frozen? ⟨w.heap.size + 1, 5, none⟩ = false ∧ (((((((W.setCell ⟨w.heap.size + 1, 0, none⟩ (.int .i64 x.id)).setCell ⟨w.heap.size + 1, 1, none⟩ (.int .i64 x.frm)).setCell ⟨w.heap.size + 1, 2, none⟩ (.int .i64 x.kno)).setCell ⟨w.heap.size + 1, 3, none⟩ (.string x.sort)).setCell ⟨w.heap.size + 1, 4, none⟩ (.int .i64 x.num)).setCell ⟨w.heap.size + 1, 5, none⟩ (.int .i64 x.den)).setCell ⟨w.heap.size + 1, 6, none⟩ (.int .i64 x.off)).frozen? ⟨w.heap.size + 1, 6, none⟩ = false ∧ Kept w (((((((W.setCell ⟨w.heap.size + 1, 0, none⟩ (.int .i64 x.id)).setCell ⟨w.heap.size + 1, 1, none⟩ (.int .i64 x.frm)).setCell ⟨w.heap.size + 1, 2, none⟩ (.int .i64 x.kno)).setCell ⟨w.heap.size + 1, 3, none⟩ (.string x.sort)).setCell ⟨w.heap.size + 1, 4, none⟩ (.int .i64 x.num)).setCell ⟨w.heap.size + 1, 5, none⟩ (.int .i64 x.den)).setCell ⟨w.heap.size + 1, 6, none⟩ (.int .i64 x.off)) ∧ Row7 (((((((W.setCell ⟨w.heap.size + 1, 0, none⟩ (.int .i64 x.id)).setCell ⟨w.heap.size + 1, 1, none⟩ (.int .i64 x.frm)).setCell ⟨w.heap.size + 1, 2, none⟩ (.int .i64 x.kno)).setCell ⟨w.heap.size + 1, 3, none⟩ (.string x.sort)).setCell ⟨w.heap.size + 1, 4, none⟩ (.int .i64 x.num)).setCell ⟨w.heap.size + 1, 5, none⟩ (.int .i64 x.den)).setCell ⟨w.heap.size + 1, 6, none⟩ (.int .i64 x.off)) (w.heap.size + 1) := by
  obtain ⟨h1, h2, _, _, _, _, _, _, _, _, _, _, _, _, _, _, h3, h4⟩ := h
  have hn1 : w.heap.size ≠ w.heap.size + 1 := by omega
  have hn2 : bk ≠ w.heap.size + 1 := by omega
  have f : ∀ (V : World) (b o j : Nat) (u v : Value), b ≠ w.heap.size + 1 → V.cell? ⟨b, o, none⟩ = some v → (V.setCell ⟨w.heap.size + 1, j, none⟩ u).cell? ⟨b, o, none⟩ = some v := fun V b o j u v hb hv => by rw [World.cell?_setCell_far _ _ _ _ (by simpa using Ne.symm hb)]; exact hv
  refine SG_of bk c s3 w _ ?_ ?_ (put7_below x h3.below (by omega)) (h4.put x)
  · exact f _ _ _ _ _ _ hn1 (f _ _ _ _ _ _ hn1 (f _ _ _ _ _ _ hn1 (f _ _ _ _ _ _ hn1 (f _ _ _ _ _ _ hn1 (f _ _ _ _ _ _ hn1 (f _ _ _ _ _ _ hn1 h1))))))
  · exact f _ _ _ _ _ _ hn2 (f _ _ _ _ _ _ hn2 (f _ _ _ _ _ _ hn2 (f _ _ _ _ _ _ hn2 (f _ _ _ _ _ _ hn2 (f _ _ _ _ _ _ hn2 (f _ _ _ _ _ _ hn2 h2))))))
theorem at_any7 (bk c : Nat) (x : Int) (ss : List ByteArray) (s s3 : ByteArray) (w W : World) (hi : ss[x.toNat]? = some s) (hs : s.size ≤ 1000000) (hx : 0 ≤ x) (hn : ss.length = 7) (hE : RowKit.Hid (Env w)) (hW : RowKit.Hid (Wds w bk ss)) (h : W.cell? ⟨w.heap.size, 0, none⟩ = some (.slice (some ⟨bk, 0, none⟩) 7 c) ∧ W.cell? ⟨bk, 3, none⟩ = some (.string s3) ∧ W.cell? ⟨w.heap.size + 1, 0, none⟩ = some (gv W ⟨w.heap.size + 1, 0, none⟩) ∧ W.cell? ⟨w.heap.size + 1, 1, none⟩ = some (gv W ⟨w.heap.size + 1, 1, none⟩) ∧ W.cell? ⟨w.heap.size + 1, 2, none⟩ = some (gv W ⟨w.heap.size + 1, 2, none⟩) ∧ W.cell? ⟨w.heap.size + 1, 3, none⟩ = some (gv W ⟨w.heap.size + 1, 3, none⟩) ∧ W.cell? ⟨w.heap.size + 1, 4, none⟩ = some (gv W ⟨w.heap.size + 1, 4, none⟩) ∧ W.cell? ⟨w.heap.size + 1, 5, none⟩ = some (gv W ⟨w.heap.size + 1, 5, none⟩) ∧ W.cell? ⟨w.heap.size + 1, 6, none⟩ = some (gv W ⟨w.heap.size + 1, 6, none⟩) ∧ W.frozen? ⟨w.heap.size + 1, 0, none⟩ = false ∧ W.frozen? ⟨w.heap.size + 1, 1, none⟩ = false ∧ W.frozen? ⟨w.heap.size + 1, 2, none⟩ = false ∧ W.frozen? ⟨w.heap.size + 1, 3, none⟩ = false ∧ W.frozen? ⟨w.heap.size + 1, 4, none⟩ = false ∧ W.frozen? ⟨w.heap.size + 1, 5, none⟩ = false ∧ W.frozen? ⟨w.heap.size + 1, 6, none⟩ = false ∧ Kept w W ∧ Row7 W (w.heap.size + 1)) :
    Calls Tryz.prog 156 #[.int .i64 x, .pointer (some ⟨w.heap.size, 0, none⟩)] W fun e w' => e = .returned (.int .i64 (atoiV s.data.toList)) ∧ Kept W w' := by
  have h3 : Kept w W := h.2.2.2.2.2.2.2.2.2.2.2.2.2.2.2.2.1
  have := at_any w.heap.size bk c x.toNat ss s hs hi (by omega) W (hE.out.kept h3) (by rw [hn]; exact h.1) (hW.out.kept h3 x.toNat s hi)
  rwa [Int.toNat_of_nonneg hx] at this

set_option maxRecDepth 100000 in
set_option maxHeartbeats 6400000 in
theorem parse_seven (bk c : Nat) (s0 s1 s2 s3 s4 s5 s6 : ByteArray) (h0 : s0.size ≤ 1000000) (h1 : s1.size ≤ 1000000) (h4 : s4.size ≤ 1000000) (h5 : s5.size ≤ 1000000) (h6 : s6.size ≤ 1000000) (w : World) (hE : Env w) (hW : Wds w bk [s0, s1, s2, s3, s4, s5, s6]) :
    Calls Tryz.prog 109 #[.slice (some ⟨bk, 0, none⟩) 7 c] w fun e w' => e = .returned (eqV ⟨atoiV s0.data.toList, atoiV s4.data.toList, atoiV s1.data.toList, s3, atoiV s5.data.toList, atoiV s6.data.toList, 0⟩) ∧ Kept w w' := by
  have hmf : ∀ (fn : Fn) (first cap : Array Value) (w : World), (Instr.makeFunc fn first cap).run Tryz.prog w = .ok (.func fn first cap) w := fun _ _ _ _ => rfl
  have g156 := e156
  have HW := Lib.hid hW
  have HE := Lib.hid hE
  have c3 : w.cell? ⟨bk, 3, none⟩ = some (.string s3) := hW 3 s3 rfl
  have hbl := cell_lt c3
  clear hW
  obtain ⟨W0, hW0⟩ : ∃ W0 : World, W0 = (w.alloc (.cells #[.slice (some ⟨bk, 0, none⟩) 7 c] 52)).alloc (boxX zeroE) := ⟨_, rfl⟩
  have K0 : Kept w W0 := by rw [hW0]; exact ((Kept.refl w).alloc _).alloc _
  have B0 : W0.cell? ⟨w.heap.size, 0, none⟩ = some (.slice (some ⟨bk, 0, none⟩) 7 c) := by rw [hW0]; exact ((RowC.new w [.slice (some ⟨bk, 0, none⟩) 7 c] 52).kept ((Kept.refl _).alloc _) 0 _ rfl).1
  have R0 : RowC W0 (w.heap.size + 1) (eqCells zeroE) := by
    have := RowC.new (w.alloc (.cells #[.slice (some ⟨bk, 0, none⟩) 7 c] 52)) (eqCells zeroE) 37
    rw [World.size_alloc] at this
    rw [hW0]; exact this
  have HR0 := Lib.hid R0
  have HB0 := Lib.hid B0
  have HK0 := Lib.hid K0
  have H3 := Lib.hid ((K0.cells _ _ hbl).trans c3)
  simp only [boxX, zeroE] at hW0
  have HW0 := Lib.hid hW0
  clear R0 B0 hW0 K0
  go_enter Tryz.func109, Tryz.ntmps109
  go_wp2_with fail
  rw [← HW0.out]
  have S0 := SG_step bk c s3 w W0 W0.drew (SG_of bk c s3 w W0 HB0.out H3.out HK0.out ⟨_, rfl, HR0.out⟩) ((Kept.refl _).drew)
  have HSd := Lib.hid S0
  clear S0
  go_region_held3 (fun W => W.cell? ⟨w.heap.size, 0, none⟩ = some (.slice (some ⟨bk, 0, none⟩) 7 c) ∧ W.cell? ⟨bk, 3, none⟩ = some (.string s3) ∧ W.cell? ⟨w.heap.size + 1, 0, none⟩ = some (gv W ⟨w.heap.size + 1, 0, none⟩) ∧ W.cell? ⟨w.heap.size + 1, 1, none⟩ = some (gv W ⟨w.heap.size + 1, 1, none⟩) ∧ W.cell? ⟨w.heap.size + 1, 2, none⟩ = some (gv W ⟨w.heap.size + 1, 2, none⟩) ∧ W.cell? ⟨w.heap.size + 1, 3, none⟩ = some (gv W ⟨w.heap.size + 1, 3, none⟩) ∧ W.cell? ⟨w.heap.size + 1, 4, none⟩ = some (gv W ⟨w.heap.size + 1, 4, none⟩) ∧ W.cell? ⟨w.heap.size + 1, 5, none⟩ = some (gv W ⟨w.heap.size + 1, 5, none⟩) ∧ W.cell? ⟨w.heap.size + 1, 6, none⟩ = some (gv W ⟨w.heap.size + 1, 6, none⟩) ∧ W.frozen? ⟨w.heap.size + 1, 0, none⟩ = false ∧ W.frozen? ⟨w.heap.size + 1, 1, none⟩ = false ∧ W.frozen? ⟨w.heap.size + 1, 2, none⟩ = false ∧ W.frozen? ⟨w.heap.size + 1, 3, none⟩ = false ∧ W.frozen? ⟨w.heap.size + 1, 4, none⟩ = false ∧ W.frozen? ⟨w.heap.size + 1, 5, none⟩ = false ∧ W.frozen? ⟨w.heap.size + 1, 6, none⟩ = false ∧ Kept w W ∧ Row7 W (w.heap.size + 1))
    (first
      | (with_reducible exact HSd.out)
      | (with_reducible refine SG_put bk c s3 w _ ⟨atoiV s0.data.toList, atoiV s4.data.toList, atoiV s1.data.toList, s3, atoiV s5.data.toList, atoiV s6.data.toList, 0⟩ hbl ?_; assumption)
      | (with_reducible refine SG_step _ _ _ _ _ _ ?_ hkk; assumption)
      | fail)
    (first
      | fail
      | (go_at_call 156; refine Calls.mono (at_any7 bk c _ [s0, s1, s2, s3, s4, s5, s6] _ s3 w _ (by rfl) (by assumption) (by decide) rfl HE HW (by assumption)) ?_; rintro e w2 ⟨rfl, hkk⟩))
  obtain ⟨a1, a2, k0, k1, k2, k3, k4, k5, k6, z0, z1, z2, z3, z4, z5, z6, hK, hR⟩ := ‹_ ∧ _›
  have RR := Row7.vals (x := ⟨atoiV s0.data.toList, atoiV s4.data.toList, atoiV s1.data.toList, s3, atoiV s5.data.toList, atoiV s6.data.toList, 0⟩) (Row7.unput (w := w2) (x := ⟨atoiV s0.data.toList, atoiV s4.data.toList, atoiV s1.data.toList, s3, atoiV s5.data.toList, atoiV s6.data.toList, 0⟩) hR)
  obtain ⟨W9, hW9⟩ : ∃ W9 : World, W9 = put7 w2 (w.heap.size + 1) ⟨atoiV s0.data.toList, atoiV s4.data.toList, atoiV s1.data.toList, s3, atoiV s5.data.toList, atoiV s6.data.toList, 0⟩ := ⟨_, rfl⟩
  rw [← hW9] at RR
  unfold put7 at hW9
  dsimp only at hW9
  rw [← hW9] at hK
  rw [← hW9]
  have HK := Lib.hid hK
  have HW9 := Lib.hid hW9
  have e0 := (RR 0 _ rfl).1
  have e1 := (RR 1 _ rfl).1
  have e2 := (RR 2 _ rfl).1
  have e3 := (RR 3 _ rfl).1
  have e4 := (RR 4 _ rfl).1
  have e5 := (RR 5 _ rfl).1
  have e6 := (RR 6 _ rfl).1
  clear a1 a2 k0 k1 k2 k3 k4 k5 k6 z0 z1 z2 z3 z4 z5 z6 hK hR hW9 RR
  dsimp only at e0 e1 e2 e3 e4 e5 e6
  go_wp2
  refine bodyPost_ret (v := .agg #[.int .i64 (atoiV s0.data.toList), .int .i64 (atoiV s4.data.toList), .int .i64 (atoiV s1.data.toList), .string s3, .int .i64 (atoiV s5.data.toList), .int .i64 (atoiV s6.data.toList), .int .i64 0]) (by simp [results, Tryz.results109, go_sem, e0, e1, e2, e3, e4, e5, e6]) rfl ⟨rfl, HK.out⟩
end Go.Proofs.YtcjpecdnenemaaaGreatDoor

namespace Go.Proofs.YtcjpecdnenemaaaGreatDoor
set_option linter.all false
open Go.RowKit Go.Shelf

def spaceB : ByteArray := ⟨#[32]⟩
/-- the words of a line -/
def wordsB (line : ByteArray) : List ByteArray := Lib.splitB spaceB 0 (Lib.countB line spaceB) line
theorem words_len (line : ByteArray) : (wordsB line).length = Lib.countB line spaceB + 1 := Lib.splitB_all spaceB (by decide) 0 _ line rfl
theorem split_size : ∀ (k : Nat) (s : ByteArray), ∀ x ∈ Lib.splitB spaceB 0 k s, x.size ≤ s.size
  | 0, s => by
    intro x hx
    rw [Lib.splitB_zero] at hx
    simp at hx
    subst hx
    exact Nat.le_refl _
  | k + 1, s => by
    intro x hx
    unfold Lib.splitB at hx
    split at hx
    · simp at hx
      subst hx
      exact Nat.le_refl _
    · rcases List.mem_cons.1 hx with rfl | hx
      · rw [ByteArray.size_extract]; omega
      · have := split_size k _ x hx
        rw [ByteArray.size_extract] at this
        omega
theorem words_size (line : ByteArray) : ∀ x ∈ wordsB line, x.size ≤ line.size := split_size _ line
/-- the record that words can be of -/
def parseS (ss : List ByteArray) : Eqv := match ss with
  | [s0, s1, _, s3] => ⟨atoiV s0.data.toList, 0, atoiV s1.data.toList, ⟨#[]⟩, 0, 0, atoiV s3.data.toList⟩
  | [s0, s1, _, s3, s4, s5, s6] => ⟨atoiV s0.data.toList, atoiV s4.data.toList, atoiV s1.data.toList, s3, atoiV s5.data.toList, atoiV s6.data.toList, 0⟩
  | _ => ⟨0, 0, 0, ⟨#[]⟩, 0, 0, 0⟩
theorem parse_any (bk c : Nat) (ss : List ByteArray) (hs : ∀ s ∈ ss, s.size ≤ 1000000) (w : World) (hE : Env w) (hW : Wds w bk ss) :
    Calls Tryz.prog 109 #[.slice (some ⟨bk, 0, none⟩) ss.length c] w fun e w' => e = .returned (eqV (parseS ss)) ∧ Kept w w' := by
  by_cases h4 : ss.length = 4
  · match ss, h4, hs, hW with
    | [s0, s1, s2, s3], _, hs, hW => exact parse_four bk c s0 s1 s2 s3 (hs _ (by simp)) (hs _ (by simp)) (hs _ (by simp)) w hE hW
  by_cases h7 : ss.length = 7
  · match ss, h7, hs, hW with
    | [s0, s1, s2, s3, s4, s5, s6], _, hs, hW => exact parse_seven bk c s0 s1 s2 s3 s4 s5 s6 (hs _ (by simp)) (hs _ (by simp)) (hs _ (by simp)) (hs _ (by simp)) (hs _ (by simp)) w hE hW
  have h : parseS ss = ⟨0, 0, 0, ⟨#[]⟩, 0, 0, 0⟩ := by
    unfold parseS
    split
    · simp at h4
    · simp at h7
    · rfl
  rw [h]
  exact parse_other _ _ c (by simpa using by omega) (by simpa using by omega) w
theorem parseS_sort (ss : List ByteArray) (B : Nat) (hs : ∀ s ∈ ss, s.size ≤ B) : (parseS ss).sort.size ≤ B := by
  unfold parseS
  split
  · exact Nat.zero_le _
  · exact hs _ (by simp)
  · exact Nat.zero_le _
/-- what Read returns -/
def readS (line : ByteArray) : Eqv × Int :=
  if formB (parseS (wordsB line)) = true then (if ((lineS (parseS (wordsB line))).toList == line.toList) = true then (parseS (wordsB line), 0) else (zeroE, 4)) else (zeroE, 4)

set_option maxRecDepth 100000 in
set_option maxHeartbeats 1600000 in
theorem read_any (line : ByteArray) (hl : line.size ≤ 1000000) (w : World) (hE : Env w) :
    Calls Tryz.prog 42 #[.string line] w fun e w' => e = .returned (ofV (readS line)) ∧ Kept w w' := by
  obtain ⟨x, hx⟩ : ∃ x, parseS (wordsB line) = x := ⟨_, rfl⟩
  have hxs : x.sort.size ≤ 1000000 := by
    rw [← hx]; exact parseS_sort _ _ (fun s hs => Nat.le_trans (words_size line s hs) hl)
  obtain ⟨W0, hW0⟩ : ∃ W0 : World, W0 = w.alloc (boxX zeroE) := ⟨_, rfl⟩
  have K0 : Kept w W0 := by rw [hW0]; exact (Kept.refl w).alloc _
  have R0 : RowC W0 w.heap.size (eqCells zeroE) := by rw [hW0]; exact RowC.new w (eqCells zeroE) 37
  have hE0 := hE.kept K0
  obtain ⟨m, hm⟩ := hE0.mx
  have cS := Tryz.strings_Split line spaceB m W0 (by omega) hm (by decide)
  have hwl := words_len line
  rw [← hwl, show Lib.splitB spaceB 0 (Lib.countB line spaceB) line = wordsB line from rfl] at cS
  have hsp : (⟨#[32]⟩ : ByteArray) = spaceB := rfl
  have cP : ∀ W1 : World, W1 = W0.alloc (.cells ((wordsB line).map Value.string).toArray 9) → Calls Tryz.prog 109 #[.slice (some ⟨W0.heap.size, 0, none⟩) (wordsB line).length (wordsB line).length] W1 fun e w' => e = .returned (eqV x) ∧ Kept W1 w' := by
    intro W1 h1
    rw [← hx]
    refine parse_any _ _ (wordsB line) (fun s hs => Nat.le_trans (words_size line s hs) hl) W1 (hE0.kept (by rw [h1]; exact (Kept.refl _).alloc _)) (fun i s hi => ?_)
    rw [h1]
    exact (RowC.new W0 ((wordsB line).map Value.string) 9 i _ (by rw [List.getElem?_map, hi]; rfl)).1
  have hkW : ∀ W1 : World, W1 = W0.alloc (.cells ((wordsB line).map Value.string).toArray 9) → Kept W0 W1 := fun W1 h1 => by rw [h1]; exact (Kept.refl _).alloc _
  have HkW := Lib.hid hkW
  have HS := Lib.hid cS
  have HP := Lib.hid cP
  have HE0 := Lib.hid hE0
  have HR0 := Lib.hid R0
  have HK0 := Lib.hid K0
  have HD := Lib.hid (show readS line = if formB x = true then (if ((lineS x).toList == line.toList) = true then (x, 0) else (zeroE, 4)) else (zeroE, 4) by unfold readS; rw [hx])
  obtain ⟨n, hn⟩ : ∃ n, (wordsB line).length = n := ⟨_, rfl⟩
  have hz0 : W0.heap.size = w.heap.size + 1 := by rw [hW0]; simp
  rw [hn, hz0] at HS HP
  simp only [boxX, zeroE] at hW0
  have HW0 := Lib.hid hW0
  clear cS cP hwl hE0 hm hx hE hW0 K0 R0 hkW hn
  go_enter Tryz.func42, Tryz.ntmps42
  go_wp2_with fail
  rw [← HW0.out]
  refine HS.out.mono ?_
  rintro e w1 ⟨rfl, hw1⟩
  have KW := Lib.hid (HkW.out w1 hw1)
  have HP1 := Lib.hid (HP.out w1 hw1)
  clear hw1
  go_wp2_with fail
  refine HP1.out.mono ?_
  rintro e w2 ⟨rfl, hk2⟩
  have K2 : Kept W0 w2 := KW.out.trans hk2
  have HK2 := Lib.hid K2
  unfold eqV
  have R2 : RowC (w2.alloc (boxX x)) w2.heap.size (eqCells x) := RowC.new w2 (eqCells x) 37
  have HR2 := Lib.hid R2
  clear hk2 K2 R2
  have HWr := Lib.hid (write_any x (by omega) (w2.alloc (boxX x)) ((HE0.out.kept HK2.out).kept ((Kept.refl _).alloc _)))
  unfold boxX eqV at HWr
  go_wp2_with fail
  refine HWr.out.mono ?_
  clear HWr
  by_cases hf : formB x = true
  · rw [hf]
    rw [if_pos rfl, show errB true = 0 from rfl]
    rintro e w3 ⟨rfl, hk3⟩
    have KK : Kept W0 w3 := (HK2.out.alloc _).trans hk3
    have Kw : Kept w w3 := HK0.out.trans KK
    have R := HR0.out.kept KK
    have Q := HR2.out.kept hk3
    have t0 := (R 0 _ rfl).1
    have t1 := (R 1 _ rfl).1
    have t2 := (R 2 _ rfl).1
    have t3 := (R 3 _ rfl).1
    have t4 := (R 4 _ rfl).1
    have t5 := (R 5 _ rfl).1
    have t6 := (R 6 _ rfl).1
    have z0 := (R 0 _ rfl).2
    have z1 := (R 1 _ rfl).2
    have z2 := (R 2 _ rfl).2
    have z3 := (R 3 _ rfl).2
    have z4 := (R 4 _ rfl).2
    have z5 := (R 5 _ rfl).2
    have z6 := (R 6 _ rfl).2
    have q0 := (Q 0 _ rfl).1
    have q1 := (Q 1 _ rfl).1
    have q2 := (Q 2 _ rfl).1
    have q3 := (Q 3 _ rfl).1
    have q4 := (Q 4 _ rfl).1
    have q5 := (Q 5 _ rfl).1
    have q6 := (Q 6 _ rfl).1
    have hzq : w.heap.size < w3.heap.size := cell_lt t0
    dsimp only [zeroE] at t0 t1 t2 t3 t4 t5 t6
    have HKw := Lib.hid Kw
    clear R Q KK Kw hk3
    have HF := Lib.hid hf
    by_cases hq : ((lineS x).toList == line.toList) = true
    · have HQ := Lib.hid hq
      go_wp2
      refine bodyPost_ret (v := ofV (x, 0)) (by simp [results, Tryz.results42, go_sem, hzq, t0, t1, t2, t3, t4, t5, t6, q0, q1, q2, q3, q4, q5, q6, ofV, eqV]) rfl ⟨by rw [HD.out, if_pos HF.out, if_pos HQ.out], ?_⟩
      exact (show Kept w (put7 w3 w.heap.size x) from put7_below (b := w.heap.size) x HKw.out.below (Nat.le_refl _))
    · have hq' : ((lineS x).toList == line.toList) = false := by simpa using hq
      have HQ := Lib.hid hq
      clear hq
      go_wp2
      refine bodyPost_ret (v := ofV (zeroE, 4)) (by simp [results, Tryz.results42, go_sem, hzq, t0, t1, t2, t3, t4, t5, t6, ofV, eqV, zeroE]) rfl ⟨by rw [HD.out, if_pos HF.out, if_neg HQ.out], ?_⟩
      exact (show Kept w (put7 w3 w.heap.size zeroE) from put7_below (b := w.heap.size) zeroE HKw.out.below (Nat.le_refl _))
  · have hf' : formB x = false := by simpa using hf
    rw [hf']
    rw [if_neg (by simp), show errB false = 1 from rfl]
    rintro e w3 ⟨rfl, hk3⟩
    have KK : Kept W0 w3 := (HK2.out.alloc _).trans hk3
    have Kw : Kept w w3 := HK0.out.trans KK
    have R := HR0.out.kept KK
    have Q := HR2.out.kept hk3
    have t0 := (R 0 _ rfl).1
    have t1 := (R 1 _ rfl).1
    have t2 := (R 2 _ rfl).1
    have t3 := (R 3 _ rfl).1
    have t4 := (R 4 _ rfl).1
    have t5 := (R 5 _ rfl).1
    have t6 := (R 6 _ rfl).1
    have z0 := (R 0 _ rfl).2
    have z1 := (R 1 _ rfl).2
    have z2 := (R 2 _ rfl).2
    have z3 := (R 3 _ rfl).2
    have z4 := (R 4 _ rfl).2
    have z5 := (R 5 _ rfl).2
    have z6 := (R 6 _ rfl).2
    have q0 := (Q 0 _ rfl).1
    have q1 := (Q 1 _ rfl).1
    have q2 := (Q 2 _ rfl).1
    have q3 := (Q 3 _ rfl).1
    have q4 := (Q 4 _ rfl).1
    have q5 := (Q 5 _ rfl).1
    have q6 := (Q 6 _ rfl).1
    have hzq : w.heap.size < w3.heap.size := cell_lt t0
    dsimp only [zeroE] at t0 t1 t2 t3 t4 t5 t6
    have HKw := Lib.hid Kw
    clear R Q KK Kw hk3
    have HF := Lib.hid hf
    clear hf hf'
    go_wp2
    refine bodyPost_ret (v := ofV (zeroE, 4)) (by simp [results, Tryz.results42, go_sem, hzq, t0, t1, t2, t3, t4, t5, t6, ofV, eqV, zeroE]) rfl ⟨by rw [HD.out, if_neg HF.out], ?_⟩
    exact (show Kept w (put7 w3 w.heap.size zeroE) from put7_below (b := w.heap.size) zeroE HKw.out.below (Nat.le_refl _))
end Go.Proofs.YtcjpecdnenemaaaGreatDoor
