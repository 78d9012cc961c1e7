/-
  Rows of records in memory of a call's own; slices.Clone, Append.
  Append.
-/
import Derived.Test.YtcjpecdnenemaaaGreatDoorGE
import Derived.Maps.AppendAt
import Derived.WalkSpells
import Derived.Deep.RegionHeld3
import Derived.Deep.AppendLies
namespace Go.Proofs.YtcjpecdnenemaaaGreatDoor
set_option linter.unusedVariables false
open Go.RowKit Go.Shelf

def flat7 (xs : List Eqv) : List Value := xs.flatMap eqCells
theorem flat_len (xs : List Eqv) : (flat7 xs).length = xs.length * 7 := by
  unfold flat7
  induction xs with
  | nil => rfl
  | cons x xs ih => rw [List.flatMap_cons, List.length_append, ih, List.length_cons]; simp [eqCells]; omega
theorem flat_at : ∀ (xs : List Eqv) (i j : Nat) (x : Eqv), xs[i]? = some x → j < 7 → (flat7 xs)[i * 7 + j]? = (eqCells x)[j]?
  | [], _, _, _, h, _ => by simp at h
  | y :: ys, 0, j, x, h, hj => by
    simp at h
    subst h
    unfold flat7
    rw [List.flatMap_cons, List.getElem?_append_left (by simp [eqCells]; omega)]
    simp
  | y :: ys, i + 1, j, x, h, hj => by
    have ih := flat_at ys i j x (by simpa using h) hj
    unfold flat7 at ih ⊢
    rw [List.flatMap_cons, List.getElem?_append_right (by simp [eqCells]; omega)]
    rw [← ih]
    congr 1
    simp [eqCells]
    omega
theorem flat_one (xs : List Eqv) : ∀ u ∈ flat7 xs, u.oneCell' = true := by
  intro u hu
  unfold flat7 at hu
  rw [List.mem_flatMap] at hu
  obtain ⟨x, _, hx⟩ := hu
  simp [eqCells] at hx
  rcases hx with h | h | h | h | h | h | h <;> subst h <;> rfl
theorem addr_add (b off j : Nat) : (⟨b, off, none⟩ : Addr).add j = ⟨b, off + j, none⟩ := by
  by_cases h : j = 0
  · subst h; rfl
  · simp [Addr.add, h]
theorem flat_find (xs : List Eqv) (j : Nat) (u : Value) (h : (flat7 xs)[j]? = some u) : ∃ x, xs[j / 7]? = some x ∧ (eqCells x)[j % 7]? = some u := by
  have hlt : j < xs.length * 7 := by rw [← flat_len]; exact (List.getElem?_eq_some_iff.1 h).1
  have hi : j / 7 < xs.length := by omega
  refine ⟨xs[j / 7], List.getElem?_eq_getElem hi, ?_⟩
  rw [← flat_at xs (j / 7) (j % 7) _ (List.getElem?_eq_getElem hi) (Nat.mod_lt _ (by omega)), ← h]
  congr 1
  omega
theorem cells7_at {w : World} {b o : Nat} {x : Eqv} (h : Cells7 w b o x) {t : Nat} {u : Value} (hu : (eqCells x)[t]? = some u) : w.cell? ⟨b, o + t, none⟩ = some u := by
  obtain ⟨h0, h1, h2, h3, h4, h5, h6⟩ := h
  match t, hu with
  | 0, hu => simp [eqCells] at hu; subst hu; exact h0
  | 1, hu => simp [eqCells] at hu; subst hu; exact h1
  | 2, hu => simp [eqCells] at hu; subst hu; exact h2
  | 3, hu => simp [eqCells] at hu; subst hu; exact h3
  | 4, hu => simp [eqCells] at hu; subst hu; exact h4
  | 5, hu => simp [eqCells] at hu; subst hu; exact h5
  | 6, hu => simp [eqCells] at hu; subst hu; exact h6
  | t + 7, hu => simp [eqCells] at hu
theorem Tab.news {w : World} {b off : Nat} {xs : List Eqv} (h : Tab w b off xs) : ∀ j u, (flat7 xs)[j]? = some u → w.cell? ((⟨b, off, none⟩ : Addr).add j) = some u := by
  intro j u hu
  obtain ⟨x, hx, hc⟩ := flat_find xs j u hu
  rw [addr_add, show off + j = (off + j / 7 * 7) + j % 7 by omega]
  exact cells7_at (h _ x hx) hc
theorem own_tab {w : World} {base g n c : Nat} {e : TypeId} {xs : List Eqv} (h : w.ownsRow base e 7 (.slice (some ⟨g, 0, none⟩) n c) n (flat7 xs)) : Tab w g 0 xs := by
  intro i x hx
  have hlen : (flat7 xs).length = n * 7 := h.1
  have hi : i < xs.length := (List.getElem?_eq_some_iff.1 hx).1
  have hn : xs.length = n := by rw [flat_len] at hlen; omega
  have key : ∀ j, j < 7 → w.cell? ⟨g, 0 + i * 7 + j, none⟩ = (eqCells x)[j]? := by
    intro j hj
    rw [show 0 + i * 7 + j = i * 7 + j by omega, h.cellAt (i * 7 + j) (by omega), flat_at xs i j x hx hj]
  exact ⟨key 0 (by omega), key 1 (by omega), key 2 (by omega), key 3 (by omega), key 4 (by omega), key 5 (by omega), key 6 (by omega)⟩
theorem own_form {w : World} {base n size : Nat} {e : TypeId} {v : Value} {ys : List Value} (h : w.ownsRow base e size v n ys) : (v = .slice none 0 0 ∧ n = 0) ∨ ∃ g c, v = .slice (some ⟨g, 0, none⟩) n c ∧ n ≤ c ∧ c ≤ maxLen ∧ base ≤ g ∧ g < w.heap.size := by
  rcases h.2 with h | ⟨g, cap, cur, rfl, hb, hh, h1, h2, _⟩
  · exact .inl h
  · exact .inr ⟨g, cap, rfl, h1, h2, hb, (Array.getElem?_eq_some_iff.1 hh).1⟩
/-- what a call hands back: a row of its own with these records -/
def OwnRes (w : World) (xs : List Eqv) (e : Ending) (w' : World) : Prop := ∃ v, e = .returned v ∧ w'.ownsRow w.heap.size 37 7 v xs.length (flat7 xs) ∧ Kept w w'
theorem own_tabA {w : World} {base n c : Nat} {A : Option Addr} {xs : List Eqv} (h : w.ownsRow base 37 7 (.slice A n c) n (flat7 xs)) (hn : xs.length = n) (hs : ∀ x ∈ xs, x.sort.size ≤ 9223372036854775807) : TabA w A n c xs := by
  rcases own_form h with ⟨hv, h0⟩ | ⟨g, c', hv, h1, h2, h3, h4⟩
  · injection hv with e1 e2 e3
    subst e1 e2 e3
    exact ⟨hn, by omega, by omega, hs, fun h => by omega⟩
  · injection hv with e1 e2 e3
    subst e1 e3
    exact ⟨hn, h1, by simpa [maxLen] using h2, hs, fun _ => ⟨g, 0, rfl, own_tab h⟩⟩

theorem info37 : (Tryz.prog.info? 37).map (fun i => (i.zero, i.size, i.bytes)) = some (some (.agg #[.int .i64 0, .int .i64 0, .int .i64 0, .string ByteArray.empty, .int .i64 0, .int .i64 0, .int .i64 0]), 7, 64) := by kernel_rfl

set_option maxRecDepth 100000 in
theorem clone_some (b off n c : Nat) (xs : List Eqv) (hn : xs.length = n) (hbig : n ≤ 1000000) (w : World) (ht : Tab w b off xs) :
    Calls Tryz.prog 104 #[.slice (some ⟨b, off, none⟩) n c] w (OwnRes w xs) := by
  have q35 : ∀ (w : World) (a : Option Addr) (n c n' c' : Nat), (binOp .eql 35 (.slice a n c) (.slice none n' c')).run Tryz.prog w = .ok (.bool a.isNone) w := fun w a n c n' c' => Lib.run_eql_slice_nil w _ _ a n c n' c' Tryz.underlying35
  have hmk : ∀ w, (Instr.makeSlice 35 (.int .i64 0) (.int .i64 0)).run Tryz.prog w = .ok (.slice (some ⟨w.heap.size, 0, none⟩) 0 0) (w.alloc (.cells #[] 37)) := fun _ => by kernel_rfl
  obtain ⟨i0, hi0, hz0, hz1, hz2⟩ := info_parts info37
  have hown0 : (w.alloc (.cells #[] 37)).ownsRow w.heap.size 37 7 (.slice (some ⟨w.heap.size, 0, none⟩) 0 0) 0 [] :=
    ⟨rfl, .inr ⟨w.heap.size, 0, #[], rfl, Nat.le_refl _, heap_alloc_new _ _, by omega, by simp [maxLen], rfl, rfl⟩⟩
  have hl : (flat7 xs).length = n * 7 := by rw [flat_len, hn]
  have hnews : ∀ j u, (flat7 xs)[j]? = some u → (w.alloc (.cells #[] 37)).cell? ((⟨b, off, none⟩ : Addr).add j) = some u := (ht.kept ((Kept.refl w).alloc _)).news
  have O0 := Lib.hid hown0
  have HL := Lib.hid hl
  have HN := Lib.hid hnews
  have Hn := Lib.hid hn
  clear hn ht hown0 hl hnews
  go_enter Tryz.func104, Tryz.ntmps104
  go_wp2_with (at_builtin; refine wpList_append_own _ rfl (.tmp 5) (.tmp 6) 35 rfl w.heap.size 37 i0 _ 7 64 Tryz.underlying35 hi0 hz0 hz1 hz2 rfl (by decide) (.slice (some ⟨w.heap.size, 0, none⟩) 0 0) 0 [] rfl O0.out ⟨b, off, none⟩ n c (flat7 xs) rfl HL.out HN.out (flat_one xs) (by simp only [maxLen]; omega) (by omega) (by simp) ?_; intro v' w1 hown1 hg1 _hx1)
  go_ret
  refine ⟨v', rfl, ?_, ?_⟩
  · rw [Hn.out]
    simpa using hown1
  · exact ((Kept.refl w).alloc _).grown hg1 (fun k hk => by simp [Value.ownBlock] at hk; omega)

theorem clone_nil (c : Nat) (w : World) : Calls Tryz.prog 104 #[.slice none 0 c] w (OwnRes w []) := by
  have q35 : ∀ (w : World) (a : Option Addr) (n c n' c' : Nat), (binOp .eql 35 (.slice a n c) (.slice none n' c')).run Tryz.prog w = .ok (.bool a.isNone) w := fun w a n c n' c' => Lib.run_eql_slice_nil w _ _ a n c n' c' Tryz.underlying35
  go_enter Tryz.func104, Tryz.ntmps104
  go_wp2_with fail
  go_ret
  exact ⟨_, rfl, ⟨rfl, .inl ⟨rfl, rfl⟩⟩, Kept.refl w⟩
set_option maxRecDepth 100000 in
theorem clone_empty (a : Addr) (c : Nat) (w : World) : Calls Tryz.prog 104 #[.slice (some a) 0 c] w (OwnRes w []) := by
  have q35 : ∀ (w : World) (a : Option Addr) (n c n' c' : Nat), (binOp .eql 35 (.slice a n c) (.slice none n' c')).run Tryz.prog w = .ok (.bool a.isNone) w := fun w a n c n' c' => Lib.run_eql_slice_nil w _ _ a n c n' c' Tryz.underlying35
  obtain ⟨i0, hi0, hz0, hz1, hz2⟩ := info_parts info37
  have hown0 : (w.alloc (.cells #[] 37)).ownsRow w.heap.size 37 7 (.slice (some ⟨w.heap.size, 0, none⟩) 0 0) 0 [] :=
    ⟨rfl, .inr ⟨w.heap.size, 0, #[], rfl, Nat.le_refl _, heap_alloc_new _ _, by omega, by simp [maxLen], rfl, rfl⟩⟩
  have O0 := Lib.hid hown0
  clear hown0
  go_enter Tryz.func104, Tryz.ntmps104
  go_wp2_with (at_builtin; refine wpList_append_own _ rfl (.tmp 5) (.tmp 6) 35 rfl w.heap.size 37 i0 _ 7 64 Tryz.underlying35 hi0 hz0 hz1 hz2 rfl (by decide) (.slice (some ⟨w.heap.size, 0, none⟩) 0 0) 0 [] rfl O0.out a 0 c [] rfl rfl (fun j u hu => by simp at hu) (fun u hu => by simp at hu) (by simp only [maxLen]; omega) (by omega) (by simp) ?_; intro v' w1 hown1 hg1 _hx1)
  go_ret
  refine ⟨v', rfl, ?_, ?_⟩
  · simpa [flat7] using hown1
  · exact ((Kept.refl w).alloc _).grown hg1 (fun k hk => by simp [Value.ownBlock] at hk; omega)
theorem clone_any (A : Option Addr) (n c : Nat) (xs : List Eqv) (hbig : n ≤ 1000000) (w : World) (h : TabA w A n c xs) : Calls Tryz.prog 104 #[.slice A n c] w (OwnRes w xs) := by
  rcases Nat.eq_zero_or_pos n with h0 | hp
  · subst h0
    have hx : xs = [] := List.eq_nil_of_length_eq_zero h.1
    subst hx
    cases A with
    | none => exact clone_nil c w
    | some a => exact clone_empty a c w
  · obtain ⟨b, off, rfl, ht⟩ := h.2.2.2.2 hp
    exact clone_some b off n c xs h.1 hbig w ht
end Go.Proofs.YtcjpecdnenemaaaGreatDoor

namespace Go.Proofs.YtcjpecdnenemaaaGreatDoor
set_option linter.unusedVariables false
open Go.RowKit Go.Shelf

/-- a table handed back with no error -/
def TabRes (w : World) (xs : List Eqv) (e : Ending) (w' : World) : Prop := ∃ v, e = .returned (.tuple #[v, .int .i64 0]) ∧ w'.ownsRow w.heap.size 37 7 v xs.length (flat7 xs) ∧ Kept w w'
theorem flat_snoc (xs : List Eqv) (x : Eqv) : flat7 (xs ++ [x]) = flat7 xs ++ eqCells x := by simp [flat7]

theorem own_base {w : World} {b b' : Nat} {e : TypeId} {s : Nat} {v : Value} {n : Nat} {ys : List Value} (h : w.ownsRow b e s v n ys) (hb : b' ≤ b) : w.ownsRow b' e s v n ys := by
  obtain ⟨h1, h2⟩ := h
  refine ⟨h1, ?_⟩
  rcases h2 with h | ⟨g, c, cur, k1, k2, k3⟩
  · exact .inl h
  · exact .inr ⟨g, c, cur, k1, by omega, k3⟩
theorem own_kept {w w' : World} {b : Nat} {e : TypeId} {s : Nat} {v : Value} {n : Nat} {ys : List Value} (h : w.ownsRow b e s v n ys) (hk : Kept w w') : w'.ownsRow b e s v n ys := by
  obtain ⟨h1, h2⟩ := h
  refine ⟨h1, ?_⟩
  rcases h2 with h | ⟨g, c, cur, k1, k2, k3, k4⟩
  · exact .inl h
  · exact .inr ⟨g, c, cur, k1, k2, (hk.block g (Array.getElem?_eq_some_iff.1 k3).1).trans k3, k4⟩
theorem eq_one (x : Eqv) : ∀ u ∈ eqCells x, u.oneCell' = true := by
  intro u hx
  simp [eqCells] at hx
  rcases hx with h | h | h | h | h | h | h <;> subst h <;> rfl
theorem news_block {w : World} {g : Nat} {x : Eqv} (h : w.heap[g]? = some (.cells #[.int .i64 x.id, .int .i64 x.frm, .int .i64 x.kno, .string x.sort, .int .i64 x.num, .int .i64 x.den, .int .i64 x.off] 37 (0, 0))) : ∀ j u, (eqCells x)[j]? = some u → w.cell? ((⟨g, 0, none⟩ : Addr).add j) = some u :=
  World.news_of_block (cs := #[.int .i64 x.id, .int .i64 x.frm, .int .i64 x.kno, .string x.sort, .int .i64 x.num, .int .i64 x.den, .int .i64 x.off]) (t := 37) (fr := (0, 0)) h

def boxX (x : Eqv) : Obj := .cells #[.int .i64 x.id, .int .i64 x.frm, .int .i64 x.kno, .string x.sort, .int .i64 x.num, .int .i64 x.den, .int .i64 x.off] 37
theorem nb (x : Eqv) (w : World) : ((w.alloc (boxX x)).alloc (boxX x)).drew.heap[w.heap.size + 1]? = some (boxX x) := by
  have h := heap_alloc_new (w.alloc (boxX x)) (boxX x)
  rw [show (w.alloc (boxX x)).heap.size = w.heap.size + 1 by simp] at h
  exact h
theorem S_of {w w' : World} (x : Eqv) (h : Kept (w.alloc (boxX x)) w') : w'.cell? ⟨w.heap.size, 0, none⟩ = some (.int .i64 x.id) ∧ w'.cell? ⟨w.heap.size, 1, none⟩ = some (.int .i64 x.frm) ∧ w'.cell? ⟨w.heap.size, 2, none⟩ = some (.int .i64 x.kno) ∧ w'.cell? ⟨w.heap.size, 3, none⟩ = some (.string x.sort) ∧ w'.cell? ⟨w.heap.size, 4, none⟩ = some (.int .i64 x.num) ∧ w'.cell? ⟨w.heap.size, 5, none⟩ = some (.int .i64 x.den) ∧ w'.cell? ⟨w.heap.size, 6, none⟩ = some (.int .i64 x.off) ∧ Kept (w.alloc (boxX x)) w' := by
  refine ⟨?_, ?_, ?_, ?_, ?_, ?_, ?_, h⟩ <;> (rw [h.cells _ _ (by simp)]; unfold boxX; simp [go_sem])
theorem S_app {w W w1 wa w2 : World} {x : Eqv} {v1 : Value} {n : Nat} {ys : List Value} (hW : Kept (w.alloc (boxX x)) W) (hk : Kept W w1) (ha : Kept w1 wa) (hown : w1.ownsRow W.heap.size 37 7 v1 n ys) (hg : wa.grownBy w2 v1.ownBlock) : Kept (w.alloc (boxX x)) w2 :=
  ((hW.trans hk).trans ha).grown hg (fun k hk' => Nat.le_trans hW.size (hown.lt k hk').1)

set_option maxHeartbeats 3200000 in
set_option maxRecDepth 100000 in
theorem append_ok (A : Option Addr) (n c : Nat) (xs : List Eqv) (x : Eqv) (hbig : n ≤ 100000) (hs : x.sort.size ≤ 9223372036854775807) (h0 : (chkS (xs ++ [x])).2 = 0) (w : World) (h : TabA w A n c xs) :
    Calls Tryz.prog 38 #[.slice A n c, eqV x] w (TabRes w (xs ++ [x])) := by
  obtain ⟨i0, hi0, hz0, hz1, hz2⟩ := info_parts info37
  have H := Lib.hid h
  have hn := h.1
  have Hn := Lib.hid hn
  have H0 := Lib.hid h0
  clear h hn h0
  unfold eqV
  go_enter Tryz.func38, Tryz.ntmps38
  go_wp2_with fail
  have hTA : ∀ W : World, Kept w W → Calls Tryz.prog 104 #[.slice A n c] W (OwnRes W xs) := fun W hW => clone_any A n c xs (by omega) W (H.out.kept hW)
  have HTA := Lib.hid hTA
  clear hTA
  go_region_held3 (fun w' => w'.cell? ⟨w.heap.size, 0, none⟩ = some (.int .i64 x.id) ∧ w'.cell? ⟨w.heap.size, 1, none⟩ = some (.int .i64 x.frm) ∧ w'.cell? ⟨w.heap.size, 2, none⟩ = some (.int .i64 x.kno) ∧ w'.cell? ⟨w.heap.size, 3, none⟩ = some (.string x.sort) ∧ w'.cell? ⟨w.heap.size, 4, none⟩ = some (.int .i64 x.num) ∧ w'.cell? ⟨w.heap.size, 5, none⟩ = some (.int .i64 x.den) ∧ w'.cell? ⟨w.heap.size, 6, none⟩ = some (.int .i64 x.off) ∧ Kept (w.alloc (boxX x)) w')
    (first
      | exact S_of x ((Kept.refl _).drew)
      | exact S_of x (((Kept.refl _).drew).alloc _)
      | exact S_of x (S_app (W := (w.alloc (boxX x)).drew) ((Kept.refl _).drew) hkk ((Kept.refl _).alloc _) hown1 hgrow)
      | exact S_of x (S_app (W := (w.alloc (boxX x)).drew.alloc (boxX x)) (((Kept.refl _).drew).alloc _) hkk (Kept.refl _) hown1 hgrow)
      | exact S_of x ((((Kept.refl (w.alloc (boxX x))).drew).trans hkk).alloc _)
      | exact S_of x (((Kept.refl (w.alloc (boxX x))).drew).trans hkk)
      | exact S_of x ((((Kept.refl (w.alloc (boxX x))).drew).alloc (boxX x)).trans hkk)
      | fail)
    (first
      | (go_at_call 104; refine (HTA.out _ (by first | exact ((Kept.refl w).alloc _).drew | exact (((Kept.refl w).alloc _).drew).alloc _)).mono ?_; rintro e w1 ⟨v1, rfl, hown1, hkk⟩)
      | (refine step_append_lies _ (by rfl) _ _ _ (by rfl) w.heap.size 37 i0 _ 7 64 Tryz.underlying35 hi0 hz0 hz1 hz2 rfl (by omega) v1 xs.length (flat7 xs) (by rfl) ((own_base hown1 (by first | omega | (simp; done) | (simp; omega))).alloc _) ⟨w1.heap.size, 0, none⟩ 1 1 (eqCells x) (by rfl) (by rfl) (news_block (heap_alloc_new w1 _)) (eq_one x) (by omega) (by simp only [maxLen]; have := Hn.out; omega) (by have := Hn.out; omega) (by have := hkk.size; simp at this ⊢; omega) (w1.heap.size + 1) (by simp) ?_; intro g cap w2 hown2 hgrow hat hlt)
      | (refine step_append_lies _ (by rfl) _ _ _ (by rfl) w.heap.size 37 i0 _ 7 64 Tryz.underlying35 hi0 hz0 hz1 hz2 rfl (by omega) v1 xs.length (flat7 xs) (by rfl) (own_base hown1 (by first | omega | (simp; done) | (simp; omega))) ⟨w.heap.size + 1, 0, none⟩ 1 1 (eqCells x) (by rfl) (by rfl) (news_block ((hkk.block _ (by simp)).trans (nb x w))) (eq_one x) (by omega) (by simp only [maxLen]; have := Hn.out; omega) (by have := Hn.out; omega) (by have := hkk.size; simp at this ⊢; omega) w1.heap.size (by simp) ?_; intro g cap w2 hown2 hgrow hat hlt)
      | fail)
  all_goals
    have hkw : Kept (w.alloc (boxX x)) w2 := by
      first
        | exact S_app (W := (w.alloc (boxX x)).drew) ((Kept.refl _).drew) hkk ((Kept.refl _).alloc _) hown1 hgrow
        | exact S_app (W := (w.alloc (boxX x)).drew.alloc (boxX x)) (((Kept.refl _).drew).alloc _) hkk (Kept.refl _) hown1 hgrow
    have hk2 : Kept w w2 := ((Kept.refl w).alloc (boxX x)).trans hkw
    rw [← flat_snoc] at hown2
    have hT2 : TabA w2 (some ⟨g, 0, none⟩) (xs.length + 1) cap (xs ++ [x]) := own_tabA hown2 (by simp) (fun y hy => by
      rcases List.mem_append.1 hy with h | h
      · exact H.out.2.2.2.1 y h
      · simp at h; subst h; exact hs)
    have T2 := Lib.hid hT2
    have O2 := Lib.hid hown2
    clear hT2 hown2
    go_wp2_with fail
    refine (check_any _ _ _ (xs ++ [x]) _ T2.out).mono ?_
    rw [H0.out]
    rintro e w3 ⟨rfl, hk3⟩
    go_wp2
    go_ret2
    refine ⟨_, rfl, ?_, hk2.trans hk3⟩
    have h := O2.out
    rw [show (xs ++ [x]).length = xs.length + 1 by simp]
    exact own_kept h hk3
set_option maxHeartbeats 3200000 in
set_option maxRecDepth 100000 in
theorem append_err (A : Option Addr) (n c : Nat) (xs : List Eqv) (x : Eqv) (hbig : n ≤ 100000) (hs : x.sort.size ≤ 9223372036854775807) (E : Int) (h0 : (chkS (xs ++ [x])).2 = E) (hE : (E != 0) = true) (w : World) (h : TabA w A n c xs) :
    Calls Tryz.prog 38 #[.slice A n c, eqV x] w fun e w' => e = .returned (.tuple #[.slice none 0 0, .int .i64 E]) ∧ Kept w w' := by
  obtain ⟨i0, hi0, hz0, hz1, hz2⟩ := info_parts info37
  have H := Lib.hid h
  have hn := h.1
  have Hn := Lib.hid hn
  have H0 := Lib.hid h0
  clear h hn h0
  unfold eqV
  go_enter Tryz.func38, Tryz.ntmps38
  go_wp2_with fail
  have hTA : ∀ W : World, Kept w W → Calls Tryz.prog 104 #[.slice A n c] W (OwnRes W xs) := fun W hW => clone_any A n c xs (by omega) W (H.out.kept hW)
  have HTA := Lib.hid hTA
  clear hTA
  go_region_held3 (fun w' => w'.cell? ⟨w.heap.size, 0, none⟩ = some (.int .i64 x.id) ∧ w'.cell? ⟨w.heap.size, 1, none⟩ = some (.int .i64 x.frm) ∧ w'.cell? ⟨w.heap.size, 2, none⟩ = some (.int .i64 x.kno) ∧ w'.cell? ⟨w.heap.size, 3, none⟩ = some (.string x.sort) ∧ w'.cell? ⟨w.heap.size, 4, none⟩ = some (.int .i64 x.num) ∧ w'.cell? ⟨w.heap.size, 5, none⟩ = some (.int .i64 x.den) ∧ w'.cell? ⟨w.heap.size, 6, none⟩ = some (.int .i64 x.off) ∧ Kept (w.alloc (boxX x)) w')
    (first
      | exact S_of x ((Kept.refl _).drew)
      | exact S_of x (((Kept.refl _).drew).alloc _)
      | exact S_of x (S_app (W := (w.alloc (boxX x)).drew) ((Kept.refl _).drew) hkk ((Kept.refl _).alloc _) hown1 hgrow)
      | exact S_of x (S_app (W := (w.alloc (boxX x)).drew.alloc (boxX x)) (((Kept.refl _).drew).alloc _) hkk (Kept.refl _) hown1 hgrow)
      | exact S_of x ((((Kept.refl (w.alloc (boxX x))).drew).trans hkk).alloc _)
      | exact S_of x (((Kept.refl (w.alloc (boxX x))).drew).trans hkk)
      | exact S_of x ((((Kept.refl (w.alloc (boxX x))).drew).alloc (boxX x)).trans hkk)
      | fail)
    (first
      | (go_at_call 104; refine (HTA.out _ (by first | exact ((Kept.refl w).alloc _).drew | exact (((Kept.refl w).alloc _).drew).alloc _)).mono ?_; rintro e w1 ⟨v1, rfl, hown1, hkk⟩)
      | (refine step_append_lies _ (by rfl) _ _ _ (by rfl) w.heap.size 37 i0 _ 7 64 Tryz.underlying35 hi0 hz0 hz1 hz2 rfl (by omega) v1 xs.length (flat7 xs) (by rfl) ((own_base hown1 (by first | omega | (simp; done) | (simp; omega))).alloc _) ⟨w1.heap.size, 0, none⟩ 1 1 (eqCells x) (by rfl) (by rfl) (news_block (heap_alloc_new w1 _)) (eq_one x) (by omega) (by simp only [maxLen]; have := Hn.out; omega) (by have := Hn.out; omega) (by have := hkk.size; simp at this ⊢; omega) (w1.heap.size + 1) (by simp) ?_; intro g cap w2 hown2 hgrow hat hlt)
      | (refine step_append_lies _ (by rfl) _ _ _ (by rfl) w.heap.size 37 i0 _ 7 64 Tryz.underlying35 hi0 hz0 hz1 hz2 rfl (by omega) v1 xs.length (flat7 xs) (by rfl) (own_base hown1 (by first | omega | (simp; done) | (simp; omega))) ⟨w.heap.size + 1, 0, none⟩ 1 1 (eqCells x) (by rfl) (by rfl) (news_block ((hkk.block _ (by simp)).trans (nb x w))) (eq_one x) (by omega) (by simp only [maxLen]; have := Hn.out; omega) (by have := Hn.out; omega) (by have := hkk.size; simp at this ⊢; omega) w1.heap.size (by simp) ?_; intro g cap w2 hown2 hgrow hat hlt)
      | fail)
  all_goals
    have hkw : Kept (w.alloc (boxX x)) w2 := by
      first
        | exact S_app (W := (w.alloc (boxX x)).drew) ((Kept.refl _).drew) hkk ((Kept.refl _).alloc _) hown1 hgrow
        | exact S_app (W := (w.alloc (boxX x)).drew.alloc (boxX x)) (((Kept.refl _).drew).alloc _) hkk (Kept.refl _) hown1 hgrow
    have hk2 : Kept w w2 := ((Kept.refl w).alloc (boxX x)).trans hkw
    rw [← flat_snoc] at hown2
    have hT2 : TabA w2 (some ⟨g, 0, none⟩) (xs.length + 1) cap (xs ++ [x]) := own_tabA hown2 (by simp) (fun y hy => by
      rcases List.mem_append.1 hy with h | h
      · exact H.out.2.2.2.1 y h
      · simp at h; subst h; exact hs)
    have T2 := Lib.hid hT2
    have O2 := Lib.hid hown2
    clear hT2 hown2
    go_wp2_with fail
    refine (check_any _ _ _ (xs ++ [x]) _ T2.out).mono ?_
    rw [H0.out]
    rintro e w3 ⟨rfl, hk3⟩
    go_wp2
    go_ret2
    exact ⟨rfl, hk2.trans hk3⟩
end Go.Proofs.YtcjpecdnenemaaaGreatDoor
