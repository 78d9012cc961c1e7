/-
  Write.
  Write, whole.
  Read: the numbers in a line.
  parse.
  parse, no record.
-/
import Derived.Test.YtcjpecdnenemaaaGreatDoorGE
import Derived.Test.YtcjpecdnenemaaaGreatDoorGG
import Derived.Test.YtcjpecdnenemaaaGreatDoorGF
import Derived.Deep.RegionHeld3
import Derived.Lib.ItoaLen
import Derived.Laws.Rows
import Derived.Lib.AtoiErrMem
namespace Go.Proofs.YtcjpecdnenemaaaGreatDoor
set_option linter.unusedVariables false
open Go.RowKit Go.Shelf

/-- what the walks lean on of the library's variables -/
structure Env (w : World) : Prop where
  mx : ∃ m, w.cell? ⟨5, 0, none⟩ = some (.int .i64 m)
  pow : Lib.TabIs Tryz.prog w "internal/strconv.uint64pow10" .u64 Lib.pow10Tab
  syn : ∃ tp p, w.var? Tryz.prog "strconv.ErrSyntax" = some #[.iface tp p]
  rng : ∃ tp p, w.var? Tryz.prog "strconv.ErrRange" = some #[.iface tp p]
theorem var_kept {w w' : World} {n : String} {cs : Array Value} (hk : Kept w w') (h : w.var? Tryz.prog n = some cs) : w'.var? Tryz.prog n = some cs := by
  unfold World.var? at h ⊢
  rcases hg : Tryz.prog.globalNamed n with _ | g
  · rw [hg] at h; cases h
  · rw [hg] at h
    simp only [Option.bind_some] at h ⊢
    rcases hb : w.heap[g]? with _ | o
    · rw [hb] at h; cases h
    · rw [hk.block g (Array.getElem?_eq_some_iff.1 hb).1]
      exact h
theorem Env.kept {w w' : World} (h : Env w) (hk : Kept w w') : Env w' := by
  obtain ⟨⟨m, hm⟩, hp, ⟨t1, p1, h1⟩, ⟨t2, p2, h2⟩⟩ := h
  exact ⟨⟨m, (hk.cells _ _ (cell_lt hm)).trans hm⟩, var_kept hk hp, ⟨t1, p1, var_kept hk h1⟩, ⟨t2, p2, var_kept hk h2⟩⟩
theorem Kept.grow_ {w w1 : World} (h : Kept w w1) (os : Array Obj) : Kept w (Go.Sort.grow w1 os) :=
  Kept.trans h ⟨rfl, rfl, rfl, by simp [Go.Sort.grow], fun k hk => by simp only [Go.Sort.grow]; rw [Array.getElem?_append_left hk]⟩

def itoaB (n : Int) : ByteArray := ⟨(Lib.itoa n).toArray⟩
theorem itoa_any (n : Int) (h0 : -9223372036854775808 ≤ n) (h1 : n ≤ 9223372036854775807) (w : World) (hE : Env w) :
    Calls Tryz.prog 106 #[.int .i64 n] w fun e w' => e = .returned (.string (itoaB n)) ∧ Kept w w' := by
  refine (Tryz.strconv_Itoa n h0 h1 w hE.pow).mono ?_
  rintro e w' ⟨rfl, k, os, rfl⟩
  exact ⟨rfl, ((Kept.refl w).drewN k).grow_ os⟩

theorem write_err (id frm kno num den off : Int) (sort : ByteArray) (hs : sort.size ≤ 9223372036854775807) (h : formB ⟨id, frm, kno, sort, num, den, off⟩ = false) (w : World) :
    Calls Tryz.prog 40 #[.agg #[.int .i64 id, .int .i64 frm, .int .i64 kno, .string sort, .int .i64 num, .int .i64 den, .int .i64 off]] w fun e w' => e = .returned (.tuple #[.string ByteArray.empty, .int .i64 1]) ∧ Kept w w' := by
  have he : errB (formB ⟨id, frm, kno, sort, num, den, off⟩) = 1 := by rw [h]; rfl
  clear h
  go_enter Tryz.func40, Tryz.ntmps40
  go_wp2_with (go_at_call 45; refine (checkEqual_any _ _ _ _ _ _ _ hs _).mono ?_; rintro e w1 ⟨rfl, hk1⟩)
  go_ret2
  exact ⟨rfl, ((Kept.refl _).alloc _).trans hk1⟩

/-- words with blanks between -/
def joinB (l : List ByteArray) : ByteArray := ⟨(Lib.join (l.map (·.data.toList)) [32]).toArray⟩
theorem join_any (bk c : Nat) (xs : List ByteArray) (w : World) (hcells : ∀ (j : Nat) x, xs[j]? = some x → w.cell? ⟨bk, 0 + j, none⟩ = some (.string x)) (hbk : bk < w.heap.size) (hN : xs.length ≤ 100) (hcap : xs.length ≤ c) (hlen : (Lib.join (xs.map (·.data.toList)) [32]).length ≤ 140737488355328) :
    Calls Tryz.prog 105 #[.slice (some ⟨bk, 0, none⟩) xs.length c] w fun e w' => e = .returned (.string (joinB xs)) ∧ Kept w w' := by
  have hJ := Tryz.strings_Join bk 0 c xs ⟨#[32]⟩ w hcells hbk (by omega) hcap (by simpa using hlen)
  have HJ := Lib.hid hJ
  clear hJ hcells hlen
  go_enter Tryz.func105, Tryz.ntmps105
  go_wp2_with fail
  refine HJ.out.mono ?_
  rintro e w1 ⟨rfl, hk1⟩
  go_wp2
  go_ret
  exact ⟨rfl, hk1⟩
end Go.Proofs.YtcjpecdnenemaaaGreatDoor

namespace Go.Proofs.YtcjpecdnenemaaaGreatDoor
set_option linter.unusedVariables false
open Go.RowKit Go.Shelf

theorem SE_of {w w' : World} (x : Eqv) (h : Kept (w.alloc (boxX x)) w') (hE : Env w') : w'.cell? ⟨w.heap.size, 0, none⟩ = some (.int .i64 x.id) ∧ w'.cell? ⟨w.heap.size, 1, none⟩ = some (.int .i64 x.frm) ∧ w'.cell? ⟨w.heap.size, 2, none⟩ = some (.int .i64 x.kno) ∧ w'.cell? ⟨w.heap.size, 3, none⟩ = some (.string x.sort) ∧ w'.cell? ⟨w.heap.size, 4, none⟩ = some (.int .i64 x.num) ∧ w'.cell? ⟨w.heap.size, 5, none⟩ = some (.int .i64 x.den) ∧ w'.cell? ⟨w.heap.size, 6, none⟩ = some (.int .i64 x.off) ∧ Kept (w.alloc (boxX x)) w' ∧ Env w' := by
  obtain ⟨a, b, c, d, e, f, g, _⟩ := S_of x h
  exact ⟨a, b, c, d, e, f, g, h, hE⟩
theorem SE_step {w W w' : World} (x : Eqv) (h : W.cell? ⟨w.heap.size, 0, none⟩ = some (.int .i64 x.id) ∧ W.cell? ⟨w.heap.size, 1, none⟩ = some (.int .i64 x.frm) ∧ W.cell? ⟨w.heap.size, 2, none⟩ = some (.int .i64 x.kno) ∧ W.cell? ⟨w.heap.size, 3, none⟩ = some (.string x.sort) ∧ W.cell? ⟨w.heap.size, 4, none⟩ = some (.int .i64 x.num) ∧ W.cell? ⟨w.heap.size, 5, none⟩ = some (.int .i64 x.den) ∧ W.cell? ⟨w.heap.size, 6, none⟩ = some (.int .i64 x.off) ∧ Kept (w.alloc (boxX x)) W ∧ Env W) (hk : Kept W w') : w'.cell? ⟨w.heap.size, 0, none⟩ = some (.int .i64 x.id) ∧ w'.cell? ⟨w.heap.size, 1, none⟩ = some (.int .i64 x.frm) ∧ w'.cell? ⟨w.heap.size, 2, none⟩ = some (.int .i64 x.kno) ∧ w'.cell? ⟨w.heap.size, 3, none⟩ = some (.string x.sort) ∧ w'.cell? ⟨w.heap.size, 4, none⟩ = some (.int .i64 x.num) ∧ w'.cell? ⟨w.heap.size, 5, none⟩ = some (.int .i64 x.den) ∧ w'.cell? ⟨w.heap.size, 6, none⟩ = some (.int .i64 x.off) ∧ Kept (w.alloc (boxX x)) w' ∧ Env w' :=
  SE_of x (h.2.2.2.2.2.2.2.1.trans hk) (h.2.2.2.2.2.2.2.2.kept hk)
theorem SE_env {w W : World} (x : Eqv) (h : W.cell? ⟨w.heap.size, 0, none⟩ = some (.int .i64 x.id) ∧ W.cell? ⟨w.heap.size, 1, none⟩ = some (.int .i64 x.frm) ∧ W.cell? ⟨w.heap.size, 2, none⟩ = some (.int .i64 x.kno) ∧ W.cell? ⟨w.heap.size, 3, none⟩ = some (.string x.sort) ∧ W.cell? ⟨w.heap.size, 4, none⟩ = some (.int .i64 x.num) ∧ W.cell? ⟨w.heap.size, 5, none⟩ = some (.int .i64 x.den) ∧ W.cell? ⟨w.heap.size, 6, none⟩ = some (.int .i64 x.off) ∧ Kept (w.alloc (boxX x)) W ∧ Env W) : Env W := h.2.2.2.2.2.2.2.2

theorem SE_kept {w W : World} (x : Eqv) (h : W.cell? ⟨w.heap.size, 0, none⟩ = some (.int .i64 x.id) ∧ W.cell? ⟨w.heap.size, 1, none⟩ = some (.int .i64 x.frm) ∧ W.cell? ⟨w.heap.size, 2, none⟩ = some (.int .i64 x.kno) ∧ W.cell? ⟨w.heap.size, 3, none⟩ = some (.string x.sort) ∧ W.cell? ⟨w.heap.size, 4, none⟩ = some (.int .i64 x.num) ∧ W.cell? ⟨w.heap.size, 5, none⟩ = some (.int .i64 x.den) ∧ W.cell? ⟨w.heap.size, 6, none⟩ = some (.int .i64 x.off) ∧ Kept (w.alloc (boxX x)) W ∧ Env W) : Kept w W := ((Kept.refl w).alloc (boxX x)).trans h.2.2.2.2.2.2.2.1
theorem join_new (W : World) (l : List ByteArray) (hN : l.length ≤ 100) (hlen : (Lib.join (l.map (·.data.toList)) [32]).length ≤ 140737488355328) :
    Calls Tryz.prog 105 #[.slice (some ⟨W.heap.size, 0, none⟩) l.length l.length] (W.alloc (.cells (l.map Value.string).toArray 9)) fun e w' => e = .returned (.string (joinB l)) ∧ Kept (W.alloc (.cells (l.map Value.string).toArray 9)) w' := by
  refine join_any W.heap.size l.length l _ (fun j x hx => ?_) (by simp) hN (Nat.le_refl _) hlen
  rw [Nat.zero_add, cell_of_row _ _ _ _ _ _ (heap_alloc_new W _)]
  simp [hx]
theorem itoaB_len (n : Int) (h0 : -9223372036854775808 ≤ n) (h1 : n ≤ 9223372036854775807) : (itoaB n).data.toList.length ≤ 21 := by
  have := Lib.itoa_length_le n h0 h1
  simpa [itoaB] using this

def voidB_ : ByteArray := ⟨#[118, 111, 105, 100]⟩
def equalB_ : ByteArray := ⟨#[101, 113, 117, 97, 108]⟩
set_option maxHeartbeats 3200000 in
set_option maxRecDepth 100000 in
theorem write_void (x : Eqv) (hs : x.sort.size ≤ 9223372036854775807) (h : formB x = true) (ho : 0 < x.off) (w : World) (hE : Env w) :
    Calls Tryz.prog 40 #[eqV x] w fun e w' => e = .returned (.tuple #[.string (joinB [itoaB x.id, itoaB x.kno, voidB_, itoaB x.off]), .int .i64 0]) ∧ Kept w w' := by
  have he : errB (formB ⟨x.id, x.frm, x.kno, x.sort, x.num, x.den, x.off⟩) = 0 := by rw [show (⟨x.id, x.frm, x.kno, x.sort, x.num, x.den, x.off⟩ : Eqv) = x from rfl, h]; rfl
  have hi : (1 ≤ x.id ∧ x.id ≤ 1000000) ∧ (0 ≤ x.kno ∧ x.kno ≤ 100000) := by
    unfold formB at h
    simp only [Bool.and_eq_true] at h
    exact ⟨inB_iff.1 h.1.1, inB_iff.1 h.1.2⟩
  have hof : x.off ≤ 1000000 := by
    unfold formB at h
    simp only [Bool.and_eq_true, Bool.or_eq_true] at h
    rcases h.2 with h2 | h2
    · unfold equivB at h2; simp at h2; omega
    · unfold voidB at h2; simp only [Bool.and_eq_true] at h2; exact (inB_iff.1 h2.1.1.1.1).2
  obtain ⟨⟨i1, i2⟩, k1, k2⟩ := hi
  clear h
  have hlen : (Lib.join ([itoaB x.id, itoaB x.kno, voidB_, itoaB x.off].map (·.data.toList)) [32]).length ≤ 140737488355328 := by
    have l1 := itoaB_len x.id (by omega) (by omega)
    have l2 := itoaB_len x.kno (by omega) (by omega)
    have l3 := itoaB_len x.off (by omega) (by omega)
    have l4 : voidB_.data.toList.length = 4 := rfl
    simp only [Lib.join, List.map_cons, List.map_nil, List.intercalate_cons_cons, List.intercalate_singleton, List.length_append, List.length_cons, List.length_nil]
    omega
  have HL := Lib.hid hlen
  clear hlen
  unfold eqV
  go_enter Tryz.func40, Tryz.ntmps40
  go_wp2_with fail
  refine (checkEqual_any _ _ _ _ _ _ _ hs _).mono ?_
  rintro e w1 ⟨rfl, hk1⟩
  obtain ⟨hc1, hf1, hz1⟩ := hk1.facts
  have HE1 := Lib.hid ((hE.kept ((Kept.refl w).alloc (boxX x))).kept hk1)
  go_wp2_with fail
  clear hc1 hf1 hz1
  go_region_held3 (fun w' => w'.cell? ⟨w.heap.size, 0, none⟩ = some (.int .i64 x.id) ∧ w'.cell? ⟨w.heap.size, 1, none⟩ = some (.int .i64 x.frm) ∧ w'.cell? ⟨w.heap.size, 2, none⟩ = some (.int .i64 x.kno) ∧ w'.cell? ⟨w.heap.size, 3, none⟩ = some (.string x.sort) ∧ w'.cell? ⟨w.heap.size, 4, none⟩ = some (.int .i64 x.num) ∧ w'.cell? ⟨w.heap.size, 5, none⟩ = some (.int .i64 x.den) ∧ w'.cell? ⟨w.heap.size, 6, none⟩ = some (.int .i64 x.off) ∧ Kept (w.alloc (boxX x)) w' ∧ Env w')
    (first
      | exact SE_of x hk1.drew (HE1.out.kept ((Kept.refl w1).drew))
      | exact SE_step x (by assumption) hkk
      | exact SE_step x (by assumption) ((Kept.refl _).alloc _)
      | exact SE_step x (SE_step x (by assumption) ((Kept.refl _).alloc _)) hkk
      | fail)
    (first
      | (go_at_call 106; refine (itoa_any _ (by omega) (by omega) _ (SE_env x (by assumption))).mono ?_; rintro e w2 ⟨rfl, hkk⟩)
      | (go_at_call 105; refine (join_new _ [itoaB x.id, itoaB x.kno, voidB_, itoaB x.off] (by simp) HL.out).mono ?_; rintro e w2 ⟨rfl, hkk⟩)
      | fail)
  go_wp2
  go_ret2
  exact ⟨rfl, SE_kept x (by assumption)⟩
set_option maxHeartbeats 3200000 in
set_option maxRecDepth 100000 in
theorem write_equal (x : Eqv) (hs : x.sort.size ≤ 9223372036854775807) (h : formB x = true) (ho : ¬ (0 < x.off)) (w : World) (hE : Env w) :
    Calls Tryz.prog 40 #[eqV x] w fun e w' => e = .returned (.tuple #[.string (joinB [itoaB x.id, itoaB x.kno, equalB_, x.sort, itoaB x.frm, itoaB x.num, itoaB x.den]), .int .i64 0]) ∧ Kept w w' := by
  have he : errB (formB ⟨x.id, x.frm, x.kno, x.sort, x.num, x.den, x.off⟩) = 0 := by rw [show (⟨x.id, x.frm, x.kno, x.sort, x.num, x.den, x.off⟩ : Eqv) = x from rfl, h]; rfl
  have hi : (1 ≤ x.id ∧ x.id ≤ 1000000) ∧ (0 ≤ x.kno ∧ x.kno ≤ 100000) := by
    unfold formB at h
    simp only [Bool.and_eq_true] at h
    exact ⟨inB_iff.1 h.1.1, inB_iff.1 h.1.2⟩
  have hoth : x.sort.data.toList.length ≤ 24 ∧ (0 ≤ x.frm ∧ x.frm ≤ 100000) ∧ Bd x.num x.den := by
    unfold formB at h
    simp only [Bool.and_eq_true, Bool.or_eq_true] at h
    rcases h.2 with h2 | h2
    · unfold equivB at h2
      simp only [Bool.and_eq_true] at h2
      have hn := h2.1.1.1.1.2
      unfold nameB at hn
      simp only [Bool.and_eq_true] at hn
      have hz := inB_iff.1 hn.1.1
      refine ⟨?_, inB_iff.1 h2.1.1.1.2, vld_bd h2.1.1.2⟩
      have : x.sort.data.toList.length = x.sort.size := by simp
      omega
    · unfold voidB at h2
      simp only [Bool.and_eq_true] at h2
      have := inB_iff.1 h2.1.1.1.1
      omega
  obtain ⟨s24, ⟨f1, f2⟩, ⟨d1, d2⟩, n1, n2⟩ := hoth
  obtain ⟨⟨i1, i2⟩, k1, k2⟩ := hi
  clear h
  have hlen : (Lib.join ([itoaB x.id, itoaB x.kno, equalB_, x.sort, itoaB x.frm, itoaB x.num, itoaB x.den].map (·.data.toList)) [32]).length ≤ 140737488355328 := by
    have l1 := itoaB_len x.id (by omega) (by omega)
    have l2 := itoaB_len x.kno (by omega) (by omega)
    have l3 := itoaB_len x.frm (by omega) (by omega)
    have l4 : equalB_.data.toList.length = 5 := rfl
    have l5 := itoaB_len x.num (by omega) (by omega)
    have l6 := itoaB_len x.den (by omega) (by omega)
    simp only [Lib.join, List.map_cons, List.map_nil, List.intercalate_cons_cons, List.intercalate_singleton, List.length_append, List.length_cons, List.length_nil]
    omega
  have HL := Lib.hid hlen
  clear hlen
  unfold eqV
  go_enter Tryz.func40, Tryz.ntmps40
  go_wp2_with fail
  refine (checkEqual_any _ _ _ _ _ _ _ hs _).mono ?_
  rintro e w1 ⟨rfl, hk1⟩
  obtain ⟨hc1, hf1, hz1⟩ := hk1.facts
  have HE1 := Lib.hid ((hE.kept ((Kept.refl w).alloc (boxX x))).kept hk1)
  go_wp2_with fail
  clear hc1 hf1 hz1
  go_region_held3 (fun w' => w'.cell? ⟨w.heap.size, 0, none⟩ = some (.int .i64 x.id) ∧ w'.cell? ⟨w.heap.size, 1, none⟩ = some (.int .i64 x.frm) ∧ w'.cell? ⟨w.heap.size, 2, none⟩ = some (.int .i64 x.kno) ∧ w'.cell? ⟨w.heap.size, 3, none⟩ = some (.string x.sort) ∧ w'.cell? ⟨w.heap.size, 4, none⟩ = some (.int .i64 x.num) ∧ w'.cell? ⟨w.heap.size, 5, none⟩ = some (.int .i64 x.den) ∧ w'.cell? ⟨w.heap.size, 6, none⟩ = some (.int .i64 x.off) ∧ Kept (w.alloc (boxX x)) w' ∧ Env w')
    (first
      | exact SE_of x hk1.drew (HE1.out.kept ((Kept.refl w1).drew))
      | exact SE_step x (by assumption) hkk
      | exact SE_step x (by assumption) ((Kept.refl _).alloc _)
      | exact SE_step x (SE_step x (by assumption) ((Kept.refl _).alloc _)) hkk
      | fail)
    (first
      | (go_at_call 106; refine (itoa_any _ (by omega) (by omega) _ (SE_env x (by assumption))).mono ?_; rintro e w2 ⟨rfl, hkk⟩)
      | (go_at_call 105; refine (join_new _ [itoaB x.id, itoaB x.kno, equalB_, x.sort, itoaB x.frm, itoaB x.num, itoaB x.den] (by simp) HL.out).mono ?_; rintro e w2 ⟨rfl, hkk⟩)
      | fail)
  go_wp2
  go_ret2
  exact ⟨rfl, SE_kept x (by assumption)⟩
/-- the line of a record -/
def lineS (x : Eqv) : ByteArray := if 0 < x.off then joinB [itoaB x.id, itoaB x.kno, voidB_, itoaB x.off] else joinB [itoaB x.id, itoaB x.kno, equalB_, x.sort, itoaB x.frm, itoaB x.num, itoaB x.den]
theorem write_any (x : Eqv) (hs : x.sort.size ≤ 9223372036854775807) (w : World) (hE : Env w) :
    Calls Tryz.prog 40 #[eqV x] w fun e w' => e = .returned (.tuple #[.string (if formB x = true then lineS x else ByteArray.empty), .int .i64 (errB (formB x))]) ∧ Kept w w' := by
  by_cases h : formB x = true
  · have e1 : errB (formB x) = 0 := by rw [h]; rfl
    rw [if_pos h, e1]
    by_cases ho : 0 < x.off
    · rw [lineS, if_pos ho]
      exact write_void x hs h ho w hE
    · rw [lineS, if_neg ho]
      exact write_equal x hs h ho w hE
  · have h' : formB x = false := by simpa using h
    have e1 : errB (formB x) = 1 := by rw [h']; rfl
    rw [if_neg h, e1]
    exact write_err x.id x.frm x.kno x.num x.den x.off x.sort hs h' w
end Go.Proofs.YtcjpecdnenemaaaGreatDoor

namespace Go.Proofs.YtcjpecdnenemaaaGreatDoor
set_option linter.unusedVariables false
open Go.RowKit Go.Shelf

/-- the number that strconv.Atoi gives, whatever its error -/
def atoiV (s : List UInt8) : Int := match Lib.atoiAll s with | .ok v => v | .range => Lib.atoiSat s | _ => 0
def AtoiRes (s : ByteArray) (w : World) (e : Ending) (w' : World) : Prop := ∃ v, e = .returned (.tuple #[.int .i64 (atoiV s.data.toList), v]) ∧ Kept w w'
theorem atoi_any (s : ByteArray) (hs : s.size ≤ 1000000) (w : World) (hE : Env w) : Calls Tryz.prog 157 #[.string s] w (AtoiRes s w) := by
  rcases h : Lib.atoiAll s.data.toList with v | _ | _
  · refine (Tryz.strconv_Atoi_ok s (by omega) v h w).mono ?_
    rintro e w' ⟨rfl, hw⟩
    refine ⟨_, by rw [show atoiV s.data.toList = v by unfold atoiV; rw [h]], ?_⟩
    rcases hw with rfl | ⟨t, rfl⟩
    · exact Kept.refl _
    · exact Lib.bytesWorld_below w 5 t
  · obtain ⟨tp, p, hv⟩ := hE.syn
    refine (Any.strconv_Atoi_syntax_var Tryz.laysC172 s (by omega) h tp p w hv).mono ?_
    rintro e w' ⟨N, rfl, _, _, hb⟩
    exact ⟨_, by rw [show atoiV s.data.toList = 0 by unfold atoiV; rw [h]], hb⟩
  · obtain ⟨tp, p, hv⟩ := hE.rng
    refine (Tryz.strconv_Atoi_range_var s (by omega) h tp p w hv).mono ?_
    rintro e w' ⟨N, rfl, _, _, hb⟩
    exact ⟨_, by rw [show atoiV s.data.toList = Lib.atoiSat s.data.toList by unfold atoiV; rw [h]], hb⟩

theorem at_any (b bk c i : Nat) (ss : List ByteArray) (s : ByteArray) (hs : s.size ≤ 1000000) (hi : ss[i]? = some s) (hn : ss.length ≤ 1000000) (w : World) (hE : Env w)
    (hw : w.cell? ⟨b, 0, none⟩ = some (.slice (some ⟨bk, 0, none⟩) ss.length c)) (hc : w.cell? ⟨bk, i, none⟩ = some (.string s)) :
    Calls Tryz.prog 156 #[.int .i64 i, .pointer (some ⟨b, 0, none⟩)] w fun e w' => e = .returned (.int .i64 (atoiV s.data.toList)) ∧ Kept w w' := by
  have hil : i < ss.length := (List.getElem?_eq_some_iff.1 hi).1
  have Hi := Lib.hid hi
  clear hi
  go_enter Tryz.func156, Tryz.ntmps156
  go_wp2_with fail
  refine (atoi_any s hs _ hE).mono ?_
  rintro e w1 ⟨v, rfl, hk1⟩
  go_wp2
  go_ret
  exact ⟨rfl, hk1⟩
end Go.Proofs.YtcjpecdnenemaaaGreatDoor

namespace Go.Proofs.YtcjpecdnenemaaaGreatDoor
set_option linter.unusedVariables false
open Go.RowKit Go.Shelf

theorem e156 : ∀ args w, (callFunc 156 args).run Tryz.prog w = .ok (.enter 156 args) w := enters_of Tryz.func156 (by kernel_rfl) rfl

/-- words in memory -/
def Wds (w : World) (bk : Nat) (ss : List ByteArray) : Prop := ∀ i s, ss[i]? = some s → w.cell? ⟨bk, i, none⟩ = some (.string s)
theorem Wds.kept {w w' : World} {bk : Nat} {ss : List ByteArray} (h : Wds w bk ss) (hk : Kept w w') : Wds w' bk ss := fun i s hs => (hk.cells _ _ (cell_lt (h i s hs))).trans (h i s hs)

set_option maxRecDepth 100000 in
set_option maxHeartbeats 1600000 in
theorem parse_four (bk c : Nat) (s0 s1 s2 s3 : ByteArray) (h0 : s0.size ≤ 1000000) (h1 : s1.size ≤ 1000000) (h3 : s3.size ≤ 1000000) (w : World) (hE : Env w) (hW : Wds w bk [s0, s1, s2, s3]) :
    Calls Tryz.prog 109 #[.slice (some ⟨bk, 0, none⟩) 4 c] w fun e w' => e = .returned (eqV ⟨atoiV s0.data.toList, 0, atoiV s1.data.toList, ⟨#[]⟩, 0, 0, atoiV s3.data.toList⟩) ∧ Kept w w' := by
  have hmf : ∀ (fn : Fn) (first cap : Array Value) (w : World), (Instr.makeFunc fn first cap).run Tryz.prog w = .ok (.func fn first cap) w := fun _ _ _ _ => rfl
  have g156 := e156
  have HW := Lib.hid hW
  have HE := Lib.hid hE
  clear hW
  obtain ⟨W0, hW0⟩ : ∃ W0 : World, W0 = (w.alloc (.cells #[.slice (some ⟨bk, 0, none⟩) 4 c] 52)).alloc (.cells #[.int .i64 0, .int .i64 0, .int .i64 0, .string ⟨#[]⟩, .int .i64 0, .int .i64 0, .int .i64 0] 37) := ⟨_, rfl⟩
  have K0 : Kept w W0 := by rw [hW0]; exact ((Kept.refl w).alloc _).alloc _
  have B0 : W0.cell? ⟨w.heap.size, 0, none⟩ = some (.slice (some ⟨bk, 0, none⟩) 4 c) := by rw [hW0]; simp [go_sem]
  have R0 : ∀ j v, j < 7 → [Value.int .i64 0, .int .i64 0, .int .i64 0, .string ⟨#[]⟩, .int .i64 0, .int .i64 0, .int .i64 0][j]? = some v → W0.cell? ⟨w.heap.size + 1, j, none⟩ = some v := by
    intro j v hj hv
    rw [hW0, show w.heap.size + 1 = (w.alloc (.cells #[.slice (some ⟨bk, 0, none⟩) 4 c] 52)).heap.size by simp, cell_of_row _ _ _ _ _ _ (heap_alloc_new _ _)]
    simpa using hv
  have Z0 : w.heap.size + 1 < W0.heap.size := by rw [hW0]; simp
  have F0 : ∀ j, W0.frozen? ⟨w.heap.size + 1, j, none⟩ = false := by intro j; rw [hW0]; simp [go_sem]
  have HF0 := Lib.hid F0
  clear F0
  have HB0 := Lib.hid B0
  have HR0 := Lib.hid R0
  clear R0 B0
  go_enter Tryz.func109, Tryz.ntmps109
  go_wp2_with fail
  have HW0 := Lib.hid hW0
  clear hW0
  rw [← HW0.out]
  refine (at_any w.heap.size bk c 0 [s0, s1, s2, s3] s0 h0 rfl (by simp) _ (HE.out.kept K0) ?_ ?_).mono ?_
  · exact HB0.out
  · exact HW.out.kept K0 0 s0 rfl
  rintro e w1 ⟨rfl, hk1⟩
  have hq1 : Kept W0 w1 := hk1
  have KK1 : Kept w w1 := K0.trans hq1
  go_wp2_with fail
  refine (at_any w.heap.size bk c 1 [s0, s1, s2, s3] s1 h1 rfl (by simp) _ (HE.out.kept KK1) ?_ ?_).mono ?_
  · exact (hq1.cells _ _ (by omega)).trans HB0.out
  · exact HW.out.kept KK1 1 s1 rfl
  rintro e w2 ⟨rfl, hk2⟩
  have hq2 : Kept W0 w2 := hq1.trans hk2
  have KK2 : Kept w w2 := K0.trans hq2
  go_wp2_with fail
  refine (at_any w.heap.size bk c 3 [s0, s1, s2, s3] s3 h3 rfl (by simp) _ (HE.out.kept KK2) ?_ ?_).mono ?_
  · exact (hq2.cells _ _ (by omega)).trans HB0.out
  · exact HW.out.kept KK2 3 s3 rfl
  rintro e w3 ⟨rfl, hk3⟩
  have hq3 : Kept W0 w3 := hq2.trans hk3
  have KK3 : Kept w w3 := K0.trans hq3
  have r : ∀ j v, j < 7 → [Value.int .i64 0, .int .i64 0, .int .i64 0, .string ⟨#[]⟩, .int .i64 0, .int .i64 0, .int .i64 0][j]? = some v → w3.cell? ⟨w.heap.size + 1, j, none⟩ = some v := fun j v hj hv => (hq3.cells _ _ Z0).trans (HR0.out j v hj hv)
  have r0 : w3.cell? ⟨w.heap.size + 1, 0, none⟩ = some (.int .i64 0) := r 0 _ (by omega) rfl
  have r1 : w3.cell? ⟨w.heap.size + 1, 1, none⟩ = some (.int .i64 0) := r 1 _ (by omega) rfl
  have r2 : w3.cell? ⟨w.heap.size + 1, 2, none⟩ = some (.int .i64 0) := r 2 _ (by omega) rfl
  have r3 : w3.cell? ⟨w.heap.size + 1, 3, none⟩ = some (.string ⟨#[]⟩) := r 3 _ (by omega) rfl
  have r4 : w3.cell? ⟨w.heap.size + 1, 4, none⟩ = some (.int .i64 0) := r 4 _ (by omega) rfl
  have r5 : w3.cell? ⟨w.heap.size + 1, 5, none⟩ = some (.int .i64 0) := r 5 _ (by omega) rfl
  have r6 : w3.cell? ⟨w.heap.size + 1, 6, none⟩ = some (.int .i64 0) := r 6 _ (by omega) rfl
  have f0 : w3.frozen? ⟨w.heap.size + 1, 0, none⟩ = false := (hq3.frozens _ _ Z0).trans (HF0.out 0)
  have f1 : w3.frozen? ⟨w.heap.size + 1, 1, none⟩ = false := (hq3.frozens _ _ Z0).trans (HF0.out 1)
  have f2 : w3.frozen? ⟨w.heap.size + 1, 2, none⟩ = false := (hq3.frozens _ _ Z0).trans (HF0.out 2)
  have f3 : w3.frozen? ⟨w.heap.size + 1, 3, none⟩ = false := (hq3.frozens _ _ Z0).trans (HF0.out 3)
  have f4 : w3.frozen? ⟨w.heap.size + 1, 4, none⟩ = false := (hq3.frozens _ _ Z0).trans (HF0.out 4)
  have f5 : w3.frozen? ⟨w.heap.size + 1, 5, none⟩ = false := (hq3.frozens _ _ Z0).trans (HF0.out 5)
  have f6 : w3.frozen? ⟨w.heap.size + 1, 6, none⟩ = false := (hq3.frozens _ _ Z0).trans (HF0.out 6)
  clear r
  go_wp2
  refine bodyPost_ret (v := .agg #[.int .i64 (atoiV s0.data.toList), .int .i64 0, .int .i64 (atoiV s1.data.toList), .string ⟨#[]⟩, .int .i64 0, .int .i64 0, .int .i64 (atoiV s3.data.toList)]) (by simp [results, Tryz.results109, go_sem, r0, r1, r2, r3, r4, r5, r6]) rfl ⟨rfl, ?_⟩
  exact (((((((KK3.setCell (by simp) _).setCell (by simp) _).setCell (by simp) _).setCell (by simp) _).setCell (by simp) _).setCell (by simp) _).setCell (by simp) _)
end Go.Proofs.YtcjpecdnenemaaaGreatDoor

namespace Go.Proofs.YtcjpecdnenemaaaGreatDoor
set_option linter.unusedVariables false
open Go.RowKit Go.Shelf
theorem parse_other (A : Option Addr) (n c : Nat) (h4 : ((n : Int) == 4) = false) (h7 : ((n : Int) == 7) = false) (w : World) :
    Calls Tryz.prog 109 #[.slice A n c] w fun e w' => e = .returned (eqV ⟨0, 0, 0, ⟨#[]⟩, 0, 0, 0⟩) ∧ Kept w w' := by
  have hmf : ∀ (fn : Fn) (first cap : Array Value) (w : World), (Instr.makeFunc fn first cap).run Tryz.prog w = .ok (.func fn first cap) w := fun _ _ _ _ => rfl
  go_enter Tryz.func109, Tryz.ntmps109
  go_wp2_with fail
  refine bodyPost_ret (v := .agg #[.int .i64 0, .int .i64 0, .int .i64 0, .string ⟨#[]⟩, .int .i64 0, .int .i64 0, .int .i64 0]) (by simp [results, Tryz.results109, go_sem]) rfl ⟨rfl, ?_⟩
  repeat (first | exact Kept.refl _ | refine Kept.alloc ?_ _ | refine Kept.setCell ?_ (by first | (simp; done) | (simp; omega)) _)
end Go.Proofs.YtcjpecdnenemaaaGreatDoor
