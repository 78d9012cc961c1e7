/-
  mark: CheckSmits
  mark: what signs may be seen as: looksOf
  mark: looksOf
  DERIVED: THE SHELF's CONTRACTS AT THIS DUMP, IN PLAIN WORDS (tools/lay-plain.mjs out of 'MkShelf.lean', which tools/lay-shelf.mjs wrote): THE SAME DECLARATIONS UNDER THE SAME NAMES: 'import', 'namespace', 'open', 'def', 'theorem' AND NOTHING ELSE: no command of the shelf's: FOR A HAND-IN. Each laying: the table of numbers ('.._ren') and one theorem, a field a fact of the dump's own or the kernel's comparison; each contract: ONE APPLICATION.
  mark: the sort of marks by their owners
  mark: inForce
  mark: whether a sight fits signs
-/
import Derived.Test.YtologmoanaccpaaGreatDoorBB
import Derived.Test.YtologmoanaccpaaGreatDoorProg
import Derived.Laws.Tables
import Derived.Shelf.SlSortCmp.WholeK
import Derived.Ground.SlsfProg
import Derived.Sort.Grow
import Derived.Shelf.SlSortCmp.NoneTotal
namespace Go.Proofs.YtologmoanaccpaaGreatDoor
set_option linter.all false
open Go Go.RowKit

def smE (ms : List Mk) (fs : List Fd) : Int := if 100 < ms.length ∨ 20 < fs.length then 2 else if (ms.all markB && fs.all fadeB) = true then (if (repB fs || clashB ms) = true then 6 else 0) else 1
/-- smits in memory -/
def SmA (w : World) (A : Option Addr) (n c : Nat) (ms : List Mk) (B : Option Addr) (m d : Nat) (fs : List Fd) : Prop := SlA mkC 9 Mk.ok w A n c ms ∧ SlA fdC 2 Fd.ok w B m d fs
theorem SmA.kept {w w' : World} {A B : Option Addr} {n c m d : Nat} {ms : List Mk} {fs : List Fd} (h : SmA w A n c ms B m d fs) (hk : Kept w w') : SmA w' A n c ms B m d fs := ⟨h.1.kept hk, h.2.kept hk⟩
set_option maxRecDepth 100000 in
set_option maxHeartbeats 6400000 in
theorem checkSmits_any (A B : Option Addr) (n c m d : Nat) (ms : List Mk) (fs : List Fd) (w : World) (hs : SmA w A n c ms B m d fs) :
    Calls Tryz.prog 25 #[.agg #[.slice A n c, .slice B m d]] w fun e w' => e = .returned (.int .i64 (smE ms fs)) ∧ Kept w w' := by
  obtain ⟨W0, hW0⟩ : ∃ W0, W0 = w.alloc (.cells #[.slice A n c, .slice B m d] 25) := ⟨_, rfl⟩
  have K0 : RowKit.Hid (Kept w W0) := Lib.hid (by rw [hW0]; exact (Kept.refl _).alloc _)
  have R0 : RowKit.Hid (RowC W0 w.heap.size [.slice A n c, .slice B m d]) := Lib.hid (by rw [hW0]; exact RowC.new w [.slice A n c, .slice B m d] 25)
  have HW := Lib.hid hW0
  have HS := Lib.hid (hs.kept K0.out)
  have hl1 := Lib.hid hs.1.1
  have hl2 := Lib.hid hs.2.1
  have hnc := hs.1.2.1
  have hcm := hs.1.2.2.1
  have hmd := hs.2.2.1
  have hdm := hs.2.2.2.1
  obtain ⟨b1, hb1⟩ : ∃ b, ms.all markB = b := ⟨_, rfl⟩
  obtain ⟨b2, hb2⟩ : ∃ b, fs.all fadeB = b := ⟨_, rfl⟩
  obtain ⟨b3, hb3⟩ : ∃ b, repB fs = b := ⟨_, rfl⟩
  obtain ⟨b4, hb4⟩ : ∃ b, clashB ms = b := ⟨_, rfl⟩
  have HB : RowKit.Hid (smE ms fs = if 100 < n ∨ 20 < m then 2 else if (b1 && b2) = true then (if (b3 || b4) = true then 6 else 0) else 1) := Lib.hid (by unfold smE; rw [hl1.out, hl2.out, hb1, hb2, hb3, hb4])
  have H1 : RowKit.Hid (∀ W, Kept W0 W → Calls Tryz.prog 81 #[.slice A n c, .func (.func 82) #[] #[]] W fun e w' => e = .returned (.bool b1) ∧ Kept W w') := Lib.hid (fun W hW => by rw [← hb1]; exact every_mk 82 #[] markB e82 A n c ms W (HS.out.1.kept hW) (pred82 W))
  have H2 : RowKit.Hid (∀ W, Kept W0 W → Calls Tryz.prog 83 #[.slice B m d, .func (.func 84) #[] #[]] W fun e w' => e = .returned (.bool b2) ∧ Kept W w') := Lib.hid (fun W hW => by rw [← hb2]; exact every_fd 84 #[] fadeB e84 B m d fs W (HS.out.2.kept hW) (pred84 W))
  have H3 : RowKit.Hid (∀ W, Kept W0 W → Calls Tryz.prog 85 #[.slice B m d] W fun e w' => e = .returned (.bool b3) ∧ Kept W w') := Lib.hid (fun W hW => by rw [← hb3]; exact repeats_fd B m d fs W (HS.out.2.kept hW))
  have H4 : RowKit.Hid (n ≤ 1000 → ∀ W, Kept W0 W → Calls Tryz.prog 86 #[.slice A n c] W fun e w' => e = .returned (.bool b4) ∧ Kept W w') := Lib.hid (fun hn W hW => by rw [← hb4]; exact clashing_any A n c ms W hn (HS.out.1.kept hW))
  clear hb1 hb2 hb3 hb4 hW0 hs
  by_cases h1 : 100 < n
  · have g1 : (100 : Int) < (n : Int) := by omega
    have a0 := (R0.out 0 _ rfl).1
    have a1 := (R0.out 1 _ rfl).1
    have la := cell_lt a0
    go_enter Tryz.func25, Tryz.ntmps25
    go_upto_region 1 with (fail)
    rw [← HW.out]
    go_wp2
    go_ret
    exact ⟨ret_int (by rw [HB.out]; rw [if_pos (.inl h1)]), K0.out⟩
  have g1 : ¬ (100 : Int) < (n : Int) := by omega
  by_cases h2 : 20 < m
  · have g2 : (20 : Int) < (m : Int) := by omega
    have a0 := (R0.out 0 _ rfl).1
    have a1 := (R0.out 1 _ rfl).1
    have la := cell_lt a0
    go_enter Tryz.func25, Tryz.ntmps25
    go_upto_region 1 with (fail)
    rw [← HW.out]
    go_wp2
    go_ret
    exact ⟨ret_int (by rw [HB.out]; rw [if_pos (.inr h2)]), K0.out⟩
  have g2 : ¬ (20 : Int) < (m : Int) := by omega
  have HN : RowKit.Hid (¬ (100 < n ∨ 20 < m)) := Lib.hid (by omega)
  have H5 := Lib.hid (H4.out (by omega))
  clear H4 h1 h2
  cases b1
  · have a0 := (R0.out 0 _ rfl).1
    have a1 := (R0.out 1 _ rfl).1
    have la := cell_lt a0
    go_enter Tryz.func25, Tryz.ntmps25
    go_upto_region 1 with (fail)
    rw [← HW.out]
    go_wp2_with fail
    refine (H1.out _ (Kept.refl _)).mono ?_
    rintro e w1 ⟨rfl, hk1⟩
    have K1 := Lib.hid ((Kept.refl W0).trans hk1)
    clear a0 a1 la hk1
    have a0 := (R0.out.kept K1.out 0 _ rfl).1
    have a1 := (R0.out.kept K1.out 1 _ rfl).1
    have la := cell_lt a0
    go_wp2
    go_ret
    exact ⟨ret_int (by rw [HB.out]; rw [if_neg HN.out]; rfl), K0.out.trans K1.out⟩
  cases b2
  · have a0 := (R0.out 0 _ rfl).1
    have a1 := (R0.out 1 _ rfl).1
    have la := cell_lt a0
    go_enter Tryz.func25, Tryz.ntmps25
    go_upto_region 1 with (fail)
    rw [← HW.out]
    go_wp2_with fail
    refine (H1.out _ (Kept.refl _)).mono ?_
    rintro e w1 ⟨rfl, hk1⟩
    have K1 := Lib.hid ((Kept.refl W0).trans hk1)
    clear a0 a1 la hk1
    have a0 := (R0.out.kept K1.out 0 _ rfl).1
    have a1 := (R0.out.kept K1.out 1 _ rfl).1
    have la := cell_lt a0
    go_wp2_with fail
    refine (H2.out _ K1.out).mono ?_
    rintro e w2 ⟨rfl, hk2⟩
    have K2 := Lib.hid (K1.out.trans hk2)
    clear a0 a1 la hk2
    have a0 := (R0.out.kept K2.out 0 _ rfl).1
    have a1 := (R0.out.kept K2.out 1 _ rfl).1
    have la := cell_lt a0
    go_wp2
    go_ret
    exact ⟨ret_int (by rw [HB.out]; rw [if_neg HN.out]; rfl), K0.out.trans K2.out⟩
  cases b3
  · cases b4
    all_goals
      have a0 := (R0.out 0 _ rfl).1
      have a1 := (R0.out 1 _ rfl).1
      have la := cell_lt a0
      go_enter Tryz.func25, Tryz.ntmps25
      go_upto_region 1 with (fail)
      rw [← HW.out]
      go_wp2_with fail
      refine (H1.out _ (Kept.refl _)).mono ?_
      rintro e w1 ⟨rfl, hk1⟩
      have K1 := Lib.hid ((Kept.refl W0).trans hk1)
      clear a0 a1 la hk1
      have a0 := (R0.out.kept K1.out 0 _ rfl).1
      have a1 := (R0.out.kept K1.out 1 _ rfl).1
      have la := cell_lt a0
      go_wp2_with fail
      refine (H2.out _ K1.out).mono ?_
      rintro e w2 ⟨rfl, hk2⟩
      have K2 := Lib.hid (K1.out.trans hk2)
      clear a0 a1 la hk2
      have a0 := (R0.out.kept K2.out 0 _ rfl).1
      have a1 := (R0.out.kept K2.out 1 _ rfl).1
      have la := cell_lt a0
      go_wp2_with fail
      refine (H3.out _ K2.out).mono ?_
      rintro e w3 ⟨rfl, hk3⟩
      have K3 := Lib.hid (K2.out.trans hk3)
      clear a0 a1 la hk3
      have a0 := (R0.out.kept K3.out 0 _ rfl).1
      have a1 := (R0.out.kept K3.out 1 _ rfl).1
      have la := cell_lt a0
      go_wp2_with fail
      refine (H5.out _ K3.out).mono ?_
      rintro e w4 ⟨rfl, hk4⟩
      have K4 := Lib.hid (K3.out.trans hk4)
      clear a0 a1 la hk4
      have a0 := (R0.out.kept K4.out 0 _ rfl).1
      have a1 := (R0.out.kept K4.out 1 _ rfl).1
      have la := cell_lt a0
      go_wp2
      go_ret
      exact ⟨ret_int (by rw [HB.out]; rw [if_neg HN.out]; rfl), K0.out.trans K4.out⟩
  · have a0 := (R0.out 0 _ rfl).1
    have a1 := (R0.out 1 _ rfl).1
    have la := cell_lt a0
    go_enter Tryz.func25, Tryz.ntmps25
    go_upto_region 1 with (fail)
    rw [← HW.out]
    go_wp2_with fail
    refine (H1.out _ (Kept.refl _)).mono ?_
    rintro e w1 ⟨rfl, hk1⟩
    have K1 := Lib.hid ((Kept.refl W0).trans hk1)
    clear a0 a1 la hk1
    have a0 := (R0.out.kept K1.out 0 _ rfl).1
    have a1 := (R0.out.kept K1.out 1 _ rfl).1
    have la := cell_lt a0
    go_wp2_with fail
    refine (H2.out _ K1.out).mono ?_
    rintro e w2 ⟨rfl, hk2⟩
    have K2 := Lib.hid (K1.out.trans hk2)
    clear a0 a1 la hk2
    have a0 := (R0.out.kept K2.out 0 _ rfl).1
    have a1 := (R0.out.kept K2.out 1 _ rfl).1
    have la := cell_lt a0
    go_wp2_with fail
    refine (H3.out _ K2.out).mono ?_
    rintro e w3 ⟨rfl, hk3⟩
    have K3 := Lib.hid (K2.out.trans hk3)
    clear a0 a1 la hk3
    have a0 := (R0.out.kept K3.out 0 _ rfl).1
    have a1 := (R0.out.kept K3.out 1 _ rfl).1
    have la := cell_lt a0
    go_wp2
    go_ret
    exact ⟨ret_int (by rw [HB.out]; rw [if_neg HN.out]; rfl), K0.out.trans K3.out⟩
end Go.Proofs.YtologmoanaccpaaGreatDoor

namespace Go.Proofs.YtologmoanaccpaaGreatDoor
set_option linter.all false
open Go Go.RowKit

/-- as which signs a sign may be seen, by fades -/
def lkG (fs : List Fd) (s : Nat) : Nat := fs.foldl (fun a f => if f.sign = (s : Int) then a ||| 2 ^ f.seen.toNat else a) (2 ^ s)
def lkF (fs : List Fd) (p s : Nat) : Nat := if p < 2 then 2 ^ s else lkG fs s
theorem lkG_snoc (fs : List Fd) (f : Fd) (s : Nat) : lkG (fs ++ [f]) s = if f.sign = (s : Int) then lkG fs s ||| 2 ^ f.seen.toNat else lkG fs s := by simp [lkG]
theorem lkG_lt : ∀ (fs : List Fd) (a : Nat) (s : Nat), a < 32 → (∀ f ∈ fs, f.seen ≤ 4) → fs.foldl (fun a f => if f.sign = (s : Int) then a ||| 2 ^ f.seen.toNat else a) a < 32
  | [], a, s, h, _ => h
  | f :: fs, a, s, h, hf => by
    rw [List.foldl_cons]
    refine lkG_lt fs _ s ?_ (fun g hg => hf g (List.mem_cons_of_mem _ hg))
    split
    · have h4 := hf f (List.mem_cons_self ..)
      have h5 : f.seen.toNat ≤ 4 := by omega
      have h6 : 2 ^ f.seen.toNat < 2 ^ 5 := Nat.pow_lt_pow_right (by omega) (by omega)
      exact Nat.or_lt_two_pow (n := 5) h h6
    · exact h
theorem pow_lt32 {s : Nat} (h : s ≤ 4) : 2 ^ s < 32 := by
  have : 2 ^ s < 2 ^ 5 := Nat.pow_lt_pow_right (by omega) (by omega)
  omega
/-- thirty bytes -/
def lkL (F : Nat → Nat) : List Value := (List.range 30).map fun i => .int .u8 ((F i : Nat) : Int)
theorem lkL_len (F : Nat → Nat) : (lkL F).length = 30 := by simp [lkL]
theorem lkL_at {F : Nat → Nat} {i : Nat} (h : i < 30) : (lkL F)[i]? = some (.int .u8 ((F i : Nat) : Int)) := by
  unfold lkL
  rw [List.getElem?_map, List.getElem?_range h]
  rfl
theorem lkL_congr {F G : Nat → Nat} (h : ∀ i, i < 30 → F i = G i) : lkL F = lkL G := by
  unfold lkL
  apply List.map_congr_left
  intro i hi
  rw [h i (List.mem_range.1 hi)]
theorem lkL_set {F : Nat → Nat} {j : Nat} (v : Nat) : (lkL F).set j (.int .u8 ((v : Nat) : Int)) = lkL (fun i => if i = j then v else F i) := by
  apply List.ext_getElem?
  intro i
  rw [List.getElem?_set]
  unfold lkL
  by_cases e : j = i
  · subst e
    by_cases hj : j < 30
    · rw [if_pos rfl, List.getElem?_map, List.getElem?_range hj]
      simp [hj]
    · rw [if_pos rfl, if_neg (by simpa using hj), List.getElem?_eq_none (by simp; omega)]
  · rw [if_neg e, List.getElem?_map, List.getElem?_map]
    by_cases hi : i < 30
    · rw [List.getElem?_range hi]
      simp [Ne.symm e]
    · rw [List.getElem?_eq_none (by simp; omega)]; rfl
def BlkF (W : World) (b : Nat) (F : Nat → Nat) : Prop := W.heap[b]? = some (.cells (lkL F).toArray 120 (0, 0))
theorem BlkF.lt {W : World} {b : Nat} {F : Nat → Nat} (h : BlkF W b F) : b < W.heap.size := (Array.getElem?_eq_some_iff.1 h).1
theorem BlkF.kept {W W' : World} {b : Nat} {F : Nat → Nat} (h : BlkF W b F) (hk : Kept W W') : BlkF W' b F := (hk.block b h.lt).trans h
theorem BlkF.congr {W : World} {b : Nat} {F G : Nat → Nat} (h : BlkF W b F) (hg : ∀ i, i < 30 → F i = G i) : BlkF W b G := by
  unfold BlkF at h ⊢; rw [← lkL_congr hg]; exact h
theorem BlkF.cell {W : World} {b : Nat} {F : Nat → Nat} (h : BlkF W b F) {i : Nat} (hi : i < 30) : W.cell? ⟨b, i, none⟩ = some (.int .u8 ((F i : Nat) : Int)) ∧ W.frozen? ⟨b, i, none⟩ = false := by
  refine ⟨?_, frozen_of_row W b i _ _ h⟩
  rw [cell_of_row W b i _ _ _ h]
  simpa using lkL_at hi
theorem BlkF.put {W : World} {b : Nat} {F : Nat → Nat} (h : BlkF W b F) (j v : Nat) : BlkF (W.setCell ⟨b, j, none⟩ (.int .u8 ((v : Nat) : Int))) b (fun i => if i = j then v else F i) := by
  unfold BlkF at h ⊢
  rw [heap_setCell_same W b j _ _ _ h, ← lkL_set]
  simp
theorem BlkF.far {W : World} {b c : Nat} {F : Nat → Nat} (h : BlkF W b F) (hne : b ≠ c) (j : Nat) (v : Value) : BlkF (W.setCell ⟨c, j, none⟩ v) b F := by
  unfold BlkF at h ⊢
  rw [heap_setCell_other W ⟨c, j, none⟩ b v (by simpa using hne)]
  exact h
theorem BlkF.drew {W : World} {b : Nat} {F : Nat → Nat} (h : BlkF W b F) : BlkF W.drew b F := h
def lkX (fs : List Fd) (i : Nat) : Nat := lkF fs (i / 5) (i % 5)
/-- the looks after p places -/
def lk1 (fs : List Fd) (p i : Nat) : Nat := if i < 5 * p then lkX fs i else 0
def lk2 (fs : List Fd) (p s i : Nat) : Nat := if i < 5 * p then lkX fs i else if i < 5 * p + s then 2 ^ (i - 5 * p) else 0
def lk3 (fs : List Fd) (p k i : Nat) : Nat := if i < 5 * p then lkX fs i else if i < 5 * p + 5 then lkG (fs.take k) (i - 5 * p) else 0
theorem lk2_zero (fs : List Fd) (p i : Nat) : lk1 fs p i = lk2 fs p 0 i := by
  unfold lk1 lk2
  by_cases h : i < 5 * p
  · rw [if_pos h, if_pos h]
  · rw [if_neg h, if_neg h, if_neg (by omega)]
theorem lk2_succ (fs : List Fd) (p s i : Nat) : (if i = 5 * p + s then 2 ^ s else lk2 fs p s i) = lk2 fs p (s + 1) i := by
  unfold lk2
  by_cases e : i = 5 * p + s
  · subst e
    rw [if_pos rfl, if_neg (by omega), if_pos (by omega)]
    congr 1; omega
  · rw [if_neg e]
    by_cases h : i < 5 * p
    · rw [if_pos h, if_pos h]
    · rw [if_neg h, if_neg h]
      by_cases h2 : i < 5 * p + s
      · rw [if_pos h2, if_pos (by omega)]
      · rw [if_neg h2, if_neg (by omega)]
theorem lk2_ear (fs : List Fd) (p i : Nat) (hp : p < 2) : lk2 fs p 5 i = lk1 fs (p + 1) i := by
  unfold lk2 lk1
  by_cases h : i < 5 * p
  · rw [if_pos h, if_pos (by omega)]
  · rw [if_neg h]
    by_cases h2 : i < 5 * p + 5
    · rw [if_pos h2, if_pos (by omega)]
      unfold lkX lkF
      rw [if_pos (by omega)]
      congr 1; omega
    · rw [if_neg h2, if_neg (by omega)]
theorem lk3_zero (fs : List Fd) (p i : Nat) : lk2 fs p 5 i = lk3 fs p 0 i := by
  unfold lk2 lk3
  by_cases h : i < 5 * p
  · rw [if_pos h, if_pos h]
  · rw [if_neg h, if_neg h]
    by_cases h2 : i < 5 * p + 5
    · rw [if_pos h2, if_pos h2]; simp [lkG]
    · rw [if_neg h2, if_neg h2]
theorem lk3_succ (fs : List Fd) (p k i : Nat) {f : Fd} (hf : fs[k]? = some f) (h0 : 0 ≤ f.sign) (h4 : f.sign ≤ 4) : (if i = 5 * p + f.sign.toNat then lk3 fs p k (5 * p + f.sign.toNat) ||| 2 ^ f.seen.toNat else lk3 fs p k i) = lk3 fs p (k + 1) i := by
  unfold lk3
  rw [take_snoc' hf]
  by_cases e : i = 5 * p + f.sign.toNat
  · subst e
    rw [if_pos rfl, if_neg (by omega), if_pos (by omega), if_neg (by omega), if_pos (by omega), lkG_snoc, if_pos (by omega)]
  · rw [if_neg e]
    by_cases h : i < 5 * p
    · rw [if_pos h, if_pos h]
    · rw [if_neg h, if_neg h]
      by_cases h2 : i < 5 * p + 5
      · have h5 : ¬ f.sign = ((i - 5 * p : Nat) : Int) := by omega
        rw [if_pos h2, if_pos h2, lkG_snoc, if_neg h5]
      · rw [if_neg h2, if_neg h2]
theorem lk3_end (fs : List Fd) (p i : Nat) (hp : ¬ p < 2) : lk3 fs p fs.length i = lk1 fs (p + 1) i := by
  unfold lk3 lk1
  rw [List.take_of_length_le (Nat.le_refl _)]
  by_cases h : i < 5 * p
  · rw [if_pos h, if_pos (by omega)]
  · rw [if_neg h]
    by_cases h2 : i < 5 * p + 5
    · rw [if_pos h2, if_pos (by omega)]
      unfold lkX lkF
      rw [if_neg (by omega)]
      congr 1; omega
    · rw [if_neg h2, if_neg (by omega)]
theorem lk3_lt {fs : List Fd} (h : ∀ f ∈ fs, f.seen ≤ 4) (p k s : Nat) (hs : s ≤ 4) : lk3 fs p k (5 * p + s) < 32 := by
  unfold lk3
  rw [if_neg (by omega), if_pos (by omega), show 5 * p + s - 5 * p = s by omega]
  exact lkG_lt _ _ _ (pow_lt32 hs) (fun f hf => h f (List.mem_of_mem_take hf))
theorem u8_wrap_id {x : Int} (h0 : 0 ≤ x) (h1 : x < 256) : IntKind.u8.wrap x = x := by
  have : IntKind.u8.wrap x = x % 256 := by simp [IntKind.wrap, IntKind.bits, IntKind.signed]
  rw [this]; omega
theorem pow_u8 {s : Nat} (h : s ≤ 4) : IntKind.u8.wrap ((2 : Int) ^ s) = (2 : Int) ^ s ∧ 0 ≤ (2 : Int) ^ s ∧ (2 : Int) ^ s ≤ 16 := by
  have h1 : (2 : Nat) ^ s < 32 := pow_lt32 h
  have h3 : (2 : Nat) ^ s ≤ 2 ^ 4 := Nat.pow_le_pow_right (by omega) h
  have e : ((2 ^ s : Nat) : Int) = (2 : Int) ^ s := by push_cast; rfl
  have h2 : ((2 ^ s : Nat) : Int) ≤ 16 := by exact_mod_cast h3
  have h0 : (0 : Int) ≤ ((2 ^ s : Nat) : Int) := Int.natCast_nonneg _
  rw [e] at h2 h0
  exact ⟨u8_wrap_id h0 (by omega), h0, h2⟩
end Go.Proofs.YtologmoanaccpaaGreatDoor

namespace Go.Proofs.YtologmoanaccpaaGreatDoor
set_option linter.all false
open Go Go.RowKit

def lkV (fs : List Fd) : Value := .agg (lkL (lkX fs)).toArray
theorem Kept.setRow {w w1 : World} (h : Kept w w1) {g : Nat} (hg : w.heap.size ≤ g) (cs : Array Value) : Kept w (w1.setRow g cs) := by
  have hz : (w1.setRow g cs).heap.size = w1.heap.size := by simp [World.setRow]
  refine ⟨h.os, h.tape, h.output, by rw [hz]; exact h.size, fun k hk => ?_⟩
  rw [setRow_other w1 g k cs (by omega)]
  exact h.block k hk
set_option maxRecDepth 100000 in
set_option maxHeartbeats 6400000 in
theorem looksOf_any (B : Option Addr) (m d : Nat) (fs : List Fd) (w : World) (hs : SlA fdC 2 Fd.ok w B m d fs) (hf : ∀ f ∈ fs, fadeB f = true) :
    Calls Tryz.prog 103 #[.slice B m d] w fun e w' => e = .returned (lkV fs) ∧ Kept w w' := by
  have HS := Lib.hid hs
  have HF := Lib.hid hf
  have hnc := hs.2.1
  have hcm := hs.2.2.1
  have hseen : ∀ f ∈ fs, f.seen ≤ 4 := fun f h => by
    have := hf f h
    unfold fadeB at this
    simp at this
    exact this.1.2
  have HSE := Lib.hid hseen
  have z0 : lkL (fun _ => 0) = [.int .u8 0, .int .u8 0, .int .u8 0, .int .u8 0, .int .u8 0, .int .u8 0, .int .u8 0, .int .u8 0, .int .u8 0, .int .u8 0, .int .u8 0, .int .u8 0, .int .u8 0, .int .u8 0, .int .u8 0, .int .u8 0, .int .u8 0, .int .u8 0, .int .u8 0, .int .u8 0, .int .u8 0, .int .u8 0, .int .u8 0, .int .u8 0, .int .u8 0, .int .u8 0, .int .u8 0, .int .u8 0, .int .u8 0, .int .u8 0] := rfl
  obtain ⟨W0, hW0⟩ : ∃ W0, W0 = w.alloc (.cells (lkL (fun _ => 0)).toArray 120) := ⟨_, rfl⟩
  obtain ⟨W1, hW1⟩ : ∃ W1, W1 = W0.alloc (.cells (lkL (fun _ => 0)).toArray 120) := ⟨_, rfl⟩
  have hz0 : W0.heap.size = w.heap.size + 1 := by rw [hW0]; simp
  have B0 : BlkF W1 w.heap.size (fun _ => 0) := by
    have h0 : BlkF W0 w.heap.size (fun _ => 0) := by rw [hW0]; exact heap_alloc_new w _
    rw [hW1]; exact h0.kept ((Kept.refl _).alloc _)
  have B1 : BlkF W1 (w.heap.size + 1) (fun _ => 0) := by rw [hW1, ← hz0]; exact heap_alloc_new W0 _
  have K1 : Kept w W1 := by rw [hW1, hW0]; exact ((Kept.refl _).alloc _).alloc _
  have HB0 := Lib.hid B0
  have HB1 := Lib.hid B1
  have HK1 := Lib.hid K1
  have HW : RowKit.Hid (W1 = (w.alloc (.cells #[.int .u8 0, .int .u8 0, .int .u8 0, .int .u8 0, .int .u8 0, .int .u8 0, .int .u8 0, .int .u8 0, .int .u8 0, .int .u8 0, .int .u8 0, .int .u8 0, .int .u8 0, .int .u8 0, .int .u8 0, .int .u8 0, .int .u8 0, .int .u8 0, .int .u8 0, .int .u8 0, .int .u8 0, .int .u8 0, .int .u8 0, .int .u8 0, .int .u8 0, .int .u8 0, .int .u8 0, .int .u8 0, .int .u8 0, .int .u8 0] 120)).alloc (.cells #[.int .u8 0, .int .u8 0, .int .u8 0, .int .u8 0, .int .u8 0, .int .u8 0, .int .u8 0, .int .u8 0, .int .u8 0, .int .u8 0, .int .u8 0, .int .u8 0, .int .u8 0, .int .u8 0, .int .u8 0, .int .u8 0, .int .u8 0, .int .u8 0, .int .u8 0, .int .u8 0, .int .u8 0, .int .u8 0, .int .u8 0, .int .u8 0, .int .u8 0, .int .u8 0, .int .u8 0, .int .u8 0, .int .u8 0, .int .u8 0] 120)) := Lib.hid (by rw [hW1, hW0, z0])
  clear hs hf hseen z0 hz0 hW0 hW1 B0 B1 K1
  go_enter Tryz.func103, Tryz.ntmps103
  go_wp2_with fail
  rw [← HW.out]
  go_loopw [8] (fun i wr => ∃ p : Nat, p ≤ 6 ∧ i = .int .i64 p ∧ BlkF wr w.heap.size (fun _ => 0) ∧ BlkF wr (w.heap.size + 1) (lk1 fs p) ∧ Kept w wr) (fun i _ => 6 - (intOf i).toNat)
  case atStart => exact ⟨0, by omega, by first | rfl | go_num, HB0.out, HB1.out.congr (fun i hi => by unfold lk1; rw [if_neg (by omega)]), HK1.out⟩
  case round =>
    obtain ⟨p, hp, rfl, b0, b1, kr⟩ := hrel
    obtain ⟨wo, rfl⟩ : ∃ wo, wo = wr := ⟨_, rfl⟩
    have HB0 := Lib.hid b0
    have HB1 := Lib.hid b1
    have HKR := Lib.hid kr
    have hlb := b1.lt
    clear b0 b1 kr
    by_cases hlt : p < 6
    · go_wp2_with fail
      go_loopw [11] (fun i wr => ∃ s : Nat, s ≤ 5 ∧ i = .int .i64 s ∧ BlkF wr w.heap.size (fun _ => 0) ∧ BlkF wr (w.heap.size + 1) (lk2 fs p s) ∧ Kept w wr) (fun i _ => 5 - (intOf i).toNat)
      case atStart => exact ⟨0, by omega, by first | rfl | go_num, HB0.out, HB1.out.congr (fun i _ => lk2_zero fs p i), HKR.out⟩
      case round =>
        obtain ⟨s, hs, rfl, b0, b1, kr⟩ := hrel
        have HC0 := Lib.hid b0
        have HC1 := Lib.hid b1
        have HKS := Lib.hid kr
        by_cases hls : s < 5
        · have q0 := (b1.cell (i := p * 5 + s) (by omega)).1
          have q1 := (b1.cell (i := p * 5 + s) (by omega)).2
          have hp0 : (0 : Int) ≤ (p : Int) := by omega
          have hp1 : (p : Int) < 6 := by omega
          have hs0 : (0 : Int) ≤ (s : Int) := by omega
          have hs1 : (s : Int) < 5 := by omega
          have hpw := (pow_u8 (s := s) (by omega)).1
          have hl1 := b1.lt
          clear b0 b1 kr
          go_upto_region 8 with (fail)
          go_region
          all_goals go_wp2
          go_roundw
          case rel =>
            have e : ((2 ^ s : Nat) : Int) = (2 : Int) ^ s := by push_cast; rfl
            refine ⟨s + 1, by omega, by go_num, (HC0.out.far (by omega) _ _).drew, ?_, (HKS.out.setCell (by simp) _).drew⟩
            have := (HC1.out.put (p * 5 + s) (2 ^ s)).drew.congr (G := lk2 fs p (s + 1)) (fun i _ => by rw [show p * 5 + s = 5 * p + s by omega]; exact lk2_succ fs p s i)
            rw [e] at this
            exact this
          case measure => simp [intOf]; omega
        · obtain rfl : s = 5 := by omega
          clear b0 b1 kr
          by_cases hear : p < 2
          · have hd : decide ((p : Int) < 2) = true := decide_eq_true (by omega)
            go_wp2_with fail
            refine (isEar_any _ _).mono ?_
            rintro e w1 ⟨rfl, rfl⟩
            rw [hd]
            go_wp2
            go_roundw
            case rel => exact ⟨p + 1, by omega, by go_num, HC0.out, HC1.out.congr (fun i _ => lk2_ear fs p i hear), HKS.out⟩
            case measure => simp [intOf]; omega
          · have hd : decide ((p : Int) < 2) = false := decide_eq_false (by omega)
            have HE := Lib.hid hear
            clear hear
            go_wp2_with fail
            refine (isEar_any _ _).mono ?_
            rintro e w1 ⟨rfl, rfl⟩
            rw [hd]
            go_wp2_with fail
            obtain ⟨wi, rfl⟩ : ∃ wi, wi = wr := ⟨_, rfl⟩
            go_loopw [25] (fun i wr => ∃ k : Nat, k ≤ m ∧ i = .int .i64 k ∧ BlkF wr w.heap.size (fun _ => 0) ∧ BlkF wr (w.heap.size + 1) (lk3 fs p k) ∧ Kept w wr) (fun i _ => m - (intOf i).toNat)
            case atStart => exact ⟨0, by omega, by first | rfl | go_num, HC0.out, HC1.out.congr (fun i _ => lk3_zero fs p i), HKS.out⟩
            case round =>
              obtain ⟨k, hk, rfl, b0, b1, kr⟩ := hrel
              have HD0 := Lib.hid b0
              have HD1 := Lib.hid b1
              have HKT := Lib.hid kr
              by_cases hlk : k < m
              · obtain ⟨f, hfk⟩ : ∃ f, fs[k]? = some f := ⟨_, List.getElem?_eq_getElem (by rw [HS.out.1]; exact hlk)⟩
                have hfm := List.mem_of_getElem? hfk
                have hfd := HF.out f hfm
                have hf4 := HSE.out f hfm
                have hfu := (HS.out.2.2.2.1 f hfm).2.1
                have hfs : 1 ≤ f.sign ∧ f.sign ≤ 4 := by
                  unfold fadeB at hfd
                  simp [inB] at hfd
                  exact hfd.1.1
                obtain ⟨f1, f2⟩ := hfs
                obtain ⟨bb, off, hA, ht⟩ := HS.out.2.2.2.2 (by omega)
                subst hA
                have hcc := fun j v hv => (HKT.out.cells _ _ (cell_lt (ht k f hfk j v hv))).trans (ht k f hfk j v hv)
                have c0 := hcc 0 _ rfl
                have c1 := hcc 1 _ rfl
                simp only [Nat.add_zero] at c0
                obtain ⟨sn, hsn⟩ : ∃ sn : Nat, f.sign = (sn : Int) := ⟨f.sign.toNat, by omega⟩
                obtain ⟨se, hse⟩ : ∃ se : Nat, f.seen = (se : Int) := ⟨f.seen.toNat, by omega⟩
                rw [hsn] at c0 f1 f2
                rw [hse] at c1 hf4
                have q0 := (b1.cell (i := p * 5 + sn) (by omega)).1
                have q1 := (b1.cell (i := p * 5 + sn) (by omega)).2
                have hv := lk3_lt HSE.out p k sn (by omega)
                rw [show 5 * p + sn = p * 5 + sn by omega] at hv
                obtain ⟨V, hV⟩ : ∃ V, lk3 fs p k (p * 5 + sn) = V := ⟨_, rfl⟩
                rw [hV] at q0 hv
                have hor : bits BinOp.or IntKind.u8 (V : Int) ((2 : Int) ^ se) = ((V ||| 2 ^ se : Nat) : Int) := by
                  have e : ((2 ^ se : Nat) : Int) = (2 : Int) ^ se := by push_cast; rfl
                  rw [← e]
                  exact (bits_nat .u8 8 (by decide) (fun n h0 h1 => u8_wrap_id h0 (by simpa using h1)) V (2 ^ se) (by omega) (by have := pow_lt32 (s := se) (by omega); omega)).2
                have hlt8 : V ||| 2 ^ se < 32 := Nat.or_lt_two_pow (n := 5) hv (pow_lt32 (by omega))
                have hpw := (pow_u8 (s := se) (by omega)).1
                have hp0 : (0 : Int) ≤ (p : Int) := by omega
                have hp1 : (p : Int) < 6 := by omega
                have hs0 : (0 : Int) ≤ (sn : Int) := by omega
                have hs1 : (sn : Int) < 5 := by omega
                have hl1 := b1.lt
                have HSN := Lib.hid hsn
                have HSEE := Lib.hid hse
                have HV := Lib.hid hV
                have HFK := Lib.hid hfk
                have HLT8 := Lib.hid hlt8
                clear b0 b1 kr ht hcc hfm hfd hfu hsn hse hV hfk hv hlt8
                go_upto_region 14 with (fail)
                go_region
                all_goals go_wp2
                go_roundw
                case rel =>
                  refine ⟨k + 1, by omega, by go_num, ((HD0.out.far (by omega) _ _).kept ((Kept.refl _).alloc _)).drew, ?_, ((HKT.out.setCell (by simp) _).alloc _).drew⟩
                  refine (((HD1.out.put (p * 5 + sn) (V ||| 2 ^ se)).kept ((Kept.refl _).alloc _)).drew).congr (fun i _ => ?_)
                  have h8 := lk3_succ fs p k i HFK.out (by have := HSN.out; omega) (by have := HSN.out; omega)
                  have e1 : f.sign.toNat = sn := by have := HSN.out; omega
                  have e2 : f.seen.toNat = se := by have := HSEE.out; omega
                  rw [e1, e2, show 5 * p + sn = p * 5 + sn by omega, HV.out] at h8
                  exact h8
                case measure => simp [intOf]; omega
              · obtain rfl : k = m := by omega
                clear b0 b1 kr
                go_wp2
                go_roundw
                case rel => exact ⟨p + 1, by omega, by go_num, HD0.out, HD1.out.congr (fun i _ => by rw [← HS.out.1]; exact lk3_end fs p i HE.out), HKT.out⟩
                case measure => simp [intOf]; omega
    · obtain rfl : p = 6 := by omega
      have hi : (Tryz.prog.info? 120).map (·.size) = some 30 := by kernel_rfl
      have HX : RowKit.Hid (BlkF wo (w.heap.size + 1) (lkX fs)) := Lib.hid (HB1.out.congr (fun i hi => by unfold lk1; rw [if_pos (by omega)]))
      go_wp2_with (first
        | (refine wpList_load_row rfl 120 (.tmp 3) rfl (w.heap.size + 1) rfl 120 (lkL (lkX fs)).toArray (0, 0) _ HX.out Tryz.underlying120 rfl (by rw [hi]; simp [lkL_len]) ?_)
        | (refine wpList_store_row rfl 120 (.tmp 2) (.tmp 43) rfl w.heap.size (lkL (lkX fs)).toArray rfl rfl 120 _ HB0.out (by rw [hi]; simp [lkL_len]) (by simp [lkL_len]) (by simp [lkL, Value.oneCell']) ?_)
        | fail)
      refine bodyPost_ret (v := lkV fs) (results_cell_row (fn := Tryz.f103) (p := 2) (ty := 120) rfl _ _ w.heap.size 120 (lkL (lkX fs)).toArray (0, 0) _ rfl (setRow_heap _ _ _ _ _ _ HB0.out) Tryz.underlying120 rfl (by rw [hi]; simp [lkL_len])) rfl ⟨rfl, HKR.out.setRow (Nat.le_refl _) _⟩
end Go.Proofs.YtologmoanaccpaaGreatDoor

namespace Go.Proofs
open Go.Shelf
def Tryz.sortMk_ren : Go.Shelf.Ren := ⟨fun | 6 => 148 | 15 => 172 | 14 => 197 | 28 => 210 | 29 => 211 | 20 => 222 | 21 => 223 | 22 => 224 | 23 => 225 | 24 => 226 | 25 => 227 | 26 => 228 | 27 => 229 | 46 => 250 | 47 => 231 | 48 => 232 | 49 => 251 | 50 => 252 | 57 => 266 | n => n, fun | 22 => 22 | 24 => 32 | 25 => 189 | 3 => 3 | 39 => 212 | 0 => 0 | 53 => 247 | 55 => 116 | 4 => 4 | 46 => 240 | 45 => 239 | 50 => 244 | 5 => 5 | 9 => 9 | 66 => 261 | 70 => 265 | 76 => 285 | 77 => 286 | n => n, fun | n => n⟩
theorem Tryz.sortMk : Go.Proofs.SlLaysF0.n6 Tryz.prog Tryz.sortMk_ren := {
  mixed := by kernel_rfl
  f6 := ⟨Tryz.f148.name, by decide, Tryz.func148.trans (congrArg some (by kernel_rfl))⟩
  f14 := ⟨Tryz.f197.name, by decide, Tryz.func197.trans (congrArg some (by kernel_rfl))⟩
  f15 := Tryz.func172.trans (congrArg some (by kernel_rfl))
  f20 := ⟨Tryz.f222.name, by decide, Tryz.func222.trans (congrArg some (by kernel_rfl))⟩
  f21 := ⟨Tryz.f223.name, by decide, Tryz.func223.trans (congrArg some (by kernel_rfl))⟩
  f22 := ⟨Tryz.f224.name, by decide, Tryz.func224.trans (congrArg some (by kernel_rfl))⟩
  f23 := ⟨Tryz.f225.name, by decide, Tryz.func225.trans (congrArg some (by kernel_rfl))⟩
  f24 := ⟨Tryz.f226.name, by decide, Tryz.func226.trans (congrArg some (by kernel_rfl))⟩
  f25 := ⟨Tryz.f227.name, by decide, Tryz.func227.trans (congrArg some (by kernel_rfl))⟩
  f26 := ⟨Tryz.f228.name, by decide, Tryz.func228.trans (congrArg some (by kernel_rfl))⟩
  f27 := ⟨Tryz.f229.name, by decide, Tryz.func229.trans (congrArg some (by kernel_rfl))⟩
  f28 := Tryz.func210.trans (congrArg some (by kernel_rfl))
  f29 := Tryz.func211.trans (congrArg some (by kernel_rfl))
  f46 := ⟨Tryz.f250.name, by decide, Tryz.func250.trans (congrArg some (by kernel_rfl))⟩
  f47 := Tryz.func231.trans (congrArg some (by kernel_rfl))
  f48 := Tryz.func232.trans (congrArg some (by kernel_rfl))
  f49 := ⟨Tryz.f251.name, by decide, Tryz.func251.trans (congrArg some (by kernel_rfl))⟩
  f50 := ⟨Tryz.f252.name, by decide, Tryz.func252.trans (congrArg some (by kernel_rfl))⟩
  f57 := ⟨Tryz.f266.name, by decide, Tryz.func266.trans (congrArg some (by kernel_rfl))⟩
  t0 := Tryz.underlying0
  a0 := Tryz.isAgg0
  z0 := Tryz.sizeOf0
  v0 := Tryz.zeroValue0
  t3 := Tryz.underlying3
  a3 := Tryz.isAgg3
  z3 := Tryz.sizeOf3
  v3 := Tryz.zeroValue3
  t4 := Tryz.underlying4
  a4 := Tryz.isAgg4
  z4 := Tryz.sizeOf4
  v4 := Tryz.zeroValue4
  t5 := Tryz.underlying5
  a5 := Tryz.isAgg5
  z5 := Tryz.sizeOf5
  v5 := Tryz.zeroValue5
  t9 := Tryz.underlying9
  a9 := Tryz.isAgg9
  z9 := Tryz.sizeOf9
  v9 := Tryz.zeroValue9
  t22 := Tryz.underlying22
  a22 := Tryz.isAgg22
  z22 := Tryz.sizeOf22
  v22 := Tryz.zeroValue22
  t25 := Tryz.underlying189
  a25 := Tryz.isAgg189
  z25 := Tryz.sizeOf189
  v25 := Tryz.zeroValue189
  t39 := Tryz.underlying212
  a39 := Tryz.isAgg212
  z39 := Tryz.sizeOf212
  v39 := Tryz.zeroValue212
  t45 := Tryz.underlying239
  a45 := Tryz.isAgg239
  z45 := Tryz.sizeOf239
  v45 := Tryz.zeroValue239
  t46 := Tryz.underlying240
  a46 := Tryz.isAgg240
  z46 := Tryz.sizeOf240
  v46 := Tryz.zeroValue240
  t50 := Tryz.underlying244
  a50 := Tryz.isAgg244
  z50 := Tryz.sizeOf244
  v50 := Tryz.zeroValue244
  t53 := Tryz.underlying247
  a53 := Tryz.isAgg247
  z53 := Tryz.sizeOf247
  v53 := Tryz.zeroValue247
  t55 := Tryz.underlying116
  a55 := Tryz.isAgg116
  z55 := Tryz.sizeOf116
  v55 := Tryz.zeroValue116
  t66 := Tryz.underlying261
  a66 := Tryz.isAgg261
  z66 := Tryz.sizeOf261
  v66 := Tryz.zeroValue261
  t70 := Tryz.underlying265
  a70 := Tryz.isAgg265
  z70 := Tryz.sizeOf265
  v70 := Tryz.zeroValue265
  t76 := Tryz.underlying285
  a76 := Tryz.isAgg285
  z76 := Tryz.sizeOf285
  v76 := Tryz.zeroValue285
  t77 := Tryz.underlying286
  a77 := Tryz.isAgg286
  z77 := Tryz.sizeOf286
  v77 := Tryz.zeroValue286 }
end Go.Proofs

namespace Go.Proofs.YtologmoanaccpaaGreatDoor
set_option linter.all false
open Go Go.RowKit Go.Shelf Go.Sort Go.Proofs

/-- marks whose owners are small numbers -/
structure VM where
  val : Mk
  bd : 0 ≤ val.own ∧ val.own ≤ 1000
instance : Inhabited VM := ⟨⟨⟨0, 0, 0, ⟨0, 0, 0, 0, 0, 0⟩⟩, by decide⟩⟩
theorem lift_vm : ∀ (l : List Mk), (∀ m ∈ l, 0 ≤ m.own ∧ m.own ≤ 1000) → ∃ lv : List VM, lv.map (·.val) = l
  | [], _ => ⟨[], rfl⟩
  | m :: l, h => by
    obtain ⟨lv, e⟩ := lift_vm l (fun x hx => h x (List.mem_cons_of_mem _ hx))
    exact ⟨⟨m, h m (List.mem_cons_self ..)⟩ :: lv, by rw [List.map_cons, e]⟩
def encM (m : VM) : List Value := mkC m.val
def cfM (x y : VM) : Int := x.val.own - y.val.own
theorem ltM (x y : VM) : ltOf cfM x y = decide (x.val.own < y.val.own) := by
  unfold ltOf cfM
  by_cases h : x.val.own < y.val.own
  · rw [decide_eq_true h, decide_eq_true (by omega)]
  · rw [decide_eq_false h, decide_eq_false (by omega)]
theorem swoM : SWO (ltOf cfM) where
  irrefl x := by rw [ltM]; simp
  trans x y z h1 h2 := by rw [ltM] at *; simp at *; omega
  ntrans x y z h1 h2 := by rw [ltM] at *; simp at *; omega
theorem e149 : ∀ args w, (callFunc 149 args).run Tryz.prog w = .ok (.enter 149 args) w := enters_of Tryz.func149 (by kernel_rfl) rfl
set_option maxRecDepth 100000 in
set_option maxHeartbeats 1600000 in
theorem cmp149 (x y : VM) (W : World) : Calls Tryz.prog 149 #[.agg (encM x).toArray, .agg (encM y).toArray] W fun e w' => e = .returned (.int .i64 (cfM x y)) ∧ ∃ q os', w' = grow (W.drewN q) os' := by
  obtain ⟨x, hx0, hx1⟩ := x
  obtain ⟨y, hy0, hy1⟩ := y
  show Calls Tryz.prog 149 #[.agg (mkC x).toArray, .agg (mkC y).toArray] W _
  unfold mkC
  have hw : IntKind.i64.wrap (x.own - y.own) = x.own - y.own := IntWalk.i64_in _ (by omega)
  go_enter Tryz.func149, Tryz.ntmps149
  go_wp2
  go_ret
  exact ⟨rfl, 0, _, by rw [alloc_eq_grow, alloc_eq_grow, grow_grow]; rfl⟩
theorem holds_of {W : World} {g : Nat} {lv : List VM} (h : RowC W g ((lv.map (·.val)).flatMap mkC)) : HoldsK encM 9 W g 0 lv.toArray := by
  intro j hj
  have hj' : j < lv.length * 9 := by simpa using hj
  rw [get_flatK _ _ _ _ (by simpa using hj'), Nat.zero_add]
  have hi : j / 9 < lv.length := by omega
  have e1 : lv.toArray[j / 9]! = lv[j / 9] := by simp [hi]
  rw [e1]
  have hm : (lv.map (·.val))[j / 9]? = some lv[j / 9].val := by rw [List.getElem?_map, List.getElem?_eq_getElem hi]; rfl
  have h9 : j % 9 < (mkC lv[j / 9].val).length := by rw [mkC_len]; omega
  have hv : (mkC lv[j / 9].val)[j % 9]? = some (mkC lv[j / 9].val)[j % 9]! := by rw [getElem!_pos (mkC lv[j / 9].val) (j % 9) h9, List.getElem?_eq_getElem h9]
  have := h _ _ (flat_at mkC_len _ _ _ _ _ hm hv)
  rw [show j / 9 * 9 + j % 9 = j by omega] at this
  exact this
theorem of_holds {W : World} {g : Nat} {lv : List VM} (h : HoldsK encM 9 W g 0 lv.toArray) : RowC W g ((lv.map (·.val)).flatMap mkC) := by
  intro j v hv
  have hj : j < lv.length * 9 := by
    have := (List.getElem?_eq_some_iff.1 hv).1
    rwa [flat_len mkC_len, List.length_map] at this
  have hh := h j (by simpa using hj)
  rw [get_flatK _ _ _ _ (by simpa using hj), Nat.zero_add] at hh
  have hi : j / 9 < lv.length := by omega
  have e1 : lv.toArray[j / 9]! = lv[j / 9] := by simp [hi]
  rw [e1] at hh
  have hm : (lv.map (·.val))[j / 9]? = some lv[j / 9].val := by rw [List.getElem?_map, List.getElem?_eq_getElem hi]; rfl
  have h9 : j % 9 < (mkC lv[j / 9].val).length := by rw [mkC_len]; omega
  have hv2 : (mkC lv[j / 9].val)[j % 9]? = some (mkC lv[j / 9].val)[j % 9]! := by rw [getElem!_pos (mkC lv[j / 9].val) (j % 9) h9, List.getElem?_eq_getElem h9]
  have h3 := flat_at mkC_len _ _ _ _ _ hm hv2
  rw [show j / 9 * 9 + j % 9 = j by omega, hv] at h3
  injection h3 with h3
  rw [h3]
  exact hh
/-- what the sort leaves of the world -/
theorem kept_sort {w0 W : World} (h : Kept w0 W) {g : Nat} (hg : w0.heap.size ≤ g) (n : Nat) (d : Array VM) (os : Array Obj) : Kept w0 (sortWorldK encM 9 W g 0 n d os) := by
  unfold sortWorldK
  refine ⟨h.os, h.tape, h.output, ?_, fun k hk => ?_⟩
  · have h1 := h.size
    have h2 : (putRowK encM 9 (Sort.ahead W n) g 0 d).heap.size = W.heap.size := by rw [size_putRowK]; rfl
    have h3 : (grow (putRowK encM 9 (Sort.ahead W n) g 0 d) os).heap.size = (putRowK encM 9 (Sort.ahead W n) g 0 d).heap.size + os.size := by simp [grow]
    omega
  · have h2 : (putRowK encM 9 (Sort.ahead W n) g 0 d).heap.size = W.heap.size := by rw [size_putRowK]; rfl
    have h1 := h.size
    rw [heap_grow_old _ os (by omega), ← h.block k hk]
    unfold putRowK putRow mapBlock Sort.ahead
    have hne : ¬ g = k := by omega
    simp [Array.getElem?_modify, hne]
set_option maxHeartbeats 1600000 in
theorem sortMk_any (g n cap : Nat) (l : List Mk) (W : World) (hn : l.length = n) (hb : n ≤ 1000) (hl : g < W.heap.size) (hr : RowC W g (l.flatMap mkC)) (hm : ∀ m ∈ l, 0 ≤ m.own ∧ m.own ≤ 1000) :
    Calls Tryz.prog 148 #[.slice (some ⟨g, 0, none⟩) n cap, .func (.func 149) #[] #[]] W fun e w' => e = .returned (.tuple #[]) ∧ ∃ l' : List Mk, l'.Perm l ∧ l'.Pairwise (fun a b => a.own ≤ b.own) ∧ RowC w' g (l'.flatMap mkC) ∧ (∀ w0, Kept w0 W → w0.heap.size ≤ g → Kept w0 w') := by
  obtain ⟨lv, rfl⟩ := lift_vm l hm
  have hlen : lv.toArray.size = n := by simpa using hn
  have hH := holds_of hr
  have hcon := AnyQ.slices_SortFunc Tryz.sortMk 9 (fun w => by kernel_rfl) (fun w => by kernel_rfl) encM (fun _ => rfl) (fun x v hv => mk_one x.val v hv) cfM swoM 149 #[] g 0 cap lv.toArray W e149 (fun _ _ _ _ x y => cmp149 x y _) hH hl (by omega)
  rw [hlen] at hcon
  refine hcon.mono fun e w' hh => ?_
  obtain ⟨he, d', q, os, hp, hs, hw⟩ := hh
  obtain ⟨p1, p2, p3⟩ := hp
  have hsz : d'.size = n := by rw [p1, hlen]
  have e1 : d'.extract 0 n = d' := by rw [← hsz]; simp
  have e2 : lv.toArray.extract 0 n = lv.toArray := by rw [← hlen]; simp
  rw [e1, e2] at p3
  have hperm : d'.toList.Perm lv := by simpa using p3
  refine ⟨he, d'.toList.map (·.val), hperm.map _, ?_, ?_, fun w0 hk hg => by rw [hw]; exact kept_sort hk hg _ _ _⟩
  · rw [List.pairwise_map, List.pairwise_iff_getElem]
    intro i j hi hj hij
    have hj' : j < d'.size := by simpa using hj
    have := hs i j (Nat.zero_le _) hij (by omega)
    rw [ltM, getElem!_pos d' i (by omega), getElem!_pos d' j hj'] at this
    simp at this
    simpa using this
  · have : d' = d'.toList.toArray := by simp
    apply of_holds
    rw [← this, hw]
    unfold sortWorldK
    have hA : HoldsK encM 9 (Sort.ahead W q) g 0 lv.toArray := hH
    have hP := holdsK_putRowK (enc := encM) (k := 9) (Sort.ahead W q) g 0 lv.toArray d' hA (by rw [hsz, hlen])
    exact holdsK_grow (enc := encM) (k := 9) _ os g 0 d' (by rw [size_putRowK]; exact hl) hP
end Go.Proofs.YtologmoanaccpaaGreatDoor

namespace Go.Proofs.YtologmoanaccpaaGreatDoor
set_option linter.all false
open Go Go.RowKit Go.Shelf Go.Proofs

/-- the marks in force -/
def frcL (ms : List Mk) (day : Int) : List Mk := ms.filter fun m => inB day m.frm m.unt
theorem frcL_snoc (ms : List Mk) (m : Mk) (day : Int) : frcL (ms ++ [m]) day = if inB day m.frm m.unt = true then frcL ms day ++ [m] else frcL ms day := by
  unfold frcL
  rw [List.filter_append]
  cases h : inB day m.frm m.unt
  · simp [h]
  · simp [h]
def FrcP (w : World) (ms : List Mk) (day : Int) (e : Ending) (w' : World) : Prop :=
  ∃ A c l, e = .returned (.slice A l.length c) ∧ l.Perm (frcL ms day) ∧ l.Pairwise (fun a b => a.own ≤ b.own) ∧ SlA mkC 9 Mk.ok w' A l.length c l ∧ (∀ b o s, A = some ⟨b, o, s⟩ → w.heap.size ≤ b) ∧ Kept w w'
theorem sortNone (p : Option Addr) (cap : Nat) (fv : Value) (w : World) : Calls Tryz.prog 148 #[.slice p 0 cap, fv] w fun e w' => e = .returned (.tuple #[]) ∧ w' = w := AnyF.slices_SortFunc_none Tryz.sortMk p cap fv w
set_option maxRecDepth 100000 in
set_option maxHeartbeats 3200000 in
theorem inForce_any (A B : Option Addr) (n c m d : Nat) (ms : List Mk) (fs : List Fd) (day : Int) (w : World) (hs : SmA w A n c ms B m d fs) (hn : n ≤ 1000) (hv : ∀ m ∈ ms, markB m = true) :
    Calls Tryz.prog 76 #[.agg #[.slice A n c, .slice B m d], .int .i64 day] w (FrcP w ms day) := by
  obtain ⟨i0, hi0, hz0, hz1, hz2⟩ := info_parts info32
  obtain ⟨W0, hW0⟩ : ∃ W0, W0 = w.alloc (.cells #[.slice A n c, .slice B m d] 25) := ⟨_, rfl⟩
  have K0 : RowKit.Hid (Kept w W0) := Lib.hid (by rw [hW0]; exact (Kept.refl _).alloc _)
  have R0 : RowKit.Hid (RowC W0 w.heap.size [.slice A n c, .slice B m d]) := Lib.hid (by rw [hW0]; exact RowC.new w [.slice A n c, .slice B m d] 25)
  have HW := Lib.hid hW0
  have HS := Lib.hid (hs.1.kept K0.out)
  have HV := Lib.hid hv
  have hnc := hs.1.2.1
  have hcm := hs.1.2.2.1
  have a0 := (R0.out 0 _ rfl).1
  have a1 := (R0.out 1 _ rfl).1
  have la := cell_lt a0
  clear hW0 hs hv
  go_enter Tryz.func76, Tryz.ntmps76
  go_upto_region 1 with (fail)
  rw [← HW.out]
  go_wp2_with fail
  go_loopw [5, 11] (fun v i wr => ∃ k : Nat, k ≤ n ∧ i = .int .i64 k ∧ wr.ownsRow W0.heap.size 32 9 v (frcL (ms.take k) day).length ((frcL (ms.take k) day).flatMap mkC) ∧ Kept W0 wr) (fun _ i _ => n - (intOf i).toNat)
  case atStart => exact ⟨0, by omega, by first | rfl | go_num, ⟨by simp [frcL], .inl ⟨rfl, by simp [frcL]⟩⟩, Kept.refl _⟩
  case round =>
    obtain ⟨k, hk, rfl, ho, hkr⟩ := hrel
    have HO := Lib.hid ho
    have HKR := Lib.hid hkr
    clear ho hkr a0 a1 la
    by_cases hlt : k < n
    · obtain ⟨x, hx⟩ : ∃ x, ms[k]? = some x := ⟨_, List.getElem?_eq_getElem (by rw [HS.out.1]; exact hlt)⟩
      obtain ⟨b, off, hA, ht⟩ := HS.out.2.2.2.2 (by omega)
      subst hA
      have hcc := fun j v hv => (HKR.out.cells _ _ (cell_lt (ht k x hx j v hv))).trans (ht k x hx j v hv)
      have c0 := hcc 0 _ rfl
      have c1 := hcc 1 _ rfl
      have c2 := hcc 2 _ rfl
      have c3 := hcc 3 _ rfl
      have c4 := hcc 4 _ rfl
      have c5 := hcc 5 _ rfl
      have c6 := hcc 6 _ rfl
      have c7 := hcc 7 _ rfl
      have c8 := hcc 8 _ rfl
      simp only [Nat.add_zero] at c0
      have Hx := Lib.hid hx
      obtain ⟨q, hq⟩ : ∃ q, inB day x.frm x.unt = q := ⟨_, rfl⟩
      have HQ := Lib.hid hq
      have HC : RowKit.Hid (∀ W, Calls Tryz.prog 147 #[.int .i64 day, .int .i64 x.frm, .int .i64 x.unt] W fun e w' => e = .returned (.bool q) ∧ W = w') := Lib.hid (fun W => by rw [← hq]; exact within_any _ _ _ W)
      have HT : RowKit.Hid (frcL (ms.take (k + 1)) day = if q = true then frcL (ms.take k) day ++ [x] else frcL (ms.take k) day) := Lib.hid (by rw [take_snoc' hx, frcL_snoc, hq])
      have hlen : (frcL (ms.take k) day).length ≤ 1000 := Nat.le_trans (List.length_filter_le _ _) (by rw [List.length_take]; omega)
      obtain ⟨N, hN⟩ : ∃ N, (frcL (ms.take k) day).length = N := ⟨_, rfl⟩
      rw [hN] at hlen
      have HN := Lib.hid hN
      clear hx ht hcc hq hN
      go_wp2_with fail
      refine (HC.out _).mono ?_
      rintro e w1 ⟨rfl, rfl⟩
      cases q
      · go_wp2
        go_roundw
        case rel => exact ⟨k + 1, by omega, by go_num, by rw [HT.out]; exact own_kept HO.out ((Kept.refl _).alloc _), HKR.out.alloc _⟩
        case measure => simp [intOf]; omega
      · obtain ⟨Wa, hWa⟩ : ∃ Wa, Wa = wr.alloc (.cells #[.int .i64 x.own, .int .i64 x.frm, .int .i64 x.unt, .int .u8 x.sg.s0, .int .u8 x.sg.s1, .int .u8 x.sg.s2, .int .u8 x.sg.s3, .int .u8 x.sg.s4, .int .u8 x.sg.s5] 32) := ⟨_, rfl⟩
        have ka : Kept wr Wa := by rw [hWa]; exact (Kept.refl _).alloc _
        have ra : RowC Wa wr.heap.size (mkC x) := by rw [hWa]; exact RowC.new wr (mkC x) 32
        have d0 := (ra 0 _ rfl).1
        have d1 := (ra 1 _ rfl).1
        have d2 := (ra 2 _ rfl).1
        have d3 := (ra 3 _ rfl).1
        have d4 := (ra 4 _ rfl).1
        have d5 := (ra 5 _ rfl).1
        have d6 := (ra 6 _ rfl).1
        have d7 := (ra 7 _ rfl).1
        have d8 := (ra 8 _ rfl).1
        have ld := cell_lt d0
        rw [← hWa]
        have HKA := Lib.hid (HKR.out.trans ka)
        have ho := own_kept HO.out ka
        rw [HN.out] at ho
        have HOA := Lib.hid ho
        have HNW := Lib.hid (news_of (W := Wa) (cs := mkC x) (t := 32) (m := Wa.heap.size) rfl)
        have HA3 : RowKit.Hid (N + 1 ≤ maxLen) := Lib.hid (by unfold maxLen; omega)
        have HA4 : RowKit.Hid ((N + 1) * 32 ≤ 140737488355328) := Lib.hid (by omega)
        have HB1 : RowKit.Hid (W0.heap.size ≤ (Wa.alloc (.cells #[.int .i64 x.own, .int .i64 x.frm, .int .i64 x.unt, .int .u8 x.sg.s0, .int .u8 x.sg.s1, .int .u8 x.sg.s2, .int .u8 x.sg.s3, .int .u8 x.sg.s4, .int .u8 x.sg.s5] 32)).heap.size) := Lib.hid (by have := HKA.out.size; simp; omega)
        clear hWa ka ra ho
        go_wp2_with (at_builtin; refine wpList_append_lies _ rfl (.tmp 21) (.tmp 23) 22 rfl W0.heap.size 32 i0 _ 9 32 Tryz.underlying22 hi0 hz0 hz1 hz2 rfl (by decide) _ N _ rfl (own_kept HOA.out ((Kept.refl _).alloc _)) ⟨Wa.heap.size, 0, none⟩ 1 1 (mkC x) rfl rfl HNW.out (mk_one x) (by decide) HA3.out HA4.out HB1.out _ rfl ?_; intro g cap w6 hown6 hgrow6 hat6 hlt6)
        have HO6 := Lib.hid hown6
        have HK6 := Lib.hid ((HKA.out.alloc _).grown hgrow6 (fun r hr => (HOA.out.lt r hr).1))
        clear hown6 hgrow6 hat6 hlt6
        go_roundw
        case rel => exact ⟨k + 1, by omega, by go_num, by rw [HT.out, if_pos trivial, List.length_append, HN.out, flat_snoc]; exact HO6.out, HK6.out⟩
        case measure => simp [intOf]; omega
    · obtain rfl : k = n := by omega
      have hT : ms.take k = ms := List.take_of_length_le (by rw [HS.out.1]; exact Nat.le_refl _)
      have ho := HO.out
      rw [hT] at ho
      have hok : ∀ m ∈ frcL ms day, m.ok := fun m hm => HS.out.2.2.2.1 m (List.mem_filter.1 hm).1
      have hbd : ∀ m ∈ frcL ms day, 0 ≤ m.own ∧ m.own ≤ 1000 := fun m hm => by
        have := HV.out m (List.mem_filter.1 hm).1
        unfold markB at this
        simp [inB] at this
        omega
      obtain ⟨l, hl⟩ : ∃ l, frcL ms day = l := ⟨_, rfl⟩
      rw [hl] at ho hok hbd
      have HL := Lib.hid hl
      have HOK := Lib.hid hok
      have HBD := Lib.hid hbd
      have hlen : l.length ≤ 1000 := by rw [← hl]; exact Nat.le_trans (List.length_filter_le _ _) (by rw [HS.out.1]; omega)
      rcases ho.2 with ⟨rfl, h0⟩ | ⟨g, cap, cur, rfl, hb, hh, h1, h2, _⟩
      · have e0 : l = [] := List.length_eq_zero_iff.1 h0
        have HE := Lib.hid e0
        have HSN := Lib.hid (sortNone none 0 (.func (.func 149) #[] #[]) wr)
        clear e0 h0 ho hok hbd hl hT
        go_wp2_with fail
        refine HSN.out.mono ?_
        rintro e w1 ⟨rfl, rfl⟩
        go_wp2
        go_ret
        refine ⟨none, 0, [], rfl, by rw [HL.out, HE.out], List.Pairwise.nil, ⟨rfl, by simp, by omega, (fun m hm => by cases hm), fun h => absurd h (by simp)⟩, (fun b o s e => by cases e), K0.out.trans HKR.out⟩
      · have hg : g < wr.heap.size := (Array.getElem?_eq_some_iff.1 hh).1
        have hrow := own_rowC ho
        obtain ⟨N, hN⟩ : ∃ N, l.length = N := ⟨_, rfl⟩
        have HSM := Lib.hid (sortMk_any g N cap l wr hN (by omega) hg hrow hbd)
        rw [hN] at h1 hlen ⊢
        unfold maxLen at h2
        have HN := Lib.hid hN
        clear ho hok hbd hl hT hrow hh hN
        go_wp2_with fail
        refine HSM.out.mono ?_
        rintro e w1 ⟨rfl, l', p1, p2, r1, k1⟩
        have HK := Lib.hid (k1 W0 HKR.out hb)
        have HP1 := Lib.hid p1
        have HP2 := Lib.hid p2
        have HR1 := Lib.hid r1
        clear p1 p2 r1 k1
        go_wp2
        go_ret
        have hl' : l'.length = N := by rw [HP1.out.length_eq, HN.out]
        refine ⟨some ⟨g, 0, none⟩, cap, l', by rw [hl']; rfl, by rw [HL.out]; exact HP1.out, HP2.out, ⟨rfl, by omega, h2, fun m hm => HOK.out m (HP1.out.mem_iff.1 hm), fun _ => ⟨g, 0, rfl, fun i x hx j v hv => ?_⟩⟩, (fun b o s e => by have := K0.out.size; injection e with e; injection e with e1; omega), K0.out.trans HK.out⟩
        rw [Nat.zero_add]
        exact (HR1.out _ _ (flat_at mkC_len _ _ _ _ _ hx hv)).1
end Go.Proofs.YtologmoanaccpaaGreatDoor

namespace Go.Proofs.YtologmoanaccpaaGreatDoor
set_option linter.all false
open Go Go.RowKit Go.Shelf Go.Proofs

def fit1 (fs : List Fd) (p : Nat) (have_ seen : Int) : Bool := (seen == 9) || (lkF fs p have_.toNat).testBit seen.toNat
def fitB (fs : List Fd) (a s : Sg) : Bool := (List.range 6).all fun p => fit1 fs p (a.l.getD p 0) (s.l.getD p 0)
theorem idx30_0 (s : Sg) (w : World) : (Instr.index 30 (.agg #[.int .u8 s.s0, .int .u8 s.s1, .int .u8 s.s2, .int .u8 s.s3, .int .u8 s.s4, .int .u8 s.s5]) (.int .i64 0)).run Tryz.prog w = .ok (.int .u8 s.s0) w := by kernel_rfl
theorem idx30_1 (s : Sg) (w : World) : (Instr.index 30 (.agg #[.int .u8 s.s0, .int .u8 s.s1, .int .u8 s.s2, .int .u8 s.s3, .int .u8 s.s4, .int .u8 s.s5]) (.int .i64 1)).run Tryz.prog w = .ok (.int .u8 s.s1) w := by kernel_rfl
theorem idx30_2 (s : Sg) (w : World) : (Instr.index 30 (.agg #[.int .u8 s.s0, .int .u8 s.s1, .int .u8 s.s2, .int .u8 s.s3, .int .u8 s.s4, .int .u8 s.s5]) (.int .i64 2)).run Tryz.prog w = .ok (.int .u8 s.s2) w := by kernel_rfl
theorem idx30_3 (s : Sg) (w : World) : (Instr.index 30 (.agg #[.int .u8 s.s0, .int .u8 s.s1, .int .u8 s.s2, .int .u8 s.s3, .int .u8 s.s4, .int .u8 s.s5]) (.int .i64 3)).run Tryz.prog w = .ok (.int .u8 s.s3) w := by kernel_rfl
theorem idx30_4 (s : Sg) (w : World) : (Instr.index 30 (.agg #[.int .u8 s.s0, .int .u8 s.s1, .int .u8 s.s2, .int .u8 s.s3, .int .u8 s.s4, .int .u8 s.s5]) (.int .i64 4)).run Tryz.prog w = .ok (.int .u8 s.s4) w := by kernel_rfl
theorem idx30_5 (s : Sg) (w : World) : (Instr.index 30 (.agg #[.int .u8 s.s0, .int .u8 s.s1, .int .u8 s.s2, .int .u8 s.s3, .int .u8 s.s4, .int .u8 s.s5]) (.int .i64 5)).run Tryz.prog w = .ok (.int .u8 s.s5) w := by kernel_rfl
theorem idx30 (s : Sg) (k : Nat) (x : Int) (h : s.l[k]? = some x) (w : World) : (Instr.index 30 (.agg #[.int .u8 s.s0, .int .u8 s.s1, .int .u8 s.s2, .int .u8 s.s3, .int .u8 s.s4, .int .u8 s.s5]) (.int .i64 (k : Int))).run Tryz.prog w = .ok (.int .u8 x) w := by
  have hk : k < 6 := (List.getElem?_eq_some_iff.1 h).1
  match k, hk with
  | 0, _ => simp [Sg.l] at h; rw [← h]; exact idx30_0 s w
  | 1, _ => simp [Sg.l] at h; rw [← h]; exact idx30_1 s w
  | 2, _ => simp [Sg.l] at h; rw [← h]; exact idx30_2 s w
  | 3, _ => simp [Sg.l] at h; rw [← h]; exact idx30_3 s w
  | 4, _ => simp [Sg.l] at h; rw [← h]; exact idx30_4 s w
  | 5, _ => simp [Sg.l] at h; rw [← h]; exact idx30_5 s w
theorem sg_at {s : Sg} {k : Nat} {x : Int} (h : s.l[k]? = some x) : s.l.getD k 0 = x := by rw [List.getD_eq_getElem?_getD, h]; rfl
theorem fit_no {fs : List Fd} {a s : Sg} {k : Nat} {x y : Int} (hx : a.l[k]? = some x) (hy : s.l[k]? = some y) (h : fit1 fs k x y = false) : fitB fs a s = false := by
  unfold fitB
  rw [List.all_eq_false]
  exact ⟨k, List.mem_range.2 (List.getElem?_eq_some_iff.1 hx).1, by rw [sg_at hx, sg_at hy, h]; simp⟩
theorem fit_yes {fs : List Fd} {a s : Sg} (h : ∀ (k : Nat) x y, k < 6 → a.l[k]? = some x → s.l[k]? = some y → fit1 fs k x y = true) : fitB fs a s = true := by
  unfold fitB
  rw [List.all_eq_true]
  intro k hk
  have hk := List.mem_range.1 hk
  obtain ⟨x, hx⟩ : ∃ x, a.l[k]? = some x := ⟨_, List.getElem?_eq_getElem (by simpa [Sg.l] using hk)⟩
  obtain ⟨y, hy⟩ : ∃ y, s.l[k]? = some y := ⟨_, List.getElem?_eq_getElem (by simpa [Sg.l] using hk)⟩
  rw [sg_at hx, sg_at hy]
  exact h k x y hk hx hy
theorem shr_bit {V n : Nat} (hV : V < 256) : (bits BinOp.and IntKind.u8 ((V : Int) / (2 : Int) ^ n) 1 == 0) = !V.testBit n := by
  have e1 : (V : Int) / (2 : Int) ^ n = ((V / 2 ^ n : Nat) : Int) := by push_cast; rfl
  have h1 : V / 2 ^ n < 256 := Nat.lt_of_le_of_lt (Nat.div_le_self _ _) hV
  have e2 : bits BinOp.and IntKind.u8 ((V / 2 ^ n : Nat) : Int) ((1 : Nat) : Int) = ((V / 2 ^ n &&& 1 : Nat) : Int) := (bits_nat .u8 8 (by decide) (fun n h0 h1 => u8_wrap_id h0 (by simpa using h1)) (V / 2 ^ n) 1 (by omega) (by omega)).1
  rw [e1, show (1 : Int) = ((1 : Nat) : Int) from rfl, e2]
  unfold Nat.testBit
  rw [Nat.shiftRight_eq_div_pow, Nat.and_comm]
  generalize (1 &&& V / 2 ^ n : Nat) = q
  rw [Bool.eq_iff_iff]
  simp
theorem lkX_lt {fs : List Fd} (h : ∀ f ∈ fs, f.seen ≤ 4) (i : Nat) : lkX fs i < 32 := by
  unfold lkX lkF
  split
  · exact pow_lt32 (by omega)
  · exact lkG_lt fs _ _ (pow_lt32 (by omega)) h
set_option maxRecDepth 100000 in
set_option maxHeartbeats 3200000 in
theorem fits_any (fs : List Fd) (a s : Sg) (hf : ∀ f ∈ fs, f.seen ≤ 4) (ha : a.ok) (hs : s.ok) (hac : clearB a = true) (hss : sightB s = true) (w : World) :
    Calls Tryz.prog 157 #[lkV fs, .agg #[.int .u8 a.s0, .int .u8 a.s1, .int .u8 a.s2, .int .u8 a.s3, .int .u8 a.s4, .int .u8 a.s5], .agg #[.int .u8 s.s0, .int .u8 s.s1, .int .u8 s.s2, .int .u8 s.s3, .int .u8 s.s4, .int .u8 s.s5]] w fun e w' => e = .returned (.bool (fitB fs a s)) ∧ Kept w w' := by
  obtain ⟨W1, hW1⟩ : ∃ W1, W1 = w.alloc (.cells (lkL (lkX fs)).toArray 120) := ⟨_, rfl⟩
  obtain ⟨W2, hW2⟩ : ∃ W2, W2 = W1.alloc (.cells #[.int .u8 a.s0, .int .u8 a.s1, .int .u8 a.s2, .int .u8 a.s3, .int .u8 a.s4, .int .u8 a.s5] 30) := ⟨_, rfl⟩
  obtain ⟨W3, hW3⟩ : ∃ W3, W3 = W2.alloc (.cells #[.int .u8 s.s0, .int .u8 s.s1, .int .u8 s.s2, .int .u8 s.s3, .int .u8 s.s4, .int .u8 s.s5] 39) := ⟨_, rfl⟩
  have z1 : W1.heap.size = w.heap.size + 1 := by rw [hW1]; simp
  have z2 : W2.heap.size = w.heap.size + 1 + 1 := by rw [hW2]; simp [z1]
  have k13 : Kept W1 W3 := by rw [hW3, hW2]; exact ((Kept.refl _).alloc _).alloc _
  have HB := Lib.hid (show BlkF W3 w.heap.size (lkX fs) by
    have h0 : BlkF W1 w.heap.size (lkX fs) := by rw [hW1]; exact heap_alloc_new w _
    exact h0.kept k13)
  have HR := Lib.hid (show RowC W3 (w.heap.size + 1 + 1) (sgV s) by rw [hW3, ← z2]; exact RowC.new W2 (sgV s) 39)
  have HK := Lib.hid (show Kept w W3 by rw [hW3, hW2, hW1]; exact (((Kept.refl _).alloc _).alloc _).alloc _)
  have HW : RowKit.Hid (W3 = ((w.alloc (.cells (lkL (lkX fs)).toArray 120)).alloc (.cells #[.int .u8 a.s0, .int .u8 a.s1, .int .u8 a.s2, .int .u8 a.s3, .int .u8 a.s4, .int .u8 a.s5] 30)).alloc (.cells #[.int .u8 s.s0, .int .u8 s.s1, .int .u8 s.s2, .int .u8 s.s3, .int .u8 s.s4, .int .u8 s.s5] 39)) := Lib.hid (by rw [hW3, hW2, hW1])
  have HA := Lib.hid (Sg.ok_l ha)
  have HSO := Lib.hid (Sg.ok_l hs)
  have HF := Lib.hid hf
  have HAC := Lib.hid (show ∀ x ∈ a.l, x ≤ 4 from fun x hx => by
    unfold clearB at hac
    have := List.all_eq_true.1 hac x hx
    simpa using this)
  have HSS := Lib.hid (show ∀ x ∈ s.l, x ≤ 4 ∨ x = 9 from fun x hx => by
    unfold sightB at hss
    simp only [Bool.not_eq_true'] at hss
    have := List.any_eq_false.1 hss x hx
    unfold badB at this
    simp at this
    omega)
  unfold lkV
  clear hW1 hW2 hW3 z1 z2 k13 ha hs hf hac hss
  go_enter Tryz.func157, Tryz.ntmps157
  go_wp2
  rw [← HW.out]
  go_loop [11] (fun i => ∃ k : Nat, k ≤ 6 ∧ i = .int .i64 k ∧ (∀ j x y, j < k → a.l[j]? = some x → s.l[j]? = some y → fit1 fs j x y = true)) (fun i => 6 - (intOf i).toNat)
  case atStart => exact ⟨0, by omega, by first | rfl | go_num, fun j x y hj => by omega⟩
  case round =>
    obtain ⟨k, hk, rfl, ho⟩ := hrel
    have Ho := Lib.hid ho
    clear ho
    by_cases hlt : k < 6
    · obtain ⟨x, hx⟩ : ∃ x, a.l[k]? = some x := ⟨_, List.getElem?_eq_getElem (by simpa [Sg.l] using hlt)⟩
      obtain ⟨y, hy⟩ : ∃ y, s.l[k]? = some y := ⟨_, List.getElem?_eq_getElem (by simpa [Sg.l] using hlt)⟩
      have hix := idx30 a k x hx
      have hcy := (HR.out k _ (sgV_at hy)).1
      have ly := cell_lt hcy
      have hxu := HA.out x (List.mem_of_getElem? hx)
      have hyu := HSO.out y (List.mem_of_getElem? hy)
      have hx4 := HAC.out x (List.mem_of_getElem? hx)
      have hy4 := HSS.out y (List.mem_of_getElem? hy)
      obtain ⟨hx0, _⟩ := hxu
      obtain ⟨hy0, _⟩ := hyu
      have hk0 : (0 : Int) ≤ (k : Int) := by omega
      have hk1 : (k : Int) < 6 := by omega
      have Hx := Lib.hid hx
      have Hy := Lib.hid hy
      clear hx hy
      by_cases h9 : y = 9
      · subst h9
        go_wp2
        go_round
        case rel =>
          refine ⟨k + 1, by omega, by go_num, fun j u v hj hu hv => ?_⟩
          rcases Nat.lt_or_eq_of_le (Nat.le_of_lt_succ hj) with h | h
          · exact Ho.out j u v h hu hv
          · subst h
            have := Hy.out
            rw [hv] at this
            cases this
            simp [fit1]
        case measure => simp [intOf]; omega
      · have hne : (y != 9) = true := by simpa using h9
        obtain ⟨xn, hxn⟩ : ∃ xn : Nat, x = (xn : Int) := ⟨x.toNat, by omega⟩
        obtain ⟨yn, hyn⟩ : ∃ yn : Nat, y = (yn : Int) := ⟨y.toNat, by omega⟩
        subst hxn
        subst hyn
        have hxn4 : xn ≤ 4 := by omega
        have hyn4 : yn ≤ 4 := by omega
        have hq := (HB.out.cell (i := k * 5 + xn) (by omega)).1
        have lb := HB.out.lt
        obtain ⟨V, hV⟩ : ∃ V, lkX fs (k * 5 + xn) = V := ⟨_, rfl⟩
        rw [hV] at hq
        have hx1 : (xn : Int) < 5 := by omega
        have hlt32 := lkX_lt HF.out (k * 5 + xn)
        rw [hV] at hlt32
        have hsb := shr_bit (n := yn) (show V < 256 by omega)
        have HF1 : RowKit.Hid (fit1 fs k (xn : Int) (yn : Int) = V.testBit yn) := Lib.hid (by
          unfold fit1
          have e1 : ((yn : Int) == 9) = false := by simpa using h9
          have e2 : lkF fs k xn = V := by
            rw [← hV]; unfold lkX
            rw [show (k * 5 + xn) / 5 = k by omega, show (k * 5 + xn) % 5 = xn by omega]
          rw [e1, Int.toNat_natCast, Int.toNat_natCast, e2]; rfl)
        clear hlt32 hV
        cases hb : V.testBit yn
        · rw [hb, Bool.not_false] at hsb
          rw [hb] at HF1
          go_wp2
          go_ret
          exact ⟨ret_bool (fit_no Hx.out Hy.out HF1.out).symm, HK.out⟩
        · rw [hb, Bool.not_true] at hsb
          rw [hb] at HF1
          go_wp2
          go_round
          case rel =>
            refine ⟨k + 1, by omega, by go_num, fun j u v hj hu hv => ?_⟩
            rcases Nat.lt_or_eq_of_le (Nat.le_of_lt_succ hj) with h | h
            · exact Ho.out j u v h hu hv
            · subst h
              have h1 := Hx.out
              have h2 := Hy.out
              rw [hu] at h1
              rw [hv] at h2
              cases h1
              cases h2
              exact HF1.out
          case measure => simp [intOf]; omega
    · obtain rfl : k = 6 := by omega
      have HY := Lib.hid (fit_yes Ho.out)
      go_wp2
      go_ret
      exact ⟨ret_bool HY.out.symm, HK.out⟩
end Go.Proofs.YtologmoanaccpaaGreatDoor
