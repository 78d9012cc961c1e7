/-
  mark: what signs may be seen as: looksOf
-/
import Derived.Test.YtologmoanaccpaaGreatDoorMk
namespace Go.Proofs.YtologmoanaccpaaGreatDoor
set_option linter.all false
open Go Go.RowKit

/-- as which signs a sign may be seen, by fades -/
def lkG (fs : List Fd) (s : Nat) : Nat := fs.foldl (fun a f => if f.sign = (s : Int) then a ||| 2 ^ f.seen.toNat else a) (2 ^ s)
def lkF (fs : List Fd) (p s : Nat) : Nat := if p < 2 then 2 ^ s else lkG fs s
theorem lkG_snoc (fs : List Fd) (f : Fd) (s : Nat) : lkG (fs ++ [f]) s = if f.sign = (s : Int) then lkG fs s ||| 2 ^ f.seen.toNat else lkG fs s := by simp [lkG]
theorem lkG_lt : ∀ (fs : List Fd) (a : Nat) (s : Nat), a < 32 → (∀ f ∈ fs, f.seen ≤ 4) → fs.foldl (fun a f => if f.sign = (s : Int) then a ||| 2 ^ f.seen.toNat else a) a < 32
  | [], a, s, h, _ => h
  | f :: fs, a, s, h, hf => by
    rw [List.foldl_cons]
    refine lkG_lt fs _ s ?_ (fun g hg => hf g (List.mem_cons_of_mem _ hg))
    split
    · have h4 := hf f (List.mem_cons_self ..)
      have h5 : f.seen.toNat ≤ 4 := by omega
      have h6 : 2 ^ f.seen.toNat < 2 ^ 5 := Nat.pow_lt_pow_right (by omega) (by omega)
      exact Nat.or_lt_two_pow (n := 5) h h6
    · exact h
theorem pow_lt32 {s : Nat} (h : s ≤ 4) : 2 ^ s < 32 := by
  have : 2 ^ s < 2 ^ 5 := Nat.pow_lt_pow_right (by omega) (by omega)
  omega
/-- thirty bytes -/
def lkL (F : Nat → Nat) : List Value := (List.range 30).map fun i => .int .u8 ((F i : Nat) : Int)
theorem lkL_len (F : Nat → Nat) : (lkL F).length = 30 := by simp [lkL]
theorem lkL_at {F : Nat → Nat} {i : Nat} (h : i < 30) : (lkL F)[i]? = some (.int .u8 ((F i : Nat) : Int)) := by
  unfold lkL
  rw [List.getElem?_map, List.getElem?_range h]
  rfl
theorem lkL_congr {F G : Nat → Nat} (h : ∀ i, i < 30 → F i = G i) : lkL F = lkL G := by
  unfold lkL
  apply List.map_congr_left
  intro i hi
  rw [h i (List.mem_range.1 hi)]
theorem lkL_set {F : Nat → Nat} {j : Nat} (v : Nat) : (lkL F).set j (.int .u8 ((v : Nat) : Int)) = lkL (fun i => if i = j then v else F i) := by
  apply List.ext_getElem?
  intro i
  rw [List.getElem?_set]
  unfold lkL
  by_cases e : j = i
  · subst e
    by_cases hj : j < 30
    · rw [if_pos rfl, List.getElem?_map, List.getElem?_range hj]
      simp [hj]
    · rw [if_pos rfl, if_neg (by simpa using hj), List.getElem?_eq_none (by simp; omega)]
  · rw [if_neg e, List.getElem?_map, List.getElem?_map]
    by_cases hi : i < 30
    · rw [List.getElem?_range hi]
      simp [Ne.symm e]
    · rw [List.getElem?_eq_none (by simp; omega)]; rfl
def BlkF (W : World) (b : Nat) (F : Nat → Nat) : Prop := W.heap[b]? = some (.cells (lkL F).toArray 120 (0, 0))
theorem BlkF.lt {W : World} {b : Nat} {F : Nat → Nat} (h : BlkF W b F) : b < W.heap.size := (Array.getElem?_eq_some_iff.1 h).1
theorem BlkF.kept {W W' : World} {b : Nat} {F : Nat → Nat} (h : BlkF W b F) (hk : Kept W W') : BlkF W' b F := (hk.block b h.lt).trans h
theorem BlkF.congr {W : World} {b : Nat} {F G : Nat → Nat} (h : BlkF W b F) (hg : ∀ i, i < 30 → F i = G i) : BlkF W b G := by
  unfold BlkF at h ⊢; rw [← lkL_congr hg]; exact h
theorem BlkF.cell {W : World} {b : Nat} {F : Nat → Nat} (h : BlkF W b F) {i : Nat} (hi : i < 30) : W.cell? ⟨b, i, none⟩ = some (.int .u8 ((F i : Nat) : Int)) ∧ W.frozen? ⟨b, i, none⟩ = false := by
  refine ⟨?_, frozen_of_row W b i _ _ h⟩
  rw [cell_of_row W b i _ _ _ h]
  simpa using lkL_at hi
theorem BlkF.put {W : World} {b : Nat} {F : Nat → Nat} (h : BlkF W b F) (j v : Nat) : BlkF (W.setCell ⟨b, j, none⟩ (.int .u8 ((v : Nat) : Int))) b (fun i => if i = j then v else F i) := by
  unfold BlkF at h ⊢
  rw [heap_setCell_same W b j _ _ _ h, ← lkL_set]
  simp
theorem BlkF.far {W : World} {b c : Nat} {F : Nat → Nat} (h : BlkF W b F) (hne : b ≠ c) (j : Nat) (v : Value) : BlkF (W.setCell ⟨c, j, none⟩ v) b F := by
  unfold BlkF at h ⊢
  rw [heap_setCell_other W ⟨c, j, none⟩ b v (by simpa using hne)]
  exact h
theorem BlkF.drew {W : World} {b : Nat} {F : Nat → Nat} (h : BlkF W b F) : BlkF W.drew b F := h
def lkX (fs : List Fd) (i : Nat) : Nat := lkF fs (i / 5) (i % 5)
/-- the looks after p places -/
def lk1 (fs : List Fd) (p i : Nat) : Nat := if i < 5 * p then lkX fs i else 0
def lk2 (fs : List Fd) (p s i : Nat) : Nat := if i < 5 * p then lkX fs i else if i < 5 * p + s then 2 ^ (i - 5 * p) else 0
def lk3 (fs : List Fd) (p k i : Nat) : Nat := if i < 5 * p then lkX fs i else if i < 5 * p + 5 then lkG (fs.take k) (i - 5 * p) else 0
theorem lk2_zero (fs : List Fd) (p i : Nat) : lk1 fs p i = lk2 fs p 0 i := by
  unfold lk1 lk2
  by_cases h : i < 5 * p
  · rw [if_pos h, if_pos h]
  · rw [if_neg h, if_neg h, if_neg (by omega)]
theorem lk2_succ (fs : List Fd) (p s i : Nat) : (if i = 5 * p + s then 2 ^ s else lk2 fs p s i) = lk2 fs p (s + 1) i := by
  unfold lk2
  by_cases e : i = 5 * p + s
  · subst e
    rw [if_pos rfl, if_neg (by omega), if_pos (by omega)]
    congr 1; omega
  · rw [if_neg e]
    by_cases h : i < 5 * p
    · rw [if_pos h, if_pos h]
    · rw [if_neg h, if_neg h]
      by_cases h2 : i < 5 * p + s
      · rw [if_pos h2, if_pos (by omega)]
      · rw [if_neg h2, if_neg (by omega)]
theorem lk2_ear (fs : List Fd) (p i : Nat) (hp : p < 2) : lk2 fs p 5 i = lk1 fs (p + 1) i := by
  unfold lk2 lk1
  by_cases h : i < 5 * p
  · rw [if_pos h, if_pos (by omega)]
  · rw [if_neg h]
    by_cases h2 : i < 5 * p + 5
    · rw [if_pos h2, if_pos (by omega)]
      unfold lkX lkF
      rw [if_pos (by omega)]
      congr 1; omega
    · rw [if_neg h2, if_neg (by omega)]
theorem lk3_zero (fs : List Fd) (p i : Nat) : lk2 fs p 5 i = lk3 fs p 0 i := by
  unfold lk2 lk3
  by_cases h : i < 5 * p
  · rw [if_pos h, if_pos h]
  · rw [if_neg h, if_neg h]
    by_cases h2 : i < 5 * p + 5
    · rw [if_pos h2, if_pos h2]; simp [lkG]
    · rw [if_neg h2, if_neg h2]
theorem lk3_succ (fs : List Fd) (p k i : Nat) {f : Fd} (hf : fs[k]? = some f) (h0 : 0 ≤ f.sign) (h4 : f.sign ≤ 4) : (if i = 5 * p + f.sign.toNat then lk3 fs p k (5 * p + f.sign.toNat) ||| 2 ^ f.seen.toNat else lk3 fs p k i) = lk3 fs p (k + 1) i := by
  unfold lk3
  rw [take_snoc' hf]
  by_cases e : i = 5 * p + f.sign.toNat
  · subst e
    rw [if_pos rfl, if_neg (by omega), if_pos (by omega), if_neg (by omega), if_pos (by omega), lkG_snoc, if_pos (by omega)]
  · rw [if_neg e]
    by_cases h : i < 5 * p
    · rw [if_pos h, if_pos h]
    · rw [if_neg h, if_neg h]
      by_cases h2 : i < 5 * p + 5
      · have h5 : ¬ f.sign = ((i - 5 * p : Nat) : Int) := by omega
        rw [if_pos h2, if_pos h2, lkG_snoc, if_neg h5]
      · rw [if_neg h2, if_neg h2]
theorem lk3_end (fs : List Fd) (p i : Nat) (hp : ¬ p < 2) : lk3 fs p fs.length i = lk1 fs (p + 1) i := by
  unfold lk3 lk1
  rw [List.take_of_length_le (Nat.le_refl _)]
  by_cases h : i < 5 * p
  · rw [if_pos h, if_pos (by omega)]
  · rw [if_neg h]
    by_cases h2 : i < 5 * p + 5
    · rw [if_pos h2, if_pos (by omega)]
      unfold lkX lkF
      rw [if_neg (by omega)]
      congr 1; omega
    · rw [if_neg h2, if_neg (by omega)]
theorem lk3_lt {fs : List Fd} (h : ∀ f ∈ fs, f.seen ≤ 4) (p k s : Nat) (hs : s ≤ 4) : lk3 fs p k (5 * p + s) < 32 := by
  unfold lk3
  rw [if_neg (by omega), if_pos (by omega), show 5 * p + s - 5 * p = s by omega]
  exact lkG_lt _ _ _ (pow_lt32 hs) (fun f hf => h f (List.mem_of_mem_take hf))
theorem u8_wrap_id {x : Int} (h0 : 0 ≤ x) (h1 : x < 256) : IntKind.u8.wrap x = x := by
  have : IntKind.u8.wrap x = x % 256 := by simp [IntKind.wrap, IntKind.bits, IntKind.signed]
  rw [this]; omega
theorem pow_u8 {s : Nat} (h : s ≤ 4) : IntKind.u8.wrap ((2 : Int) ^ s) = (2 : Int) ^ s ∧ 0 ≤ (2 : Int) ^ s ∧ (2 : Int) ^ s ≤ 16 := by
  have h1 : (2 : Nat) ^ s < 32 := pow_lt32 h
  have h3 : (2 : Nat) ^ s ≤ 2 ^ 4 := Nat.pow_le_pow_right (by omega) h
  have e : ((2 ^ s : Nat) : Int) = (2 : Int) ^ s := by push_cast; rfl
  have h2 : ((2 ^ s : Nat) : Int) ≤ 16 := by exact_mod_cast h3
  have h0 : (0 : Int) ≤ ((2 ^ s : Nat) : Int) := Int.natCast_nonneg _
  rw [e] at h2 h0
  exact ⟨u8_wrap_id h0 (by omega), h0, h2⟩
end Go.Proofs.YtologmoanaccpaaGreatDoor
