/-
  sets of owners: their bits in order, and the iterator over them
  the iterator of a set over the owners in it, each with the word that it is in it
-/
import Derived.Test.YtologmoanaccpaaGreatDoorMc
import Derived.Laws.Bits64b
import Derived.Lib.TrailingZeros
import Derived.Shelf.Spec.TrailingZeros
import Derived.RangeFuncKeeps
import Derived.RangeFuncNested
import Derived.RangeFuncBound
import Derived.RangeFuncCalls
import Derived.RangeFuncLeaves
import Derived.Shelf.Abstract
import Derived.Shelf.RegionOpen
import Derived.OwnWalkIn
import Derived.TacticsInMore
import Derived.LoopNIn
import Derived.LoopIn
import Derived.ChangeAlike
import Derived.Laws.BitsLemmas
namespace Go.Proofs.YtologmoanaccpaaGreatDoor
set_option linter.all false
open Go.RowKit Go.Shelf
attribute [local go_sem] Oper.semAt_some

/-- the library's table in its variable -/
def EnvT (w : World) : Prop := TabAt 0 Lib.deBruijn64tab w
theorem EnvT.kept {w w' : World} (h : EnvT w) (hk : Kept w w') : EnvT w' := fun j hj => (hk.cells _ _ (cell_lt (h j hj))).trans (h j hj)

set_option maxHeartbeats 1000000 in
theorem tz_core (x k idx : Nat) (w : World) (hx0 : ((x : Int) == 0) = false)
    (key : IntKind.u64.wrap (bits BinOp.and IntKind.u64 (x : Int) (IntKind.u64.wrap (-(x : Int))) * 285870213051353865) / 288230376151711744 = (idx : Int))
    (hi : idx < 64) (hk : k < 64) (hcell : w.cell? ⟨0, idx, none⟩ = some (.int .u8 k)) :
    Calls Tryz.prog 201 #[.int .u64 x] w fun e w' => e = .returned (.int .i64 k) ∧ w' = w := by
  go_enter Tryz.func201, Tryz.ntmps201
  go_wp2_with (simp only [key])
  go_ret
  exact ⟨rfl, rfl⟩
theorem tz_any (x : Nat) (h0 : x ≠ 0) (hx : x < 18446744073709551616) (w : World) (hE : EnvT w) :
    Calls Tryz.prog 201 #[.int .u64 x] w fun e w' => e = .returned (.int .i64 (Lib.ctz 64 x)) ∧ w' = w := by
  obtain ⟨hlow, hk⟩ := Lib.lowest_bit 64 x h0 hx
  obtain ⟨hi, htab⟩ := Lib.deBruijn64_at _ hk
  have hcell := hE _ hi
  rw [htab] at hcell
  exact tz_core x _ _ w (by simp; omega) (tz64_key x _ hx h0 hlow) hi hk hcell

theorem low_spec (r : Nat) (h0 : r ≠ 0) (h : r < 2 ^ 64) : ∃ m, r = 2 ^ (Lib.ctz 64 r + 1) * m + 2 ^ Lib.ctz 64 r ∧ Lib.ctz 64 r < 64 := by
  obtain ⟨m, h1, h2⟩ := Lib.ctzFrom_spec 64 r (by omega) h
  have e : Lib.ctz 64 r = Lib.ctzFrom 64 r := by unfold Lib.ctz; rw [if_neg h0]
  rw [e]
  refine ⟨m, ?_, h2⟩
  conv => lhs; rw [h1]
  rw [Nat.pow_succ, Nat.mul_add, Nat.mul_one, Nat.mul_assoc]
theorem low_bits {r j m : Nat} (h : r = 2 ^ (j + 1) * m + 2 ^ j) : (∀ i, i < j → r.testBit i = false) ∧ r.testBit j = true ∧ (∀ i, (r &&& (r - 1)).testBit i = (decide (j < i) && r.testBit i)) ∧ r &&& (r - 1) < r := by
  have hp : 0 < 2 ^ j := Nat.two_pow_pos j
  have hq : (2 : Nat) ^ (j + 1) = 2 * 2 ^ j := by rw [Nat.pow_succ]; omega
  have e1 : r - 1 = 2 ^ (j + 1) * m + (2 ^ j - 1) := by omega
  have b0 : ∀ i, r.testBit i = if i < j + 1 then decide (j = i) else m.testBit (i - (j + 1)) := fun i => by
    rw [h, Nat.testBit_two_pow_mul_add m (by omega), Nat.testBit_two_pow]
  have b1 : ∀ i, (r - 1).testBit i = if i < j + 1 then decide (i < j) else m.testBit (i - (j + 1)) := fun i => by
    rw [e1, Nat.testBit_two_pow_mul_add m (by omega), Nat.testBit_two_pow_sub_one]
  refine ⟨fun i hi => by rw [b0, if_pos (by omega)]; simp; omega, by rw [b0, if_pos (by omega)]; simp, fun i => ?_, ?_⟩
  · rw [Nat.testBit_and, b0, b1]
    by_cases h1 : i < j + 1
    · rw [if_pos h1, if_pos h1]
      have : decide (j < i) = false := by simp; omega
      rw [this]
      by_cases h2 : j = i
      · subst h2; simp
      · simp [h2]
    · rw [if_neg h1, if_neg h1]
      have : decide (j < i) = true := by simp; omega
      rw [this]; simp
  · have : r &&& (r - 1) ≤ r - 1 := Nat.and_le_right
    omega
def bitsK (s k : Nat) : List Nat := (List.range k).filter fun i => s.testBit i
theorem bitsK_zero (s : Nat) : bitsK s 0 = [] := rfl
theorem bitsK_succ (s k : Nat) : bitsK s (k + 1) = if s.testBit k = true then bitsK s k ++ [k] else bitsK s k := by
  unfold bitsK
  rw [List.range_succ, List.filter_append]
  by_cases h : s.testBit k = true
  · simp [h]
  · simp [h]
theorem bitsK_same {s k : Nat} : ∀ {j : Nat}, k ≤ j → (∀ i, k ≤ i → i < j → s.testBit i = false) → bitsK s j = bitsK s k
  | 0, hk, _ => by obtain rfl : k = 0 := by omega
                   rfl
  | j + 1, hk, h => by
    by_cases e : k = j + 1
    · rw [e]
    · rw [bitsK_succ, if_neg (by rw [h j (by omega) (by omega)]; simp)]
      exact bitsK_same (by omega) fun i h1 h2 => h i h1 (by omega)
theorem bitsK_len (s : Nat) : ∀ k, (bitsK s k).length ≤ k := fun k => by unfold bitsK; exact Nat.le_trans (List.length_filter_le _ _) (by simp)
theorem bitsK_prefix (s : Nat) {j : Nat} (hj : j ≤ 64) : bitsK s j <+: bitsK s 64 := by
  unfold bitsK
  have e : List.range 64 = List.range j ++ (List.range (64 - j)).map (j + ·) := by
    rw [← List.range_add]; congr 1; omega
  rw [e, List.filter_append]
  exact List.prefix_append _ _
theorem bitsK_lt (s : Nat) {j : Nat} (hj : j < 64) (h : s.testBit j = true) : (bitsK s j).length < (bitsK s 64).length := by
  have h1 := (bitsK_prefix s (j := j + 1) (by omega)).length_le
  rw [bitsK_succ, if_pos h] at h1
  simp at h1
  omega
theorem bitsK_nil {s : Nat} (h : s < 2 ^ 64) : bitsK s 64 = [] ↔ s = 0 := by
  constructor
  · intro e
    apply Nat.eq_of_testBit_eq
    intro i
    rw [Nat.zero_testBit]
    by_cases hi : i < 64
    · by_cases hb : s.testBit i = true
      · have : i ∈ bitsK s 64 := by unfold bitsK; simp [hi, hb]
        rw [e] at this; cases this
      · simpa using hb
    · exact Nat.testBit_lt_two_pow (Nat.lt_of_lt_of_le h (Nat.pow_le_pow_right (by omega) (by omega)))
  · rintro rfl
    unfold bitsK
    simp

theorem each_any (s : Nat) (w : World) :
    Calls Tryz.prog 160 #[.int .u64 s] w fun e w' => e = .returned (.func (.func 200) #[] #[.pointer (some ⟨w.heap.size, 0, none⟩)]) ∧ w' = w.alloc (.cells #[.int .u64 s] 117) := by
  have hmf : ∀ (fn : Fn) (first cap : Array Value) (w : World), (Instr.makeFunc fn first cap).run Tryz.prog w = .ok (.func fn first cap) w := fun _ _ _ _ => rfl
  go_enter Tryz.func160, Tryz.ntmps160
  go_wp2
  go_ret
  exact ⟨rfl, rfl⟩

def KpB (n0 : Nat) (W W' : World) : Prop := Below n0 W W'
theorem KpB.trans {n0 : Nat} {A B C : World} (h : KpB n0 A B) (k : KpB n0 B C) : KpB n0 A C := Below.trans h k
theorem KpB.put {n0 : Nat} {w : World} (hn : n0 ≤ w.heap.size) (W : World) (l : Nat) (o o' : Obj) (hl : w.heap.size ≤ l) (h : W.heap[l]? = some o) (hc : o.isCells = false) (hw : o.isWalk = false) : KpB n0 W (W.putObj l o') := belowK_b hn W l o o' hl h hc hw

set_option maxRecDepth 100000 in
set_option maxHeartbeats 2000000 in
theorem each1 (n : Nat) (hn : 1 ≤ n) (l bp : Nat) (s : Nat) (hs : s < 2 ^ 64) (w0 : World) (hE : EnvT w0)
    (J Jx : List Nat → World → Prop) (W : World) (hW : Kept w0 W) (hl : W.cell? ⟨bp, 0, none⟩ = some (.int .u64 s))
    (hY : ∀ pre x W1, J pre W1 → pre.length < (bitsK s 64).length → YieldAt Fence.wide (n - 1) Tryz.prog l #[.int .i64 (x : Nat)] W1 fun e W' =>
      (e = .returned (.bool true) ∧ J (pre ++ [x]) W' ∧ KpB w0.heap.size W1 W') ∨ (e = .returned (.bool false) ∧ Jx (pre ++ [x]) W'))
    (h0 : J [] W) :
    CallsIn Fence.wide n Tryz.prog 200 #[.func (.yield l) #[] #[], .pointer (some ⟨bp, 0, none⟩)] W fun e W' => (∃ v, e = .returned v) ∧
      ((∃ ys, ys = bitsK s 64 ∧ J ys W') ∨ (∃ pre, pre <+: bitsK s 64 ∧ Jx pre W')) := by
  have HE := Lib.hid hE
  have HY := Lib.hid hY
  have Hl := Lib.hid hl
  have HS := Lib.hid hs
  have hbp := cell_lt hl
  clear hE hY hl hs
  have g1 : W.cell? ⟨bp, 0, none⟩ = some (.int .u64 s) := Hl.out
  have hz := hW.size
  refine callsIn_of_wp Tryz.func200 rfl trivial ?_ rfl
  simp only [Tryz.ntmps200, List.size_toArray, List.length_cons, List.length_nil, Nat.reduceAdd, Nat.reduceSub, Array.replicate_succ, Array.replicate_zero, List.push_toArray, List.append_toArray, List.nil_append, List.cons_append]
  gi_wp2
  clear g1
  gi_loopw [3] (fun v w1 => ∃ k r : Nat, k ≤ 64 ∧ v = .int .u64 r ∧ (∀ i, r.testBit i = (decide (k ≤ i) && s.testBit i)) ∧ r < 2 ^ 64 ∧ Kept w0 w1 ∧ J (bitsK s k) w1) (fun v _ => (intOf v).toNat)
  case atStart => exact ⟨0, s, by omega, by first | rfl | go_num, by simp, HS.out, hW, h0⟩
  case round =>
    obtain ⟨k, r, hk, rfl, hb, hr, hk1, hJ1⟩ := hrel
    by_cases hr0 : r = 0
    · subst hr0
      have hall : bitsK s 64 = bitsK s k := bitsK_same hk fun i h1 h2 => by
        have := hb i
        rw [Nat.zero_testBit] at this
        simpa [h1] using this.symm
      have HALL := Lib.hid hall
      clear hb hall
      gi_wp2
      go_end0
      exact ⟨⟨_, rfl⟩, .inl ⟨_, rfl, by rw [HALL.out]; exact hJ1⟩⟩
    · obtain ⟨m, hm, hj⟩ := low_spec r hr0 hr
      have htz := tz_any r hr0 (by simpa using hr) wr (HE.out.kept hk1)
      generalize Lib.ctz 64 r = j at hm hj htz
      obtain ⟨q1, q2, q3, q4⟩ := low_bits hm
      have hkj : k ≤ j := by
        have := hb j
        rw [q2] at this
        simp at this
        exact this.1
      have hsj : s.testBit j = true := by
        have := hb j
        rw [q2] at this
        simp at this
        exact this.2
      have hsame : bitsK s (j + 1) = bitsK s k ++ [j] := by
        rw [bitsK_succ, if_pos hsj, bitsK_same hkj fun i h1 h2 => by
          have := hb i
          rw [q1 i h2] at this
          simpa [h1] using this.symm]
      have hlen : (bitsK s k).length < (bitsK s 64).length := by
        have := bitsK_lt s hj hsj
        have h2 := hsame
        rw [bitsK_succ, if_pos hsj] at h2
        rw [← List.append_cancel_right h2]
        exact this
      have hsub : IntKind.u64.wrap ((r : Int) - 1) = ((r - 1 : Nat) : Int) := by
        rw [IntKind.wrap_u64]
        have : (2 : Nat) ^ 64 = 18446744073709551616 := by decide
        omega
      have hr6 : r < 18446744073709551616 := by simpa using hr
      have hr7 : r - 1 < 18446744073709551616 := by omega
      have hand : bits BinOp.and IntKind.u64 (r : Int) ((r - 1 : Nat) : Int) = ((r &&& (r - 1) : Nat) : Int) := bits_and_u64_nat r (r - 1) hr6 hr7
      clear hr6 hr7
      have hne : ((r : Int) == 0) = false := by simp; omega
      have HB := Lib.hid hb
      have HQ3 := Lib.hid q3
      have HQ4 := Lib.hid q4
      have HM := Lib.hid hm
      have HSA := Lib.hid hsame
      have HT := Lib.hid htz
      have HR := Lib.hid hr
      have HSJ := Lib.hid hsj
      obtain ⟨fn, tmps, assign, body, hy, hR⟩ := HY.out (bitsK s k) j wr hJ1 hlen
      have HRR := Lib.hid hR
      obtain ⟨r2, hr2⟩ : ∃ r2, r2 = r &&& (r - 1) := ⟨_, rfl⟩
      rw [← hr2] at hand q4
      have HR2 := Lib.hid hr2
      clear hb q3 hm hsame htz hr hsj q1 q2 hlen hr2 hR
      obtain ⟨r1, hr1⟩ : ∃ r1 : Nat, r1 = r - 1 := ⟨_, rfl⟩
      rw [← hr1] at hand hsub
      clear hr1
      gi_wp2_with (refine ⟨trivial, (callsIn_wide.2 HT.out).mono ?_⟩; rintro e w1 ⟨rfl, rfl⟩)
      refine HRR.out.mono ?_
      rintro e W3 (⟨rfl, hJ3, hk3⟩ | ⟨rfl, hJx3⟩)
      · gi_wp2
        go_roundw
        case rel => exact ⟨j + 1, r2, by omega, by go_num, fun i => by
          rw [HR2.out, HQ3.out i, HB.out i]
          by_cases h1 : j < i
          · simp [h1, show k ≤ i by omega, show j + 1 ≤ i by omega]
          · simp [h1, show ¬ j + 1 ≤ i by omega], by have := HR.out; omega, hk1.below.trans hk3, by rw [HSA.out]; exact hJ3⟩
        case measure => simp [intOf]; omega
      · gi_wp2
        refine bodyPost_ret (results_none rfl _ _ _) rfl ?_
        exact ⟨⟨_, rfl⟩, .inr ⟨_, by rw [← HSA.out]; exact bitsK_prefix s (by omega), hJx3⟩⟩

theorem each_stops (n : Nat) (hn : 1 ≤ n) (bp : Nat) (s : Nat) (hs : s < 2 ^ 64) (w0 : World) (hE : EnvT w0) (w : World) (hw : Kept w0 w) (hl : w.cell? ⟨bp, 0, none⟩ = some (.int .u64 s)) :
    SeqStopsK Fence.wide n Tryz.prog 200 #[.pointer (some ⟨bp, 0, none⟩)] (fun x : Nat => #[.int .i64 (x : Int)]) (KpB w0.heap.size) (fun ys => ys = bitsK s 64) (fun pre => pre <+: bitsK s 64) (bitsK s 64).length w :=
  fun l J Jx W hW hJ hJx hY h0 => each1 n hn l bp s hs w0 hE J Jx W (hw.trans hW) (((show Kept w W from hW).cells _ _ (cell_lt hl)).trans hl) hY h0
end Go.Proofs.YtologmoanaccpaaGreatDoor

namespace Go.Proofs.YtologmoanaccpaaGreatDoor
set_option linter.all false
open Go.RowKit Go.Shelf
attribute [local go_sem] Oper.semAt_some

def bitsS (s : Nat) : Nat → List {x : Nat // s.testBit x = true}
  | 0 => []
  | k + 1 => if h : s.testBit k = true then bitsS s k ++ [⟨k, h⟩] else bitsS s k
theorem bitsS_succ (s k : Nat) : bitsS s (k + 1) = if h : s.testBit k = true then bitsS s k ++ [⟨k, h⟩] else bitsS s k := rfl
theorem bitsS_map (s : Nat) : ∀ k, (bitsS s k).map (·.1) = bitsK s k
  | 0 => rfl
  | k + 1 => by
    rw [bitsS_succ, bitsK_succ]
    by_cases h : s.testBit k = true
    · rw [dif_pos h, if_pos h, List.map_append, bitsS_map s k]; rfl
    · rw [dif_neg h, if_neg h, bitsS_map s k]
theorem bitsS_same {s k : Nat} : ∀ {j : Nat}, k ≤ j → (∀ i, k ≤ i → i < j → s.testBit i = false) → bitsS s j = bitsS s k
  | 0, hk, _ => by obtain rfl : k = 0 := by omega
                   rfl
  | j + 1, hk, h => by
    by_cases e : k = j + 1
    · rw [e]
    · rw [bitsS_succ, dif_neg (by rw [h j (by omega) (by omega)]; simp)]
      exact bitsS_same (by omega) fun i h1 h2 => h i h1 (by omega)
theorem bitsS_pre (s j : Nat) : ∀ d, bitsS s j <+: bitsS s (j + d)
  | 0 => List.prefix_refl _
  | d + 1 => by
    rw [← Nat.add_assoc, bitsS_succ]
    split
    · exact (bitsS_pre s j d).trans (List.prefix_append _ _)
    · exact bitsS_pre s j d
theorem bitsS_prefix (s : Nat) {j : Nat} (hj : j ≤ 64) : bitsS s j <+: bitsS s 64 := by
  have h := bitsS_pre s j (64 - j)
  rwa [show j + (64 - j) = 64 by omega] at h
theorem bitsS_lt (s : Nat) {j : Nat} (hj : j < 64) (h : s.testBit j = true) : (bitsS s j).length < (bitsS s 64).length := by
  have h1 := (bitsS_prefix s (j := j + 1) (by omega)).length_le
  rw [bitsS_succ, dif_pos h] at h1
  simp at h1
  omega
theorem bitsS_len (s k : Nat) : (bitsS s k).length = (bitsK s k).length := by rw [← bitsS_map s k, List.length_map]
theorem bitsK_nodup (s k : Nat) : (bitsK s k).Nodup := by
  unfold bitsK
  exact List.Nodup.sublist List.filter_sublist List.nodup_range
theorem bitsK_mem {s q : Nat} (hs : s < 2 ^ 41) : q ∈ bitsK s 64 ↔ s.testBit q = true := by
  unfold bitsK
  rw [List.mem_filter, List.mem_range]
  refine ⟨fun h => h.2, fun h => ⟨?_, h⟩⟩
  rcases Nat.lt_or_ge q 41 with h1 | h1
  · omega
  · rw [Nat.testBit_lt_two_pow (Nat.lt_of_lt_of_le hs (Nat.pow_le_pow_right (by omega) h1))] at h; cases h
/-- a list that is a beginning of the owners of a set -/
def Coh (s : Nat) (pre : List {x : Nat // s.testBit x = true}) : Prop := pre.map (·.1) <+: bitsK s 64
theorem Coh.init {s : Nat} {pre : List {x : Nat // s.testBit x = true}} {x : {x : Nat // s.testBit x = true}} (h : Coh s (pre ++ [x])) : Coh s pre ∧ x.1 ∉ pre.map (·.1) := by
  unfold Coh at h
  rw [List.map_append] at h
  refine ⟨(List.prefix_append _ _).trans h, fun hx => ?_⟩
  have hn := (bitsK_nodup s 64).sublist h.sublist
  rw [List.nodup_append] at hn
  exact hn.2.2 _ hx _ (by simp) rfl
theorem Coh.pre {s : Nat} {pre : List {x : Nat // s.testBit x = true}} (h : pre <+: bitsS s 64) : Coh s pre := by
  unfold Coh
  rw [← bitsS_map]
  obtain ⟨t, ht⟩ := h
  rw [← ht, List.map_append]
  exact List.prefix_append _ _

set_option maxRecDepth 100000 in
set_option maxHeartbeats 2000000 in
theorem each1S (n : Nat) (hn : 1 ≤ n) (l bp : Nat) (s : Nat) (hs : s < 2 ^ 64) (w0 : World) (hE : EnvT w0)
    (J Jx : List {x : Nat // s.testBit x = true} → World → Prop) (W : World) (hW : Kept w0 W) (hl : W.cell? ⟨bp, 0, none⟩ = some (.int .u64 s))
    (hY : ∀ pre (x : {x : Nat // s.testBit x = true}) W1, J pre W1 → pre.length < (bitsS s 64).length → YieldAt Fence.wide (n - 1) Tryz.prog l #[.int .i64 (x.1 : Nat)] W1 fun e W' =>
      (e = .returned (.bool true) ∧ J (pre ++ [x]) W' ∧ KpB w0.heap.size W1 W') ∨ (e = .returned (.bool false) ∧ Jx (pre ++ [x]) W'))
    (h0 : J [] W) :
    CallsIn Fence.wide n Tryz.prog 200 #[.func (.yield l) #[] #[], .pointer (some ⟨bp, 0, none⟩)] W fun e W' => (∃ v, e = .returned v) ∧
      ((∃ ys, ys = bitsS s 64 ∧ J ys W') ∨ (∃ pre, pre <+: bitsS s 64 ∧ Jx pre W')) := by
  have HE := Lib.hid hE
  have HY := Lib.hid hY
  have Hl := Lib.hid hl
  have HS := Lib.hid hs
  have hbp := cell_lt hl
  clear hE hY hl hs
  have g1 : W.cell? ⟨bp, 0, none⟩ = some (.int .u64 s) := Hl.out
  have hz := hW.size
  refine callsIn_of_wp Tryz.func200 rfl trivial ?_ rfl
  simp only [Tryz.ntmps200, List.size_toArray, List.length_cons, List.length_nil, Nat.reduceAdd, Nat.reduceSub, Array.replicate_succ, Array.replicate_zero, List.push_toArray, List.append_toArray, List.nil_append, List.cons_append]
  gi_wp2
  clear g1
  gi_loopw [3] (fun v w1 => ∃ k r : Nat, k ≤ 64 ∧ v = .int .u64 r ∧ (∀ i, r.testBit i = (decide (k ≤ i) && s.testBit i)) ∧ r < 2 ^ 64 ∧ Kept w0 w1 ∧ J (bitsS s k) w1) (fun v _ => (intOf v).toNat)
  case atStart => exact ⟨0, s, by omega, by first | rfl | go_num, by simp, HS.out, hW, h0⟩
  case round =>
    obtain ⟨k, r, hk, rfl, hb, hr, hk1, hJ1⟩ := hrel
    by_cases hr0 : r = 0
    · subst hr0
      have hall : bitsS s 64 = bitsS s k := bitsS_same hk fun i h1 h2 => by
        have := hb i
        rw [Nat.zero_testBit] at this
        simpa [h1] using this.symm
      have HALL := Lib.hid hall
      clear hb hall
      gi_wp2
      go_end0
      exact ⟨⟨_, rfl⟩, .inl ⟨_, rfl, by rw [HALL.out]; exact hJ1⟩⟩
    · obtain ⟨m, hm, hj⟩ := low_spec r hr0 hr
      have htz := tz_any r hr0 (by simpa using hr) wr (HE.out.kept hk1)
      generalize Lib.ctz 64 r = j at hm hj htz
      obtain ⟨q1, q2, q3, q4⟩ := low_bits hm
      have hkj : k ≤ j := by
        have := hb j
        rw [q2] at this
        simp at this
        exact this.1
      have hsj : s.testBit j = true := by
        have := hb j
        rw [q2] at this
        simp at this
        exact this.2
      have hsame : bitsS s (j + 1) = bitsS s k ++ [⟨j, hsj⟩] := by
        rw [bitsS_succ, dif_pos hsj, bitsS_same hkj fun i h1 h2 => by
          have := hb i
          rw [q1 i h2] at this
          simpa [h1] using this.symm]
      have hlen : (bitsS s k).length < (bitsS s 64).length := by
        have := bitsS_lt s hj hsj
        have h2 := hsame
        rw [bitsS_succ, dif_pos hsj] at h2
        rw [← List.append_cancel_right h2]
        exact this
      have hsub : IntKind.u64.wrap ((r : Int) - 1) = ((r - 1 : Nat) : Int) := by
        rw [IntKind.wrap_u64]
        have : (2 : Nat) ^ 64 = 18446744073709551616 := by decide
        omega
      have hr6 : r < 18446744073709551616 := by simpa using hr
      have hr7 : r - 1 < 18446744073709551616 := by omega
      have hand : bits BinOp.and IntKind.u64 (r : Int) ((r - 1 : Nat) : Int) = ((r &&& (r - 1) : Nat) : Int) := bits_and_u64_nat r (r - 1) hr6 hr7
      clear hr6 hr7
      have hne : ((r : Int) == 0) = false := by simp; omega
      have HB := Lib.hid hb
      have HQ3 := Lib.hid q3
      have HQ4 := Lib.hid q4
      have HM := Lib.hid hm
      have HSA := Lib.hid hsame
      have HT := Lib.hid htz
      have HR := Lib.hid hr
      have HSJ := Lib.hid hsj
      obtain ⟨fn, tmps, assign, body, hy, hR⟩ := HY.out (bitsS s k) ⟨j, hsj⟩ wr hJ1 hlen
      have HRR := Lib.hid hR
      obtain ⟨r2, hr2⟩ : ∃ r2, r2 = r &&& (r - 1) := ⟨_, rfl⟩
      rw [← hr2] at hand q4
      have HR2 := Lib.hid hr2
      clear hb q3 hm hsame htz hr q1 q2 hlen hr2 hR
      obtain ⟨r1, hr1⟩ : ∃ r1 : Nat, r1 = r - 1 := ⟨_, rfl⟩
      rw [← hr1] at hand hsub
      clear hr1
      gi_wp2_with (refine ⟨trivial, (callsIn_wide.2 HT.out).mono ?_⟩; rintro e w1 ⟨rfl, rfl⟩)
      refine HRR.out.mono ?_
      rintro e W3 (⟨rfl, hJ3, hk3⟩ | ⟨rfl, hJx3⟩)
      · gi_wp2
        go_roundw
        case rel => exact ⟨j + 1, r2, by omega, by go_num, fun i => by
          rw [HR2.out, HQ3.out i, HB.out i]
          by_cases h1 : j < i
          · simp [h1, show k ≤ i by omega, show j + 1 ≤ i by omega]
          · simp [h1, show ¬ j + 1 ≤ i by omega], by have := HR.out; omega, hk1.below.trans hk3, by rw [HSA.out]; exact hJ3⟩
        case measure => simp [intOf]; omega
      · gi_wp2
        refine bodyPost_ret (results_none rfl _ _ _) rfl ?_
        exact ⟨⟨_, rfl⟩, .inr ⟨_, by rw [← HSA.out]; exact bitsS_prefix s (by omega), hJx3⟩⟩


theorem each_stopsS (n : Nat) (hn : 1 ≤ n) (bp : Nat) (s : Nat) (hs : s < 2 ^ 64) (w0 : World) (hE : EnvT w0) (w : World) (hw : Kept w0 w) (hl : w.cell? ⟨bp, 0, none⟩ = some (.int .u64 s)) :
    SeqStopsK Fence.wide n Tryz.prog 200 #[.pointer (some ⟨bp, 0, none⟩)] (fun x : {x : Nat // s.testBit x = true} => #[.int .i64 (x.1 : Int)]) (KpB w0.heap.size) (fun ys => ys = bitsS s 64) (fun pre => pre <+: bitsS s 64) (bitsS s 64).length w :=
  fun l J Jx W hW hJ hJx hY h0 => each1S n hn l bp s hs w0 hE J Jx W (hw.trans hW) (((show Kept w W from hW).cells _ _ (cell_lt hl)).trans hl) hY h0
end Go.Proofs.YtologmoanaccpaaGreatDoor
