/-
  sets of owners: their bits in order, and the iterator over them
  the search for a beast more: the numbers of gain
  what the iterator of a set yields, collected: list
  the owners whom a sight fits, and whether it fits one: ownersOf, Owners, Fits
-/
import Derived.Test.YtologmoanaccpaaGreatDoorBA
import Derived.Test.YtologmoanaccpaaGreatDoorBD
import Derived.Laws.Bits64b
import Derived.Lib.TrailingZeros
import Derived.Shelf.Spec.TrailingZeros
import Derived.RangeFuncKeeps
import Derived.RangeFuncNested
import Derived.RangeFuncBound
import Derived.RangeFuncCalls
import Derived.RangeFuncLeaves
import Derived.Shelf.Abstract
import Derived.Shelf.RegionOpen
import Derived.OwnWalkIn
import Derived.TacticsInMore
import Derived.LoopNIn
import Derived.LoopIn
import Derived.ChangeAlike
import Derived.Laws.BitsLemmas
namespace Go.Proofs.YtologmoanaccpaaGreatDoor
set_option linter.all false
open Go.RowKit Go.Shelf
attribute [local go_sem] Oper.semAt_some

/-- the library's table in its variable -/
def EnvT (w : World) : Prop := TabAt 0 Lib.deBruijn64tab w
theorem EnvT.kept {w w' : World} (h : EnvT w) (hk : Kept w w') : EnvT w' := fun j hj => (hk.cells _ _ (cell_lt (h j hj))).trans (h j hj)

set_option maxHeartbeats 1000000 in
theorem tz_core (x k idx : Nat) (w : World) (hx0 : ((x : Int) == 0) = false)
    (key : IntKind.u64.wrap (bits BinOp.and IntKind.u64 (x : Int) (IntKind.u64.wrap (-(x : Int))) * 285870213051353865) / 288230376151711744 = (idx : Int))
    (hi : idx < 64) (hk : k < 64) (hcell : w.cell? ⟨0, idx, none⟩ = some (.int .u8 k)) :
    Calls Tryz.prog 201 #[.int .u64 x] w fun e w' => e = .returned (.int .i64 k) ∧ w' = w := by
  go_enter Tryz.func201, Tryz.ntmps201
  go_wp2_with (simp only [key])
  go_ret
  exact ⟨rfl, rfl⟩
theorem tz_any (x : Nat) (h0 : x ≠ 0) (hx : x < 18446744073709551616) (w : World) (hE : EnvT w) :
    Calls Tryz.prog 201 #[.int .u64 x] w fun e w' => e = .returned (.int .i64 (Lib.ctz 64 x)) ∧ w' = w := by
  obtain ⟨hlow, hk⟩ := Lib.lowest_bit 64 x h0 hx
  obtain ⟨hi, htab⟩ := Lib.deBruijn64_at _ hk
  have hcell := hE _ hi
  rw [htab] at hcell
  exact tz_core x _ _ w (by simp; omega) (tz64_key x _ hx h0 hlow) hi hk hcell

theorem low_spec (r : Nat) (h0 : r ≠ 0) (h : r < 2 ^ 64) : ∃ m, r = 2 ^ (Lib.ctz 64 r + 1) * m + 2 ^ Lib.ctz 64 r ∧ Lib.ctz 64 r < 64 := by
  obtain ⟨m, h1, h2⟩ := Lib.ctzFrom_spec 64 r (by omega) h
  have e : Lib.ctz 64 r = Lib.ctzFrom 64 r := by unfold Lib.ctz; rw [if_neg h0]
  rw [e]
  refine ⟨m, ?_, h2⟩
  conv => lhs; rw [h1]
  rw [Nat.pow_succ, Nat.mul_add, Nat.mul_one, Nat.mul_assoc]
theorem low_bits {r j m : Nat} (h : r = 2 ^ (j + 1) * m + 2 ^ j) : (∀ i, i < j → r.testBit i = false) ∧ r.testBit j = true ∧ (∀ i, (r &&& (r - 1)).testBit i = (decide (j < i) && r.testBit i)) ∧ r &&& (r - 1) < r := by
  have hp : 0 < 2 ^ j := Nat.two_pow_pos j
  have hq : (2 : Nat) ^ (j + 1) = 2 * 2 ^ j := by rw [Nat.pow_succ]; omega
  have e1 : r - 1 = 2 ^ (j + 1) * m + (2 ^ j - 1) := by omega
  have b0 : ∀ i, r.testBit i = if i < j + 1 then decide (j = i) else m.testBit (i - (j + 1)) := fun i => by
    rw [h, Nat.testBit_two_pow_mul_add m (by omega), Nat.testBit_two_pow]
  have b1 : ∀ i, (r - 1).testBit i = if i < j + 1 then decide (i < j) else m.testBit (i - (j + 1)) := fun i => by
    rw [e1, Nat.testBit_two_pow_mul_add m (by omega), Nat.testBit_two_pow_sub_one]
  refine ⟨fun i hi => by rw [b0, if_pos (by omega)]; simp; omega, by rw [b0, if_pos (by omega)]; simp, fun i => ?_, ?_⟩
  · rw [Nat.testBit_and, b0, b1]
    by_cases h1 : i < j + 1
    · rw [if_pos h1, if_pos h1]
      have : decide (j < i) = false := by simp; omega
      rw [this]
      by_cases h2 : j = i
      · subst h2; simp
      · simp [h2]
    · rw [if_neg h1, if_neg h1]
      have : decide (j < i) = true := by simp; omega
      rw [this]; simp
  · have : r &&& (r - 1) ≤ r - 1 := Nat.and_le_right
    omega
def bitsK (s k : Nat) : List Nat := (List.range k).filter fun i => s.testBit i
theorem bitsK_zero (s : Nat) : bitsK s 0 = [] := rfl
theorem bitsK_succ (s k : Nat) : bitsK s (k + 1) = if s.testBit k = true then bitsK s k ++ [k] else bitsK s k := by
  unfold bitsK
  rw [List.range_succ, List.filter_append]
  by_cases h : s.testBit k = true
  · simp [h]
  · simp [h]
theorem bitsK_same {s k : Nat} : ∀ {j : Nat}, k ≤ j → (∀ i, k ≤ i → i < j → s.testBit i = false) → bitsK s j = bitsK s k
  | 0, hk, _ => by obtain rfl : k = 0 := by omega
                   rfl
  | j + 1, hk, h => by
    by_cases e : k = j + 1
    · rw [e]
    · rw [bitsK_succ, if_neg (by rw [h j (by omega) (by omega)]; simp)]
      exact bitsK_same (by omega) fun i h1 h2 => h i h1 (by omega)
theorem bitsK_len (s : Nat) : ∀ k, (bitsK s k).length ≤ k := fun k => by unfold bitsK; exact Nat.le_trans (List.length_filter_le _ _) (by simp)
theorem bitsK_prefix (s : Nat) {j : Nat} (hj : j ≤ 64) : bitsK s j <+: bitsK s 64 := by
  unfold bitsK
  have e : List.range 64 = List.range j ++ (List.range (64 - j)).map (j + ·) := by
    rw [← List.range_add]; congr 1; omega
  rw [e, List.filter_append]
  exact List.prefix_append _ _
theorem bitsK_lt (s : Nat) {j : Nat} (hj : j < 64) (h : s.testBit j = true) : (bitsK s j).length < (bitsK s 64).length := by
  have h1 := (bitsK_prefix s (j := j + 1) (by omega)).length_le
  rw [bitsK_succ, if_pos h] at h1
  simp at h1
  omega
theorem bitsK_nil {s : Nat} (h : s < 2 ^ 64) : bitsK s 64 = [] ↔ s = 0 := by
  constructor
  · intro e
    apply Nat.eq_of_testBit_eq
    intro i
    rw [Nat.zero_testBit]
    by_cases hi : i < 64
    · by_cases hb : s.testBit i = true
      · have : i ∈ bitsK s 64 := by unfold bitsK; simp [hi, hb]
        rw [e] at this; cases this
      · simpa using hb
    · exact Nat.testBit_lt_two_pow (Nat.lt_of_lt_of_le h (Nat.pow_le_pow_right (by omega) (by omega)))
  · rintro rfl
    unfold bitsK
    simp

theorem each_any (s : Nat) (w : World) :
    Calls Tryz.prog 160 #[.int .u64 s] w fun e w' => e = .returned (.func (.func 200) #[] #[.pointer (some ⟨w.heap.size, 0, none⟩)]) ∧ w' = w.alloc (.cells #[.int .u64 s] 117) := by
  have hmf : ∀ (fn : Fn) (first cap : Array Value) (w : World), (Instr.makeFunc fn first cap).run Tryz.prog w = .ok (.func fn first cap) w := fun _ _ _ _ => rfl
  go_enter Tryz.func160, Tryz.ntmps160
  go_wp2
  go_ret
  exact ⟨rfl, rfl⟩

def KpB (n0 : Nat) (W W' : World) : Prop := Below n0 W W'
theorem KpB.trans {n0 : Nat} {A B C : World} (h : KpB n0 A B) (k : KpB n0 B C) : KpB n0 A C := Below.trans h k
theorem KpB.put {n0 : Nat} {w : World} (hn : n0 ≤ w.heap.size) (W : World) (l : Nat) (o o' : Obj) (hl : w.heap.size ≤ l) (h : W.heap[l]? = some o) (hc : o.isCells = false) (hw : o.isWalk = false) : KpB n0 W (W.putObj l o') := belowK_b hn W l o o' hl h hc hw

set_option maxRecDepth 100000 in
set_option maxHeartbeats 2000000 in
theorem each1 (n : Nat) (hn : 1 ≤ n) (l bp : Nat) (s : Nat) (hs : s < 2 ^ 64) (w0 : World) (hE : EnvT w0)
    (J Jx : List Nat → World → Prop) (W : World) (hW : Kept w0 W) (hl : W.cell? ⟨bp, 0, none⟩ = some (.int .u64 s))
    (hY : ∀ pre x W1, J pre W1 → pre.length < (bitsK s 64).length → YieldAt Fence.wide (n - 1) Tryz.prog l #[.int .i64 (x : Nat)] W1 fun e W' =>
      (e = .returned (.bool true) ∧ J (pre ++ [x]) W' ∧ KpB w0.heap.size W1 W') ∨ (e = .returned (.bool false) ∧ Jx (pre ++ [x]) W'))
    (h0 : J [] W) :
    CallsIn Fence.wide n Tryz.prog 200 #[.func (.yield l) #[] #[], .pointer (some ⟨bp, 0, none⟩)] W fun e W' => (∃ v, e = .returned v) ∧
      ((∃ ys, ys = bitsK s 64 ∧ J ys W') ∨ (∃ pre, pre <+: bitsK s 64 ∧ Jx pre W')) := by
  have HE := Lib.hid hE
  have HY := Lib.hid hY
  have Hl := Lib.hid hl
  have HS := Lib.hid hs
  have hbp := cell_lt hl
  clear hE hY hl hs
  have g1 : W.cell? ⟨bp, 0, none⟩ = some (.int .u64 s) := Hl.out
  have hz := hW.size
  refine callsIn_of_wp Tryz.func200 rfl trivial ?_ rfl
  simp only [Tryz.ntmps200, List.size_toArray, List.length_cons, List.length_nil, Nat.reduceAdd, Nat.reduceSub, Array.replicate_succ, Array.replicate_zero, List.push_toArray, List.append_toArray, List.nil_append, List.cons_append]
  gi_wp2
  clear g1
  gi_loopw [3] (fun v w1 => ∃ k r : Nat, k ≤ 64 ∧ v = .int .u64 r ∧ (∀ i, r.testBit i = (decide (k ≤ i) && s.testBit i)) ∧ r < 2 ^ 64 ∧ Kept w0 w1 ∧ J (bitsK s k) w1) (fun v _ => (intOf v).toNat)
  case atStart => exact ⟨0, s, by omega, by first | rfl | go_num, by simp, HS.out, hW, h0⟩
  case round =>
    obtain ⟨k, r, hk, rfl, hb, hr, hk1, hJ1⟩ := hrel
    by_cases hr0 : r = 0
    · subst hr0
      have hall : bitsK s 64 = bitsK s k := bitsK_same hk fun i h1 h2 => by
        have := hb i
        rw [Nat.zero_testBit] at this
        simpa [h1] using this.symm
      have HALL := Lib.hid hall
      clear hb hall
      gi_wp2
      go_end0
      exact ⟨⟨_, rfl⟩, .inl ⟨_, rfl, by rw [HALL.out]; exact hJ1⟩⟩
    · obtain ⟨m, hm, hj⟩ := low_spec r hr0 hr
      have htz := tz_any r hr0 (by simpa using hr) wr (HE.out.kept hk1)
      generalize Lib.ctz 64 r = j at hm hj htz
      obtain ⟨q1, q2, q3, q4⟩ := low_bits hm
      have hkj : k ≤ j := by
        have := hb j
        rw [q2] at this
        simp at this
        exact this.1
      have hsj : s.testBit j = true := by
        have := hb j
        rw [q2] at this
        simp at this
        exact this.2
      have hsame : bitsK s (j + 1) = bitsK s k ++ [j] := by
        rw [bitsK_succ, if_pos hsj, bitsK_same hkj fun i h1 h2 => by
          have := hb i
          rw [q1 i h2] at this
          simpa [h1] using this.symm]
      have hlen : (bitsK s k).length < (bitsK s 64).length := by
        have := bitsK_lt s hj hsj
        have h2 := hsame
        rw [bitsK_succ, if_pos hsj] at h2
        rw [← List.append_cancel_right h2]
        exact this
      have hsub : IntKind.u64.wrap ((r : Int) - 1) = ((r - 1 : Nat) : Int) := by
        rw [IntKind.wrap_u64]
        have : (2 : Nat) ^ 64 = 18446744073709551616 := by decide
        omega
      have hr6 : r < 18446744073709551616 := by simpa using hr
      have hr7 : r - 1 < 18446744073709551616 := by omega
      have hand : bits BinOp.and IntKind.u64 (r : Int) ((r - 1 : Nat) : Int) = ((r &&& (r - 1) : Nat) : Int) := bits_and_u64_nat r (r - 1) hr6 hr7
      clear hr6 hr7
      have hne : ((r : Int) == 0) = false := by simp; omega
      have HB := Lib.hid hb
      have HQ3 := Lib.hid q3
      have HQ4 := Lib.hid q4
      have HM := Lib.hid hm
      have HSA := Lib.hid hsame
      have HT := Lib.hid htz
      have HR := Lib.hid hr
      have HSJ := Lib.hid hsj
      obtain ⟨fn, tmps, assign, body, hy, hR⟩ := HY.out (bitsK s k) j wr hJ1 hlen
      have HRR := Lib.hid hR
      obtain ⟨r2, hr2⟩ : ∃ r2, r2 = r &&& (r - 1) := ⟨_, rfl⟩
      rw [← hr2] at hand q4
      have HR2 := Lib.hid hr2
      clear hb q3 hm hsame htz hr hsj q1 q2 hlen hr2 hR
      obtain ⟨r1, hr1⟩ : ∃ r1 : Nat, r1 = r - 1 := ⟨_, rfl⟩
      rw [← hr1] at hand hsub
      clear hr1
      gi_wp2_with (refine ⟨trivial, (callsIn_wide.2 HT.out).mono ?_⟩; rintro e w1 ⟨rfl, rfl⟩)
      refine HRR.out.mono ?_
      rintro e W3 (⟨rfl, hJ3, hk3⟩ | ⟨rfl, hJx3⟩)
      · gi_wp2
        go_roundw
        case rel => exact ⟨j + 1, r2, by omega, by go_num, fun i => by
          rw [HR2.out, HQ3.out i, HB.out i]
          by_cases h1 : j < i
          · simp [h1, show k ≤ i by omega, show j + 1 ≤ i by omega]
          · simp [h1, show ¬ j + 1 ≤ i by omega], by have := HR.out; omega, hk1.below.trans hk3, by rw [HSA.out]; exact hJ3⟩
        case measure => simp [intOf]; omega
      · gi_wp2
        refine bodyPost_ret (results_none rfl _ _ _) rfl ?_
        exact ⟨⟨_, rfl⟩, .inr ⟨_, by rw [← HSA.out]; exact bitsK_prefix s (by omega), hJx3⟩⟩

theorem each_stops (n : Nat) (hn : 1 ≤ n) (bp : Nat) (s : Nat) (hs : s < 2 ^ 64) (w0 : World) (hE : EnvT w0) (w : World) (hw : Kept w0 w) (hl : w.cell? ⟨bp, 0, none⟩ = some (.int .u64 s)) :
    SeqStopsK Fence.wide n Tryz.prog 200 #[.pointer (some ⟨bp, 0, none⟩)] (fun x : Nat => #[.int .i64 (x : Int)]) (KpB w0.heap.size) (fun ys => ys = bitsK s 64) (fun pre => pre <+: bitsK s 64) (bitsK s 64).length w :=
  fun l J Jx W hW hJ hJx hY h0 => each1 n hn l bp s hs w0 hE J Jx W (hw.trans hW) (((show Kept w W from hW).cells _ _ (cell_lt hl)).trans hl) hY h0
end Go.Proofs.YtologmoanaccpaaGreatDoor

namespace Go.Proofs.YtologmoanaccpaaGreatDoor
set_option linter.all false

/-- each beast's owner is one whom it fits -/
def SkV (fits : List Nat) (ow : List Int) : Prop := ow.length = fits.length ∧ ∀ (b : Nat) (x : Int), ow[b]? = some x → x ≠ 0 → 1 ≤ x ∧ x ≤ 40 ∧ ∃ f, fits[b]? = some f ∧ f.testBit x.toNat = true
/-- what a search that succeeds has done -/
def SkT (o a : Nat) (ow ow' : List Int) : Prop :=
  (∀ q : Int, q ≠ 0 → q ≠ (o : Int) → ow'.count q = ow.count q) ∧ ow'.count (o : Int) = ow.count (o : Int) + 1 ∧
  (∀ (b : Nat) (x : Int), ow[b]? = some x → x ≠ 0 → (a.testBit x.toNat = true ∨ x = (o : Int)) → ow'[b]? = some x)
/-- what is known of those whom a search that fails has asked -/
def SkQ (fits : List Nat) (ow : List Int) (a' q : Nat) : Prop := 1 ≤ q ∧ q ≤ 40 ∧ ∀ (b f : Nat), fits[b]? = some f → f.testBit q = true → ∃ x, ow[b]? = some x ∧ x ≠ 0 ∧ a'.testBit x.toNat = true
def SkF (fits : List Nat) (o a a' : Nat) (ow : List Int) : Prop :=
  a'.testBit o = true ∧ (∀ q, a.testBit q = true → a'.testBit q = true) ∧ ∀ q, a'.testBit q = true → a.testBit q = false → SkQ fits ow a' q
theorem SkQ.mono {fits : List Nat} {ow : List Int} {a a' q : Nat} (h : SkQ fits ow a q) (hm : ∀ q, a.testBit q = true → a'.testBit q = true) : SkQ fits ow a' q :=
  ⟨h.1, h.2.1, fun b f h1 h2 => by obtain ⟨x, e1, e2, e3⟩ := h.2.2 b f h1 h2; exact ⟨x, e1, e2, hm _ e3⟩⟩
def mu (a : Nat) : Nat := ((List.range 41).filter fun i => !a.testBit i).length
theorem filter_lt {α : Type} {p q : α → Bool} : ∀ {l : List α}, (∀ x, p x = true → q x = true) → (∃ x ∈ l, q x = true ∧ p x = false) → (l.filter p).length < (l.filter q).length
  | [], _, h => by obtain ⟨x, hx, _⟩ := h; cases hx
  | y :: l, hpq, h => by
    have hle : (l.filter p).length ≤ (l.filter q).length := by
      clear h
      induction l with
      | nil => simp
      | cons z l ih =>
        by_cases h1 : p z = true
        · rw [List.filter_cons_of_pos h1, List.filter_cons_of_pos (hpq z h1)]; simp; exact ih
        · rw [List.filter_cons_of_neg h1]
          by_cases h2 : q z = true
          · rw [List.filter_cons_of_pos h2]; simp; omega
          · rw [List.filter_cons_of_neg h2]; exact ih
    obtain ⟨x, hx, h1, h2⟩ := h
    rcases List.mem_cons.1 hx with rfl | hx
    · rw [List.filter_cons_of_neg (by simp [h2]), List.filter_cons_of_pos h1]; simp; omega
    · have ih := filter_lt hpq ⟨x, hx, h1, h2⟩
      by_cases h3 : p y = true
      · rw [List.filter_cons_of_pos h3, List.filter_cons_of_pos (hpq y h3)]; simp; exact ih
      · rw [List.filter_cons_of_neg h3]
        by_cases h4 : q y = true
        · rw [List.filter_cons_of_pos h4]; simp; omega
        · rw [List.filter_cons_of_neg h4]; exact ih
theorem mu_lt {a a' o : Nat} (h : ∀ q, a.testBit q = true → a'.testBit q = true) (ho : o ≤ 40) (h1 : a.testBit o = false) (h2 : a'.testBit o = true) : mu a' < mu a :=
  filter_lt (fun x hx => by
    cases e : a.testBit x
    · rfl
    · rw [h x e] at hx; cases hx) ⟨o, by simp; omega, by rw [h1]; rfl, by rw [h2]; rfl⟩
theorem mu_le {a a' : Nat} (h : ∀ q, a.testBit q = true → a'.testBit q = true) : mu a' ≤ mu a := by
  by_cases hx : ∃ o, o ≤ 40 ∧ a.testBit o = false ∧ a'.testBit o = true
  · obtain ⟨o, h0, h1, h2⟩ := hx
    exact Nat.le_of_lt (mu_lt h h0 h1 h2)
  · have : mu a' = mu a := by
      unfold mu
      congr 1
      apply List.filter_congr
      intro x hx'
      cases e : a.testBit x
      · cases e' : a'.testBit x
        · rfl
        · exact absurd ⟨x, by simp at hx'; omega, e, e'⟩ hx
      · rw [h x e]
    omega
theorem bit_or {a o q : Nat} : (a ||| 2 ^ o).testBit q = (a.testBit q || decide (o = q)) := by rw [Nat.testBit_or, Nat.testBit_two_pow]
theorem set_at {ow : List Int} {k b : Nat} {o : Int} : (ow.set k o)[b]? = if k = b then (if b < ow.length then some o else none) else ow[b]? := by
  rw [List.getElem?_set]
  by_cases h : k = b
  · subst h; simp
  · simp [h]
/-- a beast that is nobody's is taken -/
theorem skt_free {fits : List Nat} {ow : List Int} {o a k f : Nat} (hv : SkV fits ow) (ho : 1 ≤ o) (ho2 : o ≤ 40) (hf : fits[k]? = some f) (hb : f.testBit o = true) (hk : ow[k]? = some 0) :
    SkV fits (ow.set k (o : Int)) ∧ SkT o a ow (ow.set k (o : Int)) := by
  have hkl := (List.getElem?_eq_some_iff.1 hk).1
  have hke : ow[k] = 0 := (List.getElem?_eq_some_iff.1 hk).2
  refine ⟨⟨by rw [List.length_set]; exact hv.1, fun b x hx hx0 => ?_⟩, fun q hq hqo => ?_, ?_, fun b x hx hx0 _ => ?_⟩
  · rw [set_at] at hx
    by_cases h : k = b
    · subst h
      rw [if_pos rfl, if_pos hkl] at hx
      cases hx
      exact ⟨by omega, by omega, f, hf, by rw [Int.toNat_natCast]; exact hb⟩
    · rw [if_neg h] at hx
      exact hv.2 b x hx hx0
  · rw [List.count_set hkl, hke]
    have e1 : ((0 : Int) == q) = false := by simp; omega
    have e2 : ((o : Int) == q) = false := by simp; omega
    simp [e1, e2]
  · rw [List.count_set hkl, hke]
    have e1 : ((0 : Int) == (o : Int)) = false := by simp; omega
    simp [e1]
  · rw [set_at]
    by_cases h : k = b
    · subst h
      rw [hk] at hx
      cases hx
      exact absurd rfl hx0
    · rw [if_neg h]; exact hx
/-- a beast is taken from an owner who has found another -/
theorem skt_swap {fits : List Nat} {ow ow1 : List Int} {o a a1 k f h : Nat} (hv : SkV fits ow) (hv1 : SkV fits ow1) (ho : 1 ≤ o) (ho2 : o ≤ 40) (hf : fits[k]? = some f) (hb : f.testBit o = true) (hk : ow[k]? = some (h : Int)) (hh : 1 ≤ h)
    (ha : a1.testBit h = false) (hm : ∀ q, a.testBit q = true → a1.testBit q = true) (hao : a1.testBit o = true) (ht : SkT h a1 ow ow1) :
    SkV fits (ow1.set k (o : Int)) ∧ SkT o a ow (ow1.set k (o : Int)) := by
  obtain ⟨t1, t2, t3⟩ := ht
  have hoh : o ≠ h := fun e => by subst e; rw [hao] at ha; cases ha
  have hk1 : ow1[k]? = some (h : Int) := t3 k _ hk (by omega) (.inr rfl)
  have hkl := (List.getElem?_eq_some_iff.1 hk1).1
  have hke : ow1[k] = (h : Int) := (List.getElem?_eq_some_iff.1 hk1).2
  refine ⟨⟨by rw [List.length_set]; exact hv1.1, fun b x hx hx0 => ?_⟩, fun q hq hqo => ?_, ?_, fun b x hx hx0 hor => ?_⟩
  · rw [set_at] at hx
    by_cases h' : k = b
    · subst h'
      rw [if_pos rfl, if_pos hkl] at hx
      cases hx
      exact ⟨by omega, by omega, f, hf, by rw [Int.toNat_natCast]; exact hb⟩
    · rw [if_neg h'] at hx
      exact hv1.2 b x hx hx0
  · rw [List.count_set hkl, hke]
    have e2 : ((o : Int) == q) = false := by simp; omega
    by_cases hqh : q = (h : Int)
    · subst hqh
      have : 0 < ow1.count (h : Int) := by omega
      simp [e2]
      omega
    · have e1 : ((h : Int) == q) = false := by simp; omega
      simp [e1, e2]
      exact t1 q hq hqh
  · rw [List.count_set hkl, hke]
    have e1 : ((h : Int) == (o : Int)) = false := by simp; omega
    simp [e1]
    exact t1 _ (by omega) (by omega)
  · have hb1 : ow1[b]? = some x := by
      refine t3 b x hx hx0 (.inl ?_)
      rcases hor with h1 | rfl
      · exact hm _ h1
      · rw [Int.toNat_natCast]; exact hao
    rw [set_at]
    by_cases h' : k = b
    · subst h'
      rw [hk] at hx
      cases hx
      rcases hor with h1 | h1
      · rw [Int.toNat_natCast] at h1
        rw [hm _ h1] at ha; cases ha
      · omega
    · rw [if_neg h']; exact hb1
end Go.Proofs.YtologmoanaccpaaGreatDoor

namespace Go.Proofs.YtologmoanaccpaaGreatDoor
set_option linter.all false
open Go.RowKit Go.Shelf
attribute [local go_sem] Oper.semAt_some

theorem own_row {w : World} {base n size : Nat} {e : TypeId} {v : Value} {xs : List Value} (h : w.ownsRow base e size v n xs) : ∀ j, v.ownBlock = some j → base ≤ j := fun j ej => by
  rcases h.2 with ⟨rfl, _⟩ | ⟨g, cap, cur, rfl, hb, _, _⟩
  · simp [Value.ownBlock] at ej
  · obtain rfl : g = j := by simpa [Value.ownBlock] using ej
    exact hb
theorem appendedB {W w1 : World} {n0 n2 B : Nat} {t e : TypeId} {size : Nat} {v v' : Value} {k m : Nat} {xs ys : List Value} {tmp : Obj}
    (hv : Boxed W B t v) (hte : t ≠ e) (hrow : W.ownsRow n2 e size v k xs) (hn0 : n0 ≤ B) (hB : B < n2)
    (hown' : w1.ownsRow n2 e size v' m ys) (hgrow : (W.alloc tmp).grownBy w1 v.ownBlock) :
    Boxed w1 B t v ∧ Boxed (w1.setCell ⟨B, 0, none⟩ v') B t v' ∧ (w1.setCell ⟨B, 0, none⟩ v').ownsRow n2 e size v' m ys ∧ KpB n0 W (w1.setCell ⟨B, 0, none⟩ v') ∧ KeepsOthers W (w1.setCell ⟨B, 0, none⟩ v') := by
  have hob : ∀ j, v.ownBlock = some j → n2 ≤ j := fun j ej => own_row hrow j ej
  have hBl := hv.lt
  have hv1 : Boxed w1 B t v := (hv.alloc tmp).kept hgrow (hv.not_row hte hrow)
  have hko : KeepsOthers W (w1.setCell ⟨B, 0, none⟩ v') := by
    refine ((KeepsOthers.alloc W tmp).trans (KeepsOthers.of_grownBy hgrow fun j o ej hj => ?_)).trans (KeepsOthers.setCell _ _ _)
    rcases (hrow.alloc tmp).2 with ⟨rfl, _⟩ | ⟨g, cap, cur, rfl, _, hgb, _⟩
    · simp [Value.ownBlock] at ej
    · obtain rfl : g = j := by simpa [Value.ownBlock] using ej
      rw [hgb] at hj; cases hj; rfl
  refine ⟨hv1, hv1.set v', hown'.kept (grownBy_setCell' w1 B v') (.inr (hv1.not_row hte hown').symm), ?_, hko⟩
  exact (((Below.refl n0 W).alloc (by omega) tmp).grown hgrow (by simp; omega) (fun j ej => by have := hob j ej; omega)).setCell (p := ⟨B, 0, none⟩) hn0 v'

theorem Kept.putDeferred {w V : World} {D : Nat} {o o' : Obj} (h : Kept w V) (hD : w.heap.size ≤ D) (hK : V.heap[D]? = some o') (hc : o'.isCells = false) (hw : o'.isWalk = false) : Kept w (V.putObj D o) :=
  h.below.trans (belowK_b (w := w) (Nat.le_refl _) V D _ _ hD hK hc hw)
theorem own_le {w : World} {b b' : Nat} {e : TypeId} {s : Nat} {v : Value} {n : Nat} {ys : List Value} (h : w.ownsRow b e s v n ys) (hb : b' ≤ b) : w.ownsRow b' e s v n ys := by
  refine ⟨h.1, ?_⟩
  rcases h.2 with h1 | ⟨g, cap, cur, h1, h2, h3⟩
  · exact .inl h1
  · exact .inr ⟨g, cap, cur, h1, Nat.le_trans hb h2, h3⟩
theorem info3 : (Tryz.prog.info? 3).map (fun i => (i.zero, i.size, i.bytes)) = some (some (.int .i64 0), 1, 8) := by kernel_rfl
def nC (x : Nat) : List Value := [.int .i64 (x : Int)]
theorem nC_len (x : Nat) : (nC x).length = 1 := rfl
def SI (h B n2 : Nat) (w : World) (pre : List Nat) (W : World) : Prop := (∃ v, Boxed W B 43 v ∧ W.ownsRow n2 3 1 v pre.length (pre.flatMap nC) ∧ True) ∧ Below h w W
theorem SI.own (h B n2 : Nat) (w : World) (B' : Nat) (hB : h ≤ B') (hw : h ≤ w.heap.size) : OwnFrom B' (SI h B n2 w) :=
  OwnFrom.and (Own.from (holdsRow_own n2 B 43 3 1 (fun pre : List Nat => pre.length) (fun pre : List Nat => pre.flatMap nC) (fun _ _ => True)) _) (ownFrom_below hw hB)
def SA (B bp : Nat) (x : Nat) (a' : Act) (W : World) : Prop :=
  a' = { tmps := #[.slice none 0 0, .func (.func 200) #[] #[.pointer (some ⟨bp, 0, none⟩)], .pointer (some ⟨B, 0, none⟩), undef, .slice none 0 0, .int .i64 (x : Int), .func (.func 200) #[] #[.pointer (some ⟨bp, 0, none⟩)], .int .i64 (x : Int), undef, undef, undef, undef, undef], defers := [] }
theorem SA.own (B bp : Nat) (x : Nat) (a' : Act) (B' : Nat) : OwnFrom B' (fun (_ : Unit) W => SA B bp x a' W) := by
  rintro s W W' row h hg hr
  exact h
def NatsRes (w : World) (xs : List Nat) (e : Ending) (w' : World) : Prop :=
  ∃ v, e = .returned v ∧ w'.ownsRow w.heap.size 3 1 v xs.length (xs.flatMap nC) ∧ Kept w w'

set_option maxRecDepth 100000 in
set_option maxHeartbeats 2000000 in
theorem appendSeq_any (bp s : Nat) (hs : s < 2 ^ 64) (w : World) (hE : EnvT w) (hl : w.cell? ⟨bp, 0, none⟩ = some (.int .u64 s)) :
    Calls Tryz.prog 199 #[.slice none 0 0, .func (.func 200) #[] #[.pointer (some ⟨bp, 0, none⟩)]] w (NatsRes w (bitsK s 64)) := by
  have hbp := cell_lt hl
  obtain ⟨W2, hW2⟩ : ∃ W2, W2 = w.alloc (.cells #[.slice none 0 0] 43) := ⟨_, rfl⟩
  have kW : Kept w W2 := by rw [hW2]; exact (Kept.refl _).alloc _
  have zB : W2.heap.size = w.heap.size + 1 := by rw [hW2]; simp
  have r11 : Boxed W2 w.heap.size 43 (.slice none 0 0) := by rw [hW2]; exact Boxed.new w 43 (.slice none 0 0)
  have hI0 : SI w.heap.size w.heap.size (w.heap.size + 1) w [] W2 := ⟨⟨_, r11, World.ownsRow_nil _ _ _ _, trivial⟩, kW.below⟩
  have hseq := each_stops 7 (by omega) bp s hs w hE W2 kW ((kW.cells _ _ hbp).trans hl)
  have HK := Lib.hid kW
  have HW2 := Lib.hid hW2
  have ZB := Lib.hid zB
  have HLN : RowKit.Hid ((bitsK s 64).length ≤ 64) := Lib.hid (bitsK_len s 64)
  clear hs hl hE hW2 kW zB r11
  refine (callsIn_wide (n := 8)).1 ?_
  refine callsIn_of_wp_marks Tryz.func199 rfl trivial ?_ rfl
  simp only [Tryz.ntmps199, List.size_toArray, List.length_cons, List.length_nil, Nat.reduceAdd, Nat.reduceSub, Array.replicate_succ, Array.replicate_zero, List.push_toArray, List.append_toArray, List.nil_append, List.cons_append]
  gi_wp2_with fail
  rw [← HW2.out]
  refine wpIn_rangeFunc_ownH rfl (by omega) (gf := 200) (lb := #[.pointer (some ⟨bp, 0, none⟩)]) rfl trivial (enters_of Tryz.func200 (by kernel_rfl) rfl)
    hseq KpB.trans (KpB.put HK.out.size) (Below.refl _ _) (fun _ => rfl)
    (SI w.heap.size w.heap.size (w.heap.size + 1) w) (fun _ _ _ => False) (SI.own _ _ _ _ _ HK.out.size (Nat.le_refl _)) (fun _ _ _ _ _ hs _ _ => hs) hI0 (SA w.heap.size bp) (fun x a' => SA.own _ _ _ _ _) ?assign ?body ?done ?stop
  case assign =>
    intro l pre x V K hi hK
    gi_wp2
    exact hK _ _ (KeepsFrom.refl _ _) (Below.refl _ _) hi rfl
  case body =>
    rintro l pre x a' V hl2 - hi rfl hlt2
    obtain ⟨i0, hnf, hz0, hz1, hz2⟩ := info_parts info3
    have hlen : (bitsK s 64).length ≤ 64 := HLN.out
    obtain ⟨⟨v, hv, hrow, _⟩, hkV⟩ := hi
    have hc := hv.cell
    have hBV := hv.lt
    have HKV := Lib.hid (show Kept w V from hkV)
    have hszw := HKV.out.size
    have HA1 : RowKit.Hid (∀ j u, (nC x)[j]? = some u → (V.alloc (.cells (nC x).toArray 3)).cell? ((⟨V.heap.size, 0, none⟩ : Addr).add j) = some u) := Lib.hid (fun j u hu => by
      have e : (⟨V.heap.size, 0, none⟩ : Addr).add j = ⟨V.heap.size, j, none⟩ := by simp [Addr.add]; try omega
      rw [e]
      exact (RowC.new V (nC x) 3 j u hu).1)
    have HA2 : RowKit.Hid (∀ u ∈ nC x, u.oneCell' = true) := Lib.hid (fun u hu => by simp [nC] at hu; subst hu; rfl)
    have HA3 : RowKit.Hid (pre.length + 1 ≤ maxLen) := Lib.hid (by unfold maxLen; omega)
    have HA4 : RowKit.Hid ((pre.length + 1) * 8 ≤ 140737488355328) := Lib.hid (by omega)
    have HA5 : RowKit.Hid (w.heap.size + 1 ≤ (V.alloc (.cells (nC x).toArray 3)).heap.size) := Lib.hid (by simp; omega)
    have HV := Lib.hid hv
    have HR := Lib.hid hrow
    have HR2 := Lib.hid (hrow.alloc (.cells (nC x).toArray 3))
    clear hI0 hseq hrow hkV
    gi_wp2_with (gi_at_builtin; refine wpListIn_append_own _ rfl _ _ 43 rfl (w.heap.size + 1) 3 i0 (.int .i64 0) 1 8 Tryz.underlying43 hnf hz0 hz1 hz2 rfl (by decide) _ _ _ rfl HR2.out ⟨V.heap.size, 0, none⟩ 1 1 (nC x) rfl rfl HA1.out HA2.out HA3.out HA4.out HA5.out ?_; intro v' w4 hown' hgrow _; obtain ⟨g', cap', rfl⟩ := ownsRow_succ hown'; obtain ⟨hv1, hv2, hr2, hk2, ho2⟩ := appendedB (n0 := w.heap.size) HV.out (by decide) HR.out (Nat.le_refl _) (by omega) hown' hgrow; have hc1 := hv1.cell; have hf1 := hv1.frozen)
    exact ⟨ho2.from _, hk2, ⟨_, hv2, by rw [List.length_append, List.flatMap_append]; simpa using hr2, trivial⟩, HKV.out.below.trans hk2⟩
  case done =>
    rintro D ys V hD rfl ⟨⟨v, hv, hrow, _⟩, hkV⟩ hK
    have hc := hv.cell
    gi_wp2
    refine ⟨by simp, .inl ⟨_, _, rfl, run_takeDeferred hK, ?_⟩⟩
    have hr2 := ownsRow_putObj hrow (.deferred none) hK rfl
    exact ⟨_, results_tmp rfl _ _ _, v, rfl, own_le hr2 (by omega), (show Kept w V from hkV).putDeferred (by have := HK.out.size; omega) hK rfl rfl⟩
  case stop =>
    rintro D c pre V hD hp h _
    exact h.elim

theorem list_any (s : Nat) (hs : s < 2 ^ 64) (w : World) (hE : EnvT w) : Calls Tryz.prog 96 #[.int .u64 s] w (NatsRes w (bitsK s 64)) := by
  obtain ⟨W2, hW2⟩ : ∃ W2, W2 = w.alloc (.cells #[.int .u64 s] 117) := ⟨_, rfl⟩
  have k2 : Kept w W2 := by rw [hW2]; exact (Kept.refl _).alloc _
  have y1 : W2.cell? ⟨w.heap.size, 0, none⟩ = some (.int .u64 s) := by rw [hW2]; exact (RowC.new w [.int .u64 s] 117 0 _ rfl).1
  have HA := Lib.hid (appendSeq_any w.heap.size s hs W2 (hE.kept k2) y1)
  have HW2 := Lib.hid hW2
  clear hW2
  have HC : RowKit.Hid (Calls Tryz.prog 159 #[.func (.func 200) #[] #[.pointer (some ⟨w.heap.size, 0, none⟩)]] W2 (NatsRes W2 (bitsK s 64))) := Lib.hid (by
    clear y1 k2
    go_enter Tryz.func159, Tryz.ntmps159
    go_wp2_with fail
    refine HA.out.mono ?_
    rintro e w1 ⟨v, rfl, h3, h4⟩
    go_wp2
    go_ret
    exact ⟨v, rfl, h3, h4⟩)
  have HK := Lib.hid k2
  clear k2 y1 HA
  go_enter Tryz.func96, Tryz.ntmps96
  go_wp2_with fail
  refine (each_any s w).mono ?_
  rintro e w1 ⟨rfl, rfl⟩
  rw [← HW2.out]
  go_wp2_with fail
  refine HC.out.mono ?_
  rintro e w1 ⟨v, rfl, h3, h4⟩
  go_wp2
  go_ret
  exact ⟨v, rfl, own_le h3 HK.out.size, HK.out.trans h4⟩
end Go.Proofs.YtologmoanaccpaaGreatDoor

namespace Go.Proofs.YtologmoanaccpaaGreatDoor
set_option linter.all false
open Go.RowKit Go.Shelf

def sgL (s : Sg) : List Value := [.int .u8 s.s0, .int .u8 s.s1, .int .u8 s.s2, .int .u8 s.s3, .int .u8 s.s4, .int .u8 s.s5]
def owE (ms : List Mk) (fs : List Fd) (day : Int) (s : Sg) : Int := fstE [smE ms fs, errB (inB day 0 100000), errB (sightB s)]
def ftE (ms : List Mk) (fs : List Fd) (day : Int) (s : Sg) (owner : Int) : Int := fstE [smE ms fs, errB (inB day 0 100000), errB (inB owner 1 40), errB (sightB s)]
theorem fstE_three {a b c : Int} (h : fstE [a, b, c] = 0) : a = 0 ∧ b = 0 ∧ c = 0 := by
  have := fstE_four (a := 0) (b := a) (c := b) (d := c) (by unfold fstE; rw [if_pos rfl]; exact h)
  exact ⟨this.2.1, this.2.2.1, this.2.2.2⟩
def OwP (w : World) (ms : List Mk) (fs : List Fd) (day : Int) (s : Sg) (e : Ending) (w' : World) : Prop :=
  ((owE ms fs day s ≠ 0 ∧ e = .returned (.tuple #[.int .u64 0, .int .i64 (owE ms fs day s)])) ∨
   (owE ms fs day s = 0 ∧ ownD ms fs day s < 2 ^ 64 ∧ e = .returned (.tuple #[.int .u64 ((ownD ms fs day s : Nat) : Int), .int .i64 0]))) ∧ Kept w w'
def FtP (w : World) (ms : List Mk) (fs : List Fd) (day : Int) (s : Sg) (owner : Int) (e : Ending) (w' : World) : Prop :=
  ((ftE ms fs day s owner ≠ 0 ∧ e = .returned (.tuple #[.bool false, .int .i64 (ftE ms fs day s owner)])) ∨
   (ftE ms fs day s owner = 0 ∧ e = .returned (.tuple #[.bool ((ownD ms fs day s).testBit owner.toNat), .int .i64 0]))) ∧ Kept w w'

set_option maxRecDepth 100000 in
set_option maxHeartbeats 6400000 in
theorem ownersOf_any (A B : Option Addr) (n c m d : Nat) (ms : List Mk) (fs : List Fd) (day : Int) (s : Sg) (w : World) (hs : SmA w A n c ms B m d fs) (hso : s.ok) :
    Calls Tryz.prog 95 #[.agg #[.slice A n c, .slice B m d], .int .i64 day, .agg #[.int .u8 s.s0, .int .u8 s.s1, .int .u8 s.s2, .int .u8 s.s3, .int .u8 s.s4, .int .u8 s.s5]] w (OwP w ms fs day s) := by
  obtain ⟨W0, hW0⟩ : ∃ W0, W0 = (w.alloc (.cells #[.slice A n c, .slice B m d] 25)).alloc (.cells #[.int .u8 s.s0, .int .u8 s.s1, .int .u8 s.s2, .int .u8 s.s3, .int .u8 s.s4, .int .u8 s.s5] 39) := ⟨_, rfl⟩
  have K0 : RowKit.Hid (Kept w W0) := Lib.hid (by rw [hW0]; exact ((Kept.refl _).alloc _).alloc _)
  have R0 : RowKit.Hid (RowC W0 w.heap.size [.slice A n c, .slice B m d]) := Lib.hid (by rw [hW0]; exact (RowC.new w [.slice A n c, .slice B m d] 25).kept ((Kept.refl _).alloc _))
  have R1 : RowKit.Hid (RowC W0 (w.heap.size + 1) (sgL s)) := Lib.hid (by rw [hW0]; have h := RowC.new (w.alloc (.cells #[.slice A n c, .slice B m d] 25)) (sgL s) 39; rwa [World.size_alloc] at h)
  have HW := Lib.hid hW0
  have HS := Lib.hid (hs.kept K0.out)
  have HSO := Lib.hid hso
  obtain ⟨E1, hE1⟩ : ∃ E, smE ms fs = E := ⟨_, rfl⟩
  obtain ⟨b2, hb2⟩ : ∃ b, inB day 0 100000 = b := ⟨_, rfl⟩
  obtain ⟨b4, hb4⟩ : ∃ b, sightB s = b := ⟨_, rfl⟩
  obtain ⟨v2, hv2⟩ : ∃ v, errB b2 = v := ⟨_, rfl⟩
  obtain ⟨v4, hv4⟩ : ∃ v, errB b4 = v := ⟨_, rfl⟩
  obtain ⟨E, hE⟩ : ∃ E, fstE [E1, v2, v4] = E := ⟨_, rfl⟩
  have HE : RowKit.Hid (owE ms fs day s = E) := Lib.hid (by unfold owE; rw [hE1, hb2, hb4, hv2, hv4, hE])
  have H14 : RowKit.Hid (∀ W, Kept W0 W → Calls Tryz.prog 25 #[.agg #[.slice A n c, .slice B m d]] W fun e w' => e = .returned (.int .i64 E1) ∧ Kept W w') := Lib.hid (fun W hW => by rw [← hE1]; exact checkSmits_any A B n c m d ms fs W (HS.out.kept hW))
  have H16 : RowKit.Hid (∀ W, Calls Tryz.prog 75 #[.int .i64 day] W fun e w' => e = .returned (.bool b2) ∧ W = w') := Lib.hid (fun W => by rw [← hb2]; exact isDay_any _ W)
  have H25 : RowKit.Hid (∀ W, Calls Tryz.prog 89 #[.agg #[.int .u8 s.s0, .int .u8 s.s1, .int .u8 s.s2, .int .u8 s.s3, .int .u8 s.s4, .int .u8 s.s5]] W fun e w' => e = .returned (.bool b4) ∧ Kept W w') := Lib.hid (fun W => by rw [← hb4]; exact isSight_any s HSO.out W)
  have HV2 : RowKit.Hid (∀ W, Calls Tryz.prog 74 #[.bool b2] W fun e w' => e = .returned (.int .i64 v2) ∧ W = w') := Lib.hid (fun W => by rw [← hv2]; exact valid_any b2 W)
  have HV4 : RowKit.Hid (∀ W, Calls Tryz.prog 74 #[.bool b4] W fun e w' => e = .returned (.int .i64 v4) ∧ W = w') := Lib.hid (fun W => by rw [← hv4]; exact valid_any b4 W)
  have H13 : RowKit.Hid (∀ W g, RowC W g [.int .i64 E1, .int .i64 v2, .int .i64 v4] → Calls Tryz.prog 73 #[.slice (some ⟨g, 0, none⟩) 3 3] W fun e w' => e = .returned (.int .i64 E) ∧ W = w') := Lib.hid (fun W g hr => by
    rw [← hE]
    exact firstError_any g 0 3 3 [E1, v2, v4] rfl (by omega) W (intsR hr))
  have HE1 := Lib.hid hE1
  have HB2 := Lib.hid hb2
  have HB4 := Lib.hid hb4
  have HV4' := Lib.hid hv4
  have HEE := Lib.hid hE
  clear hW0 hs hso hE1 hb2 hb4 hE hv2 hv4
  have a0 := (R0.out 0 _ rfl).1
  have a1 := (R0.out 1 _ rfl).1
  go_enter Tryz.func95, Tryz.ntmps95
  go_upto_region 1 with (fail)
  rw [← HW.out]
  clear a0 a1
  refine wp_region_held_drew (S := fun W' => W'.cell? ⟨w.heap.size, 0, none⟩ = some (.slice A n c) ∧ W'.cell? ⟨w.heap.size, 1, none⟩ = some (.slice B m d) ∧ W'.cell? ⟨w.heap.size + 1, 0, none⟩ = some (.int .u8 s.s0) ∧ W'.cell? ⟨w.heap.size + 1, 1, none⟩ = some (.int .u8 s.s1) ∧ W'.cell? ⟨w.heap.size + 1, 2, none⟩ = some (.int .u8 s.s2) ∧ W'.cell? ⟨w.heap.size + 1, 3, none⟩ = some (.int .u8 s.s3) ∧ W'.cell? ⟨w.heap.size + 1, 4, none⟩ = some (.int .u8 s.s4) ∧ W'.cell? ⟨w.heap.size + 1, 5, none⟩ = some (.int .u8 s.s5)) (by kernel_rfl) (⟨(R0.out 0 _ rfl).1, (R0.out 1 _ rfl).1, (R1.out 0 _ rfl).1, (R1.out 1 _ rfl).1, (R1.out 2 _ rfl).1, (R1.out 3 _ rfl).1, (R1.out 4 _ rfl).1, (R1.out 5 _ rfl).1⟩) (fun hHeld => ?_)
  refine take_at (i := 0) (d := some 9) (v := ?_) rfl rfl (by kernel_rfl) (by kernel_rfl) (by kernel_rfl) (fun _ _ _ h => h) (Or.inl ⟨by rfl, ?_⟩) hHeld ?_
  rotate_left
  · intro w hSw
    try dsimp only at hSw
    go_simp
    try (with_reducible rfl)
  try simp only [Act.put, List.setIfInBounds_toArray, List.set_cons_zero, List.set_cons_succ]
  refine take_at (i := 2) (d := some 11) (v := ?_) rfl rfl (by kernel_rfl) (by kernel_rfl) (by kernel_rfl) (fun _ _ _ h => h) (Or.inl ⟨by rfl, ?_⟩) hHeld ?_
  rotate_left
  · intro w hSw
    try dsimp only at hSw
    go_simp
    try (with_reducible rfl)
  try simp only [Act.put, List.setIfInBounds_toArray, List.set_cons_zero, List.set_cons_succ]
  refine take_at (i := 5) (d := some 14) (v := ?_) rfl rfl (by kernel_rfl) (by kernel_rfl) (by kernel_rfl) (fun _ _ _ h => h) (Or.inl ⟨by rfl, ?_⟩) hHeld ?_
  rotate_left
  · intro w hSw
    try dsimp only at hSw
    go_simp
    try (with_reducible rfl)
  try simp only [Act.put, List.setIfInBounds_toArray, List.set_cons_zero, List.set_cons_succ]
  refine wpAnyH_ready (rs := [1]) (by kernel_rfl) (by simp) ?_
  refine AllReadyH.cons rfl (fun K hK => ?_) AllReadyH.nil
  rw [if_pos (by rfl)]
  go_simp
  refine (H14.out _ (Kept.refl W0).drew).mono ?_
  rintro e w1 ⟨rfl, hk1⟩
  have K1 := Lib.hid (((Kept.refl W0).drew).trans hk1)
  clear hk1
  go_wp2_with fail
  refine hK.out _ _ (⟨(R0.out.kept K1.out 0 _ rfl).1, (R0.out.kept K1.out 1 _ rfl).1, (R1.out.kept K1.out 0 _ rfl).1, (R1.out.kept K1.out 1 _ rfl).1, (R1.out.kept K1.out 2 _ rfl).1, (R1.out.kept K1.out 3 _ rfl).1, (R1.out.kept K1.out 4 _ rfl).1, (R1.out.kept K1.out 5 _ rfl).1⟩) (fun hHeld => ?_)
  clear hK K
  try simp only [Act.put, List.setIfInBounds_toArray, List.set_cons_zero, List.set_cons_succ]
  refine wpAnyH_ready (rs := [3]) (by kernel_rfl) (by simp) ?_
  refine AllReadyH.cons rfl (fun K hK => ?_) AllReadyH.nil
  rw [if_pos (by rfl)]
  go_simp
  refine (H16.out _).mono ?_
  rintro e w2 ⟨rfl, rfl⟩
  go_wp2_with fail
  refine hK.out _ _ (⟨(R0.out.kept K1.out 0 _ rfl).1, (R0.out.kept K1.out 1 _ rfl).1, (R1.out.kept K1.out 0 _ rfl).1, (R1.out.kept K1.out 1 _ rfl).1, (R1.out.kept K1.out 2 _ rfl).1, (R1.out.kept K1.out 3 _ rfl).1, (R1.out.kept K1.out 4 _ rfl).1, (R1.out.kept K1.out 5 _ rfl).1⟩) (fun hHeld => ?_)
  clear hK K
  try simp only [Act.put, List.setIfInBounds_toArray, List.set_cons_zero, List.set_cons_succ]
  refine wpAnyH_ready (rs := [4]) (by kernel_rfl) (by simp) ?_
  refine AllReadyH.cons rfl (fun K hK => ?_) AllReadyH.nil
  rw [if_pos (by rfl)]
  go_simp
  refine (HV2.out _).mono ?_
  rintro e w2 ⟨rfl, rfl⟩
  go_wp2_with fail
  refine hK.out _ _ (⟨(R0.out.kept K1.out 0 _ rfl).1, (R0.out.kept K1.out 1 _ rfl).1, (R1.out.kept K1.out 0 _ rfl).1, (R1.out.kept K1.out 1 _ rfl).1, (R1.out.kept K1.out 2 _ rfl).1, (R1.out.kept K1.out 3 _ rfl).1, (R1.out.kept K1.out 4 _ rfl).1, (R1.out.kept K1.out 5 _ rfl).1⟩) (fun hHeld => ?_)
  clear hK K
  try simp only [Act.put, List.setIfInBounds_toArray, List.set_cons_zero, List.set_cons_succ]
  refine wpAnyH_ready (rs := [6]) (by kernel_rfl) (by simp) ?_
  refine AllReadyH.cons rfl (fun K hK => ?_) AllReadyH.nil
  rw [if_pos (by rfl)]
  go_simp
  refine (H25.out _).mono ?_
  rintro e w2 ⟨rfl, hk2⟩
  have K2 := Lib.hid (K1.out.trans hk2)
  clear hk2
  go_wp2_with fail
  refine hK.out _ _ (⟨(R0.out.kept K2.out 0 _ rfl).1, (R0.out.kept K2.out 1 _ rfl).1, (R1.out.kept K2.out 0 _ rfl).1, (R1.out.kept K2.out 1 _ rfl).1, (R1.out.kept K2.out 2 _ rfl).1, (R1.out.kept K2.out 3 _ rfl).1, (R1.out.kept K2.out 4 _ rfl).1, (R1.out.kept K2.out 5 _ rfl).1⟩) (fun hHeld => ?_)
  clear hK K
  try simp only [Act.put, List.setIfInBounds_toArray, List.set_cons_zero, List.set_cons_succ]
  refine wpAnyH_ready (rs := [7]) (by kernel_rfl) (by simp) ?_
  refine AllReadyH.cons rfl (fun K hK => ?_) AllReadyH.nil
  rw [if_pos (by rfl)]
  go_simp
  refine (HV4.out _).mono ?_
  rintro e w2 ⟨rfl, rfl⟩
  go_wp2_with fail
  refine hK.out _ _ (⟨(R0.out.kept K2.out 0 _ rfl).1, (R0.out.kept K2.out 1 _ rfl).1, (R1.out.kept K2.out 0 _ rfl).1, (R1.out.kept K2.out 1 _ rfl).1, (R1.out.kept K2.out 2 _ rfl).1, (R1.out.kept K2.out 3 _ rfl).1, (R1.out.kept K2.out 4 _ rfl).1, (R1.out.kept K2.out 5 _ rfl).1⟩) (fun hHeld => ?_)
  clear hK K
  try simp only [Act.put, List.setIfInBounds_toArray, List.set_cons_zero, List.set_cons_succ]
  refine wpAnyH_ready (rs := [8]) (by kernel_rfl) (by simp) ?_
  refine AllReadyH.cons rfl (fun K hK => ?_) AllReadyH.nil
  rw [if_pos (by rfl)]
  go_wp2_with fail
  go_wp2_with fail
  refine hK.out _ _ (⟨(R0.out.kept (show Kept W0 (w2.alloc _) from K2.out.alloc _) 0 _ rfl).1, (R0.out.kept (show Kept W0 (w2.alloc _) from K2.out.alloc _) 1 _ rfl).1, (R1.out.kept (show Kept W0 (w2.alloc _) from K2.out.alloc _) 0 _ rfl).1, (R1.out.kept (show Kept W0 (w2.alloc _) from K2.out.alloc _) 1 _ rfl).1, (R1.out.kept (show Kept W0 (w2.alloc _) from K2.out.alloc _) 2 _ rfl).1, (R1.out.kept (show Kept W0 (w2.alloc _) from K2.out.alloc _) 3 _ rfl).1, (R1.out.kept (show Kept W0 (w2.alloc _) from K2.out.alloc _) 4 _ rfl).1, (R1.out.kept (show Kept W0 (w2.alloc _) from K2.out.alloc _) 5 _ rfl).1⟩) (fun hHeld => ?_)
  clear hK K
  try simp only [Act.put, List.setIfInBounds_toArray, List.set_cons_zero, List.set_cons_succ]
  refine wpAnyH_ready (rs := [9]) (by kernel_rfl) (by simp) ?_
  refine AllReadyH.cons rfl (fun K hK => ?_) AllReadyH.nil
  rw [if_pos (by rfl)]
  go_simp
  refine (H13.out _ _ (RowC.new _ _ _)).mono ?_
  rintro e w3 ⟨rfl, rfl⟩
  go_wp2_with fail
  refine hK.out _ _ (⟨(R0.out.kept (show Kept W0 (w2.alloc _) from K2.out.alloc _) 0 _ rfl).1, (R0.out.kept (show Kept W0 (w2.alloc _) from K2.out.alloc _) 1 _ rfl).1, (R1.out.kept (show Kept W0 (w2.alloc _) from K2.out.alloc _) 0 _ rfl).1, (R1.out.kept (show Kept W0 (w2.alloc _) from K2.out.alloc _) 1 _ rfl).1, (R1.out.kept (show Kept W0 (w2.alloc _) from K2.out.alloc _) 2 _ rfl).1, (R1.out.kept (show Kept W0 (w2.alloc _) from K2.out.alloc _) 3 _ rfl).1, (R1.out.kept (show Kept W0 (w2.alloc _) from K2.out.alloc _) 4 _ rfl).1, (R1.out.kept (show Kept W0 (w2.alloc _) from K2.out.alloc _) 5 _ rfl).1⟩) (fun hHeld => ?_)
  clear hK K
  try simp only [Act.put, List.setIfInBounds_toArray, List.set_cons_zero, List.set_cons_succ]
  refine take_at (i := 10) (d := some 8) (v := ?_) rfl rfl (by kernel_rfl) (by kernel_rfl) (by kernel_rfl) (fun _ _ _ h => h) (Or.inl ⟨by rfl, ?_⟩) hHeld ?_
  rotate_left
  · intro w hSw
    try dsimp only at hSw
    go_simp
    try (with_reducible rfl)
  try simp only [Act.put, List.setIfInBounds_toArray, List.set_cons_zero, List.set_cons_succ]
  refine wpAnyH_done (by kernel_rfl) ?_ _
  obtain ⟨w3, hw3⟩ : ∃ w3, w3 = w2.alloc (.cells #[.int .i64 E1, .int .i64 v2, .int .i64 v4] 27) := ⟨_, rfl⟩
  have K3 := Lib.hid (show Kept W0 w3 by rw [hw3]; exact K2.out.alloc _)
  try rw [← hw3]
  clear hw3
  by_cases hz : E = 0
  · subst hz
    obtain ⟨e1, e2, e4⟩ := fstE_three HEE.out
    obtain ⟨hm1, hm2, hmv, hfv, _, _⟩ := sm_ok (HE1.out.trans e1)
    have hss : sightB s = true := HB4.out.trans (errB_ok (HV4'.out.trans e4))
    have HSS := Lib.hid hss
    have HMV := Lib.hid hmv
    have HFV := Lib.hid hfv
    have hn100 : n ≤ 100 := by rw [← HS.out.1.1]; exact hm1
    have H19 : RowKit.Hid (∀ W, Kept W0 W → Calls Tryz.prog 90 #[.agg #[.slice A n c, .slice B m d], .int .i64 day] W (VwP W ms fs day)) := Lib.hid (fun W hW => viewOf_any A B n c m d ms fs day W (HS.out.kept hW) (by omega) HMV.out HFV.out)
    have hSl := ownN_lt fs s (frcL ms day) 0 (by omega) (fun x hx => by
      have := HMV.out x (List.mem_filter.1 hx).1
      unfold markB at this
      simp [inB] at this
      omega)
    obtain ⟨S, hSe⟩ : ∃ S, ownD ms fs day s = S := ⟨_, rfl⟩
    have hS64 : S < 2 ^ 64 := by
      have : ownN fs s (frcL ms day) = S := hSe
      unfold ownN at this
      omega
    have H20 : RowKit.Hid (∀ W A5 c5 l5, l5.Perm (frcL ms day) → SlA mkC 9 Mk.ok W A5 l5.length c5 l5 → Calls Tryz.prog 91 #[vwV A5 l5.length c5 fs, .agg #[.int .u8 s.s0, .int .u8 s.s1, .int .u8 s.s2, .int .u8 s.s3, .int .u8 s.s4, .int .u8 s.s5]] W fun e w' => e = .returned (.int .u64 ((S : Nat) : Int)) ∧ Kept W w') := Lib.hid (fun W A5 c5 l5 hp hl => by
      rw [← hSe]
      unfold ownD
      rw [← ownN_perm fs s hp]
      exact owners_any A5 l5.length c5 l5 fs s W hl (fun x hx => HMV.out x (List.mem_filter.1 (hp.mem_iff.1 hx)).1) (fade4 HFV.out) HSO.out HSS.out)
    have HSe := Lib.hid hSe
    clear e1 e2 e4 hm1 hm2 hmv hfv hss hSl hSe
    go_upto_region 4 with (fail)
    have K4 := Lib.hid ((show Kept W0 w3 from K3.out).drew)
    refine wp_region_held_drew (S := fun W' => W'.cell? ⟨w.heap.size, 0, none⟩ = some (.slice A n c) ∧ W'.cell? ⟨w.heap.size, 1, none⟩ = some (.slice B m d) ∧ W'.cell? ⟨w.heap.size + 1, 0, none⟩ = some (.int .u8 s.s0) ∧ W'.cell? ⟨w.heap.size + 1, 1, none⟩ = some (.int .u8 s.s1) ∧ W'.cell? ⟨w.heap.size + 1, 2, none⟩ = some (.int .u8 s.s2) ∧ W'.cell? ⟨w.heap.size + 1, 3, none⟩ = some (.int .u8 s.s3) ∧ W'.cell? ⟨w.heap.size + 1, 4, none⟩ = some (.int .u8 s.s4) ∧ W'.cell? ⟨w.heap.size + 1, 5, none⟩ = some (.int .u8 s.s5)) (by kernel_rfl) (⟨(R0.out.kept K3.out 0 _ rfl).1, (R0.out.kept K3.out 1 _ rfl).1, (R1.out.kept K3.out 0 _ rfl).1, (R1.out.kept K3.out 1 _ rfl).1, (R1.out.kept K3.out 2 _ rfl).1, (R1.out.kept K3.out 3 _ rfl).1, (R1.out.kept K3.out 4 _ rfl).1, (R1.out.kept K3.out 5 _ rfl).1⟩) (fun hHeld => ?_)
    refine take_at (i := 0) (d := some 22) (v := ?_) rfl rfl (by kernel_rfl) (by kernel_rfl) (by kernel_rfl) (fun _ _ _ h => h) (Or.inl ⟨by rfl, ?_⟩) hHeld ?_
    rotate_left
    · intro w hSw
      try dsimp only at hSw
      go_simp
      try (with_reducible rfl)
    try simp only [Act.put, List.setIfInBounds_toArray, List.set_cons_zero, List.set_cons_succ]
    refine take_at (i := 1) (d := some 23) (v := ?_) rfl rfl (by kernel_rfl) (by kernel_rfl) (by kernel_rfl) (fun _ _ _ h => h) (Or.inl ⟨by rfl, ?_⟩) hHeld ?_
    rotate_left
    · intro w hSw
      try dsimp only at hSw
      go_simp
      try (with_reducible rfl)
    try simp only [Act.put, List.setIfInBounds_toArray, List.set_cons_zero, List.set_cons_succ]
    refine take_at (i := 3) (d := some 25) (v := ?_) rfl rfl (by kernel_rfl) (by kernel_rfl) (by kernel_rfl) (fun _ _ _ h => h) (Or.inl ⟨by rfl, ?_⟩) hHeld ?_
    rotate_left
    · intro w hSw
      try dsimp only at hSw
      go_simp
      try (with_reducible rfl)
    try simp only [Act.put, List.setIfInBounds_toArray, List.set_cons_zero, List.set_cons_succ]
    refine wpAnyH_ready (rs := [2]) (by kernel_rfl) (by simp) ?_
    refine AllReadyH.cons rfl (fun K hK => ?_) AllReadyH.nil
    rw [if_pos (by rfl)]
    go_simp
    refine (H19.out _ K4.out).mono ?_
    rintro e w4 ⟨A5, c5, l5, rfl, p1, p2, sl5, hk4⟩
    have HP1 := Lib.hid p1
    have SL5 := Lib.hid sl5
    have K5 := Lib.hid (K4.out.trans hk4)
    clear hk4 p1 p2 sl5
    go_wp2_with fail
    refine hK.out _ _ (⟨(R0.out.kept K5.out 0 _ rfl).1, (R0.out.kept K5.out 1 _ rfl).1, (R1.out.kept K5.out 0 _ rfl).1, (R1.out.kept K5.out 1 _ rfl).1, (R1.out.kept K5.out 2 _ rfl).1, (R1.out.kept K5.out 3 _ rfl).1, (R1.out.kept K5.out 4 _ rfl).1, (R1.out.kept K5.out 5 _ rfl).1⟩) (fun hHeld => ?_)
    clear hK K
    try simp only [Act.put, List.setIfInBounds_toArray, List.set_cons_zero, List.set_cons_succ]
    refine wpAnyH_ready (rs := [4]) (by kernel_rfl) (by simp) ?_
    refine AllReadyH.cons rfl (fun K hK => ?_) AllReadyH.nil
    rw [if_pos (by rfl)]
    go_simp
    refine (H20.out _ A5 c5 l5 HP1.out SL5.out).mono ?_
    rintro e w5 ⟨rfl, hk5⟩
    have K6 := Lib.hid (K5.out.trans hk5)
    clear hk5
    go_wp2_with fail
    refine hK.out _ _ (⟨(R0.out.kept K6.out 0 _ rfl).1, (R0.out.kept K6.out 1 _ rfl).1, (R1.out.kept K6.out 0 _ rfl).1, (R1.out.kept K6.out 1 _ rfl).1, (R1.out.kept K6.out 2 _ rfl).1, (R1.out.kept K6.out 3 _ rfl).1, (R1.out.kept K6.out 4 _ rfl).1, (R1.out.kept K6.out 5 _ rfl).1⟩) (fun hHeld => ?_)
    clear hK K
    try simp only [Act.put, List.setIfInBounds_toArray, List.set_cons_zero, List.set_cons_succ]
    refine take_at (i := 5) (d := some 6) (v := ?_) rfl rfl (by kernel_rfl) (by kernel_rfl) (by kernel_rfl) (fun _ _ _ h => h) (Or.inl ⟨by rfl, ?_⟩) hHeld ?_
    rotate_left
    · intro w hSw
      try dsimp only at hSw
      go_simp
      try (with_reducible rfl)
    try simp only [Act.put, List.setIfInBounds_toArray, List.set_cons_zero, List.set_cons_succ]
    refine take_at (i := 6) (d := some 7) (v := ?_) rfl rfl (by kernel_rfl) (by kernel_rfl) (by kernel_rfl) (fun _ _ _ h => h) (Or.inl ⟨by rfl, ?_⟩) hHeld ?_
    rotate_left
    · intro w hSw
      try dsimp only at hSw
      go_simp
      try (with_reducible rfl)
    try simp only [Act.put, List.setIfInBounds_toArray, List.set_cons_zero, List.set_cons_succ]
    refine wpAnyH_done (by kernel_rfl) ?_ _
    go_wp2
    go_ret2
    refine ⟨.inr ⟨HE.out, by rw [HSe.out]; exact hS64, by rw [HSe.out]; try rfl⟩, K0.out.trans K6.out⟩
  · have hne : (E != 0) = true := by simpa using hz
    have HZ := Lib.hid hz
    clear hz
    go_wp2
    go_ret2
    exact ⟨.inl ⟨by rw [HE.out]; exact HZ.out, by rw [HE.out]; try rfl⟩, K0.out.trans K3.out⟩

def OlP (w : World) (ms : List Mk) (fs : List Fd) (day : Int) (s : Sg) (e : Ending) (w' : World) : Prop :=
  (∃ v, w'.ownsRow w.heap.size 3 1 v (if owE ms fs day s = 0 then bitsK (ownD ms fs day s) 64 else []).length ((if owE ms fs day s = 0 then bitsK (ownD ms fs day s) 64 else []).flatMap nC) ∧ e = .returned (.tuple #[v, .int .i64 (owE ms fs day s)])) ∧ Kept w w'
set_option maxRecDepth 100000 in
set_option maxHeartbeats 6400000 in
theorem ownersL_any (A B : Option Addr) (n c m d : Nat) (ms : List Mk) (fs : List Fd) (day : Int) (s : Sg) (w : World) (hs : SmA w A n c ms B m d fs) (hso : s.ok) (hE : EnvT w) :
    Calls Tryz.prog 30 #[.agg #[.slice A n c, .slice B m d], .int .i64 day, .agg #[.int .u8 s.s0, .int .u8 s.s1, .int .u8 s.s2, .int .u8 s.s3, .int .u8 s.s4, .int .u8 s.s5]] w (OlP w ms fs day s) := by
  obtain ⟨W0, hW0⟩ : ∃ W0, W0 = (w.alloc (.cells #[.slice A n c, .slice B m d] 25)).alloc (.cells #[.int .u8 s.s0, .int .u8 s.s1, .int .u8 s.s2, .int .u8 s.s3, .int .u8 s.s4, .int .u8 s.s5] 39) := ⟨_, rfl⟩
  have K0 : RowKit.Hid (Kept w W0) := Lib.hid (by rw [hW0]; exact ((Kept.refl _).alloc _).alloc _)
  have HW := Lib.hid hW0
  have HO := Lib.hid (ownersOf_any A B n c m d ms fs day s W0 (hs.kept K0.out) hso)
  have HL : RowKit.Hid (∀ (S : Nat) W, S < 2 ^ 64 → Kept W0 W → Calls Tryz.prog 96 #[.int .u64 (S : Int)] W (NatsRes W (bitsK S 64))) := Lib.hid (fun S W h1 h2 => list_any S h1 W (hE.kept (K0.out.trans h2)))
  have HL0 : RowKit.Hid (∀ W, Kept W0 W → Calls Tryz.prog 96 #[.int .u64 0] W (NatsRes W [])) := Lib.hid (fun W h2 => by
    have := list_any 0 (by decide) W (hE.kept (K0.out.trans h2))
    rwa [(bitsK_nil (by decide)).2 rfl] at this)
  clear hW0 hs hso hE
  go_enter Tryz.func30, Tryz.ntmps30
  go_wp2_with fail
  rw [← HW.out]
  go_wp2_with fail
  refine HO.out.mono ?_
  rintro e w1 ⟨⟨h0, rfl⟩ | ⟨h0, h64, rfl⟩, hk⟩
  · have HK := Lib.hid hk
    have H0 := Lib.hid h0
    obtain ⟨E, hEe⟩ : ∃ E, owE ms fs day s = E := ⟨_, rfl⟩
    rw [hEe]
    have HEE := Lib.hid hEe
    clear hk h0 hEe
    go_wp2_with fail
    refine (HL0.out _ HK.out).mono ?_
    rintro e w2 ⟨v, rfl, ho, hk2⟩
    have HO2 := Lib.hid ho
    have HK2 := Lib.hid hk2
    clear ho hk2
    go_wp2
    go_ret2
    exact ⟨⟨v, by rw [if_neg H0.out]; exact own_le HO2.out (K0.out.trans HK.out).size, by rw [HEE.out]; try rfl⟩, (K0.out.trans HK.out).trans HK2.out⟩
  · have HK := Lib.hid hk
    have H0 := Lib.hid h0
    have H64 := Lib.hid h64
    obtain ⟨S, hS⟩ : ∃ S, ownD ms fs day s = S := ⟨_, rfl⟩
    rw [hS]
    have HSS := Lib.hid hS
    clear hk h0 h64 hS
    go_wp2_with fail
    refine (HL.out _ _ (by rw [← HSS.out]; exact H64.out) HK.out).mono ?_
    rintro e w2 ⟨v, rfl, ho, hk2⟩
    have HO2 := Lib.hid ho
    have HK2 := Lib.hid hk2
    clear ho hk2
    go_wp2
    go_ret2
    exact ⟨⟨v, by rw [if_pos H0.out, HSS.out]; exact own_le HO2.out (K0.out.trans HK.out).size, by rw [H0.out]; try rfl⟩, (K0.out.trans HK.out).trans HK2.out⟩

set_option maxRecDepth 100000 in
set_option maxHeartbeats 6400000 in
theorem fitsM_any (A B : Option Addr) (n c m d : Nat) (ms : List Mk) (fs : List Fd) (day owner : Int) (s : Sg) (w : World) (hs : SmA w A n c ms B m d fs) (hso : s.ok) :
    Calls Tryz.prog 28 #[.agg #[.slice A n c, .slice B m d], .int .i64 day, .agg #[.int .u8 s.s0, .int .u8 s.s1, .int .u8 s.s2, .int .u8 s.s3, .int .u8 s.s4, .int .u8 s.s5], .int .i64 owner] w (FtP w ms fs day s owner) := by
  obtain ⟨W0, hW0⟩ : ∃ W0, W0 = (w.alloc (.cells #[.slice A n c, .slice B m d] 25)).alloc (.cells #[.int .u8 s.s0, .int .u8 s.s1, .int .u8 s.s2, .int .u8 s.s3, .int .u8 s.s4, .int .u8 s.s5] 39) := ⟨_, rfl⟩
  have K0 : RowKit.Hid (Kept w W0) := Lib.hid (by rw [hW0]; exact ((Kept.refl _).alloc _).alloc _)
  have R0 : RowKit.Hid (RowC W0 w.heap.size [.slice A n c, .slice B m d]) := Lib.hid (by rw [hW0]; exact (RowC.new w [.slice A n c, .slice B m d] 25).kept ((Kept.refl _).alloc _))
  have R1 : RowKit.Hid (RowC W0 (w.heap.size + 1) (sgL s)) := Lib.hid (by rw [hW0]; have h := RowC.new (w.alloc (.cells #[.slice A n c, .slice B m d] 25)) (sgL s) 39; rwa [World.size_alloc] at h)
  have HW := Lib.hid hW0
  have HS := Lib.hid (hs.kept K0.out)
  have HSO := Lib.hid hso
  obtain ⟨E1, hE1⟩ : ∃ E, smE ms fs = E := ⟨_, rfl⟩
  obtain ⟨b2, hb2⟩ : ∃ b, inB day 0 100000 = b := ⟨_, rfl⟩
  obtain ⟨b3, hb3⟩ : ∃ b, inB owner 1 40 = b := ⟨_, rfl⟩
  obtain ⟨b4, hb4⟩ : ∃ b, sightB s = b := ⟨_, rfl⟩
  obtain ⟨v2, hv2⟩ : ∃ v, errB b2 = v := ⟨_, rfl⟩
  obtain ⟨v3, hv3⟩ : ∃ v, errB b3 = v := ⟨_, rfl⟩
  obtain ⟨v4, hv4⟩ : ∃ v, errB b4 = v := ⟨_, rfl⟩
  obtain ⟨E, hE⟩ : ∃ E, fstE [E1, v2, v3, v4] = E := ⟨_, rfl⟩
  have HE : RowKit.Hid (ftE ms fs day s owner = E) := Lib.hid (by unfold ftE; rw [hE1, hb2, hb3, hb4, hv2, hv3, hv4, hE])
  have H14 : RowKit.Hid (∀ W, Kept W0 W → Calls Tryz.prog 25 #[.agg #[.slice A n c, .slice B m d]] W fun e w' => e = .returned (.int .i64 E1) ∧ Kept W w') := Lib.hid (fun W hW => by rw [← hE1]; exact checkSmits_any A B n c m d ms fs W (HS.out.kept hW))
  have H16 : RowKit.Hid (∀ W, Calls Tryz.prog 75 #[.int .i64 day] W fun e w' => e = .returned (.bool b2) ∧ W = w') := Lib.hid (fun W => by rw [← hb2]; exact isDay_any _ W)
  have H17 : RowKit.Hid (∀ W, Calls Tryz.prog 79 #[.int .i64 owner] W fun e w' => e = .returned (.bool b3) ∧ W = w') := Lib.hid (fun W => by rw [← hb3]; exact isOwner_any _ W)
  have H25 : RowKit.Hid (∀ W, Calls Tryz.prog 89 #[.agg #[.int .u8 s.s0, .int .u8 s.s1, .int .u8 s.s2, .int .u8 s.s3, .int .u8 s.s4, .int .u8 s.s5]] W fun e w' => e = .returned (.bool b4) ∧ Kept W w') := Lib.hid (fun W => by rw [← hb4]; exact isSight_any s HSO.out W)
  have HV2 : RowKit.Hid (∀ W, Calls Tryz.prog 74 #[.bool b2] W fun e w' => e = .returned (.int .i64 v2) ∧ W = w') := Lib.hid (fun W => by rw [← hv2]; exact valid_any b2 W)
  have HV3 : RowKit.Hid (∀ W, Calls Tryz.prog 74 #[.bool b3] W fun e w' => e = .returned (.int .i64 v3) ∧ W = w') := Lib.hid (fun W => by rw [← hv3]; exact valid_any b3 W)
  have HV4 : RowKit.Hid (∀ W, Calls Tryz.prog 74 #[.bool b4] W fun e w' => e = .returned (.int .i64 v4) ∧ W = w') := Lib.hid (fun W => by rw [← hv4]; exact valid_any b4 W)
  have H13 : RowKit.Hid (∀ W g, RowC W g [.int .i64 E1, .int .i64 v2, .int .i64 v3, .int .i64 v4] → Calls Tryz.prog 73 #[.slice (some ⟨g, 0, none⟩) 4 4] W fun e w' => e = .returned (.int .i64 E) ∧ W = w') := Lib.hid (fun W g hr => by
    rw [← hE]
    exact firstError_any g 0 4 4 [E1, v2, v3, v4] rfl (by omega) W (intsR hr))
  have HE1 := Lib.hid hE1
  have HB2 := Lib.hid hb2
  have HB3 := Lib.hid hb3
  have HV3' := Lib.hid hv3
  have HB4 := Lib.hid hb4
  have HV4' := Lib.hid hv4
  have HEE := Lib.hid hE
  clear hW0 hs hso hE1 hb2 hb3 hv3 hb4 hE hv2 hv4
  have a0 := (R0.out 0 _ rfl).1
  have a1 := (R0.out 1 _ rfl).1
  go_enter Tryz.func28, Tryz.ntmps28
  go_upto_region 1 with (fail)
  rw [← HW.out]
  clear a0 a1
  refine wp_region_held_drew (S := fun W' => W'.cell? ⟨w.heap.size, 0, none⟩ = some (.slice A n c) ∧ W'.cell? ⟨w.heap.size, 1, none⟩ = some (.slice B m d) ∧ W'.cell? ⟨w.heap.size + 1, 0, none⟩ = some (.int .u8 s.s0) ∧ W'.cell? ⟨w.heap.size + 1, 1, none⟩ = some (.int .u8 s.s1) ∧ W'.cell? ⟨w.heap.size + 1, 2, none⟩ = some (.int .u8 s.s2) ∧ W'.cell? ⟨w.heap.size + 1, 3, none⟩ = some (.int .u8 s.s3) ∧ W'.cell? ⟨w.heap.size + 1, 4, none⟩ = some (.int .u8 s.s4) ∧ W'.cell? ⟨w.heap.size + 1, 5, none⟩ = some (.int .u8 s.s5)) (by kernel_rfl) (⟨(R0.out 0 _ rfl).1, (R0.out 1 _ rfl).1, (R1.out 0 _ rfl).1, (R1.out 1 _ rfl).1, (R1.out 2 _ rfl).1, (R1.out 3 _ rfl).1, (R1.out 4 _ rfl).1, (R1.out 5 _ rfl).1⟩) (fun hHeld => ?_)
  refine take_at (i := 0) (d := some 11) (v := ?_) rfl rfl (by kernel_rfl) (by kernel_rfl) (by kernel_rfl) (fun _ _ _ h => h) (Or.inl ⟨by rfl, ?_⟩) hHeld ?_
  rotate_left
  · intro w hSw
    try dsimp only at hSw
    go_simp
    try (with_reducible rfl)
  try simp only [Act.put, List.setIfInBounds_toArray, List.set_cons_zero, List.set_cons_succ]
  refine take_at (i := 2) (d := some 13) (v := ?_) rfl rfl (by kernel_rfl) (by kernel_rfl) (by kernel_rfl) (fun _ _ _ h => h) (Or.inl ⟨by rfl, ?_⟩) hHeld ?_
  rotate_left
  · intro w hSw
    try dsimp only at hSw
    go_simp
    try (with_reducible rfl)
  try simp only [Act.put, List.setIfInBounds_toArray, List.set_cons_zero, List.set_cons_succ]
  refine take_at (i := 5) (d := some 16) (v := ?_) rfl rfl (by kernel_rfl) (by kernel_rfl) (by kernel_rfl) (fun _ _ _ h => h) (Or.inl ⟨by rfl, ?_⟩) hHeld ?_
  rotate_left
  · intro w hSw
    try dsimp only at hSw
    go_simp
    try (with_reducible rfl)
  try simp only [Act.put, List.setIfInBounds_toArray, List.set_cons_zero, List.set_cons_succ]
  refine take_at (i := 8) (d := some 19) (v := ?_) rfl rfl (by kernel_rfl) (by kernel_rfl) (by kernel_rfl) (fun _ _ _ h => h) (Or.inl ⟨by rfl, ?_⟩) hHeld ?_
  rotate_left
  · intro w hSw
    try dsimp only at hSw
    go_simp
    try (with_reducible rfl)
  try simp only [Act.put, List.setIfInBounds_toArray, List.set_cons_zero, List.set_cons_succ]
  refine wpAnyH_ready (rs := [1]) (by kernel_rfl) (by simp) ?_
  refine AllReadyH.cons rfl (fun K hK => ?_) AllReadyH.nil
  rw [if_pos (by rfl)]
  go_simp
  refine (H14.out _ (Kept.refl W0).drew).mono ?_
  rintro e w1 ⟨rfl, hk1⟩
  have K1 := Lib.hid (((Kept.refl W0).drew).trans hk1)
  clear hk1
  go_wp2_with fail
  refine hK.out _ _ (⟨(R0.out.kept K1.out 0 _ rfl).1, (R0.out.kept K1.out 1 _ rfl).1, (R1.out.kept K1.out 0 _ rfl).1, (R1.out.kept K1.out 1 _ rfl).1, (R1.out.kept K1.out 2 _ rfl).1, (R1.out.kept K1.out 3 _ rfl).1, (R1.out.kept K1.out 4 _ rfl).1, (R1.out.kept K1.out 5 _ rfl).1⟩) (fun hHeld => ?_)
  clear hK K
  try simp only [Act.put, List.setIfInBounds_toArray, List.set_cons_zero, List.set_cons_succ]
  refine wpAnyH_ready (rs := [3]) (by kernel_rfl) (by simp) ?_
  refine AllReadyH.cons rfl (fun K hK => ?_) AllReadyH.nil
  rw [if_pos (by rfl)]
  go_simp
  refine (H16.out _).mono ?_
  rintro e w2 ⟨rfl, rfl⟩
  go_wp2_with fail
  refine hK.out _ _ (⟨(R0.out.kept K1.out 0 _ rfl).1, (R0.out.kept K1.out 1 _ rfl).1, (R1.out.kept K1.out 0 _ rfl).1, (R1.out.kept K1.out 1 _ rfl).1, (R1.out.kept K1.out 2 _ rfl).1, (R1.out.kept K1.out 3 _ rfl).1, (R1.out.kept K1.out 4 _ rfl).1, (R1.out.kept K1.out 5 _ rfl).1⟩) (fun hHeld => ?_)
  clear hK K
  try simp only [Act.put, List.setIfInBounds_toArray, List.set_cons_zero, List.set_cons_succ]
  refine wpAnyH_ready (rs := [4]) (by kernel_rfl) (by simp) ?_
  refine AllReadyH.cons rfl (fun K hK => ?_) AllReadyH.nil
  rw [if_pos (by rfl)]
  go_simp
  refine (HV2.out _).mono ?_
  rintro e w2 ⟨rfl, rfl⟩
  go_wp2_with fail
  refine hK.out _ _ (⟨(R0.out.kept K1.out 0 _ rfl).1, (R0.out.kept K1.out 1 _ rfl).1, (R1.out.kept K1.out 0 _ rfl).1, (R1.out.kept K1.out 1 _ rfl).1, (R1.out.kept K1.out 2 _ rfl).1, (R1.out.kept K1.out 3 _ rfl).1, (R1.out.kept K1.out 4 _ rfl).1, (R1.out.kept K1.out 5 _ rfl).1⟩) (fun hHeld => ?_)
  clear hK K
  try simp only [Act.put, List.setIfInBounds_toArray, List.set_cons_zero, List.set_cons_succ]
  refine wpAnyH_ready (rs := [6]) (by kernel_rfl) (by simp) ?_
  refine AllReadyH.cons rfl (fun K hK => ?_) AllReadyH.nil
  rw [if_pos (by rfl)]
  go_simp
  refine (H17.out _).mono ?_
  rintro e w2 ⟨rfl, rfl⟩
  go_wp2_with fail
  refine hK.out _ _ (⟨(R0.out.kept K1.out 0 _ rfl).1, (R0.out.kept K1.out 1 _ rfl).1, (R1.out.kept K1.out 0 _ rfl).1, (R1.out.kept K1.out 1 _ rfl).1, (R1.out.kept K1.out 2 _ rfl).1, (R1.out.kept K1.out 3 _ rfl).1, (R1.out.kept K1.out 4 _ rfl).1, (R1.out.kept K1.out 5 _ rfl).1⟩) (fun hHeld => ?_)
  clear hK K
  try simp only [Act.put, List.setIfInBounds_toArray, List.set_cons_zero, List.set_cons_succ]
  refine wpAnyH_ready (rs := [7]) (by kernel_rfl) (by simp) ?_
  refine AllReadyH.cons rfl (fun K hK => ?_) AllReadyH.nil
  rw [if_pos (by rfl)]
  go_simp
  refine (HV3.out _).mono ?_
  rintro e w2 ⟨rfl, rfl⟩
  go_wp2_with fail
  refine hK.out _ _ (⟨(R0.out.kept K1.out 0 _ rfl).1, (R0.out.kept K1.out 1 _ rfl).1, (R1.out.kept K1.out 0 _ rfl).1, (R1.out.kept K1.out 1 _ rfl).1, (R1.out.kept K1.out 2 _ rfl).1, (R1.out.kept K1.out 3 _ rfl).1, (R1.out.kept K1.out 4 _ rfl).1, (R1.out.kept K1.out 5 _ rfl).1⟩) (fun hHeld => ?_)
  clear hK K
  try simp only [Act.put, List.setIfInBounds_toArray, List.set_cons_zero, List.set_cons_succ]
  refine wpAnyH_ready (rs := [9]) (by kernel_rfl) (by simp) ?_
  refine AllReadyH.cons rfl (fun K hK => ?_) AllReadyH.nil
  rw [if_pos (by rfl)]
  go_simp
  refine (H25.out _).mono ?_
  rintro e w2 ⟨rfl, hk2⟩
  have K2 := Lib.hid (K1.out.trans hk2)
  clear hk2
  go_wp2_with fail
  refine hK.out _ _ (⟨(R0.out.kept K2.out 0 _ rfl).1, (R0.out.kept K2.out 1 _ rfl).1, (R1.out.kept K2.out 0 _ rfl).1, (R1.out.kept K2.out 1 _ rfl).1, (R1.out.kept K2.out 2 _ rfl).1, (R1.out.kept K2.out 3 _ rfl).1, (R1.out.kept K2.out 4 _ rfl).1, (R1.out.kept K2.out 5 _ rfl).1⟩) (fun hHeld => ?_)
  clear hK K
  try simp only [Act.put, List.setIfInBounds_toArray, List.set_cons_zero, List.set_cons_succ]
  refine wpAnyH_ready (rs := [10]) (by kernel_rfl) (by simp) ?_
  refine AllReadyH.cons rfl (fun K hK => ?_) AllReadyH.nil
  rw [if_pos (by rfl)]
  go_simp
  refine (HV4.out _).mono ?_
  rintro e w2 ⟨rfl, rfl⟩
  go_wp2_with fail
  refine hK.out _ _ (⟨(R0.out.kept K2.out 0 _ rfl).1, (R0.out.kept K2.out 1 _ rfl).1, (R1.out.kept K2.out 0 _ rfl).1, (R1.out.kept K2.out 1 _ rfl).1, (R1.out.kept K2.out 2 _ rfl).1, (R1.out.kept K2.out 3 _ rfl).1, (R1.out.kept K2.out 4 _ rfl).1, (R1.out.kept K2.out 5 _ rfl).1⟩) (fun hHeld => ?_)
  clear hK K
  try simp only [Act.put, List.setIfInBounds_toArray, List.set_cons_zero, List.set_cons_succ]
  refine wpAnyH_ready (rs := [11]) (by kernel_rfl) (by simp) ?_
  refine AllReadyH.cons rfl (fun K hK => ?_) AllReadyH.nil
  rw [if_pos (by rfl)]
  go_wp2_with fail
  go_wp2_with fail
  refine hK.out _ _ (⟨(R0.out.kept (show Kept W0 (w2.alloc _) from K2.out.alloc _) 0 _ rfl).1, (R0.out.kept (show Kept W0 (w2.alloc _) from K2.out.alloc _) 1 _ rfl).1, (R1.out.kept (show Kept W0 (w2.alloc _) from K2.out.alloc _) 0 _ rfl).1, (R1.out.kept (show Kept W0 (w2.alloc _) from K2.out.alloc _) 1 _ rfl).1, (R1.out.kept (show Kept W0 (w2.alloc _) from K2.out.alloc _) 2 _ rfl).1, (R1.out.kept (show Kept W0 (w2.alloc _) from K2.out.alloc _) 3 _ rfl).1, (R1.out.kept (show Kept W0 (w2.alloc _) from K2.out.alloc _) 4 _ rfl).1, (R1.out.kept (show Kept W0 (w2.alloc _) from K2.out.alloc _) 5 _ rfl).1⟩) (fun hHeld => ?_)
  clear hK K
  try simp only [Act.put, List.setIfInBounds_toArray, List.set_cons_zero, List.set_cons_succ]
  refine wpAnyH_ready (rs := [12]) (by kernel_rfl) (by simp) ?_
  refine AllReadyH.cons rfl (fun K hK => ?_) AllReadyH.nil
  rw [if_pos (by rfl)]
  go_simp
  refine (H13.out _ _ (RowC.new _ _ _)).mono ?_
  rintro e w3 ⟨rfl, rfl⟩
  go_wp2_with fail
  refine hK.out _ _ (⟨(R0.out.kept (show Kept W0 (w2.alloc _) from K2.out.alloc _) 0 _ rfl).1, (R0.out.kept (show Kept W0 (w2.alloc _) from K2.out.alloc _) 1 _ rfl).1, (R1.out.kept (show Kept W0 (w2.alloc _) from K2.out.alloc _) 0 _ rfl).1, (R1.out.kept (show Kept W0 (w2.alloc _) from K2.out.alloc _) 1 _ rfl).1, (R1.out.kept (show Kept W0 (w2.alloc _) from K2.out.alloc _) 2 _ rfl).1, (R1.out.kept (show Kept W0 (w2.alloc _) from K2.out.alloc _) 3 _ rfl).1, (R1.out.kept (show Kept W0 (w2.alloc _) from K2.out.alloc _) 4 _ rfl).1, (R1.out.kept (show Kept W0 (w2.alloc _) from K2.out.alloc _) 5 _ rfl).1⟩) (fun hHeld => ?_)
  clear hK K
  try simp only [Act.put, List.setIfInBounds_toArray, List.set_cons_zero, List.set_cons_succ]
  refine take_at (i := 13) (d := some 10) (v := ?_) rfl rfl (by kernel_rfl) (by kernel_rfl) (by kernel_rfl) (fun _ _ _ h => h) (Or.inl ⟨by rfl, ?_⟩) hHeld ?_
  rotate_left
  · intro w hSw
    try dsimp only at hSw
    go_simp
    try (with_reducible rfl)
  try simp only [Act.put, List.setIfInBounds_toArray, List.set_cons_zero, List.set_cons_succ]
  refine wpAnyH_done (by kernel_rfl) ?_ _
  obtain ⟨w3, hw3⟩ : ∃ w3, w3 = w2.alloc (.cells #[.int .i64 E1, .int .i64 v2, .int .i64 v3, .int .i64 v4] 27) := ⟨_, rfl⟩
  have K3 := Lib.hid (show Kept W0 w3 by rw [hw3]; exact K2.out.alloc _)
  try rw [← hw3]
  clear hw3
  by_cases hz : E = 0
  · subst hz
    obtain ⟨e1, e2, e3, e4⟩ := fstE_four HEE.out
    obtain ⟨hm1, hm2, hmv, hfv, _, _⟩ := sm_ok (HE1.out.trans e1)
    have hss : sightB s = true := HB4.out.trans (errB_ok (HV4'.out.trans e4))
    have HSS := Lib.hid hss
    have HMV := Lib.hid hmv
    have HFV := Lib.hid hfv
    have hn100 : n ≤ 100 := by rw [← HS.out.1.1]; exact hm1
    have H19 : RowKit.Hid (∀ W, Kept W0 W → Calls Tryz.prog 90 #[.agg #[.slice A n c, .slice B m d], .int .i64 day] W (VwP W ms fs day)) := Lib.hid (fun W hW => viewOf_any A B n c m d ms fs day W (HS.out.kept hW) (by omega) HMV.out HFV.out)
    have hSl := ownN_lt fs s (frcL ms day) 0 (by omega) (fun x hx => by
      have := HMV.out x (List.mem_filter.1 hx).1
      unfold markB at this
      simp [inB] at this
      omega)
    obtain ⟨S, hSe⟩ : ∃ S, ownD ms fs day s = S := ⟨_, rfl⟩
    have hS64 : S < 2 ^ 64 := by
      have : ownN fs s (frcL ms day) = S := hSe
      unfold ownN at this
      omega
    have H20 : RowKit.Hid (∀ W A5 c5 l5, l5.Perm (frcL ms day) → SlA mkC 9 Mk.ok W A5 l5.length c5 l5 → Calls Tryz.prog 91 #[vwV A5 l5.length c5 fs, .agg #[.int .u8 s.s0, .int .u8 s.s1, .int .u8 s.s2, .int .u8 s.s3, .int .u8 s.s4, .int .u8 s.s5]] W fun e w' => e = .returned (.int .u64 ((S : Nat) : Int)) ∧ Kept W w') := Lib.hid (fun W A5 c5 l5 hp hl => by
      rw [← hSe]
      unfold ownD
      rw [← ownN_perm fs s hp]
      exact owners_any A5 l5.length c5 l5 fs s W hl (fun x hx => HMV.out x (List.mem_filter.1 (hp.mem_iff.1 hx)).1) (fade4 HFV.out) HSO.out HSS.out)
    have HSe := Lib.hid hSe
    have E3 := Lib.hid e3
    clear e1 e2 e3 e4 hm1 hm2 hmv hfv hss hSl hSe
    have ho := HB3.out.trans (errB_ok (HV3'.out.trans E3.out))
    have ho' := inB_iff.1 ho
    obtain ⟨on, hon⟩ : ∃ on : Nat, owner = (on : Int) := ⟨owner.toNat, by omega⟩
    subst hon
    obtain ⟨tb, htb⟩ : ∃ t, S.testBit on = t := ⟨_, rfl⟩
    have H22 : RowKit.Hid (∀ W, Calls Tryz.prog 92 #[.int .u64 (S : Int), .int .i64 (on : Int)] W fun e w' => e = .returned (.bool tb) ∧ W = w') := Lib.hid (fun W => by rw [← htb]; exact has_any S on hS64 (by omega) (by omega) W)
    have HTB := Lib.hid htb
    clear ho ho' htb
    go_upto_region 4 with (fail)
    have K4 := Lib.hid ((show Kept W0 w3 from K3.out).drew)
    refine wp_region_held_drew (S := fun W' => W'.cell? ⟨w.heap.size, 0, none⟩ = some (.slice A n c) ∧ W'.cell? ⟨w.heap.size, 1, none⟩ = some (.slice B m d) ∧ W'.cell? ⟨w.heap.size + 1, 0, none⟩ = some (.int .u8 s.s0) ∧ W'.cell? ⟨w.heap.size + 1, 1, none⟩ = some (.int .u8 s.s1) ∧ W'.cell? ⟨w.heap.size + 1, 2, none⟩ = some (.int .u8 s.s2) ∧ W'.cell? ⟨w.heap.size + 1, 3, none⟩ = some (.int .u8 s.s3) ∧ W'.cell? ⟨w.heap.size + 1, 4, none⟩ = some (.int .u8 s.s4) ∧ W'.cell? ⟨w.heap.size + 1, 5, none⟩ = some (.int .u8 s.s5)) (by kernel_rfl) (⟨(R0.out.kept K3.out 0 _ rfl).1, (R0.out.kept K3.out 1 _ rfl).1, (R1.out.kept K3.out 0 _ rfl).1, (R1.out.kept K3.out 1 _ rfl).1, (R1.out.kept K3.out 2 _ rfl).1, (R1.out.kept K3.out 3 _ rfl).1, (R1.out.kept K3.out 4 _ rfl).1, (R1.out.kept K3.out 5 _ rfl).1⟩) (fun hHeld => ?_)
    refine take_at (i := 0) (d := some 27) (v := ?_) rfl rfl (by kernel_rfl) (by kernel_rfl) (by kernel_rfl) (fun _ _ _ h => h) (Or.inl ⟨by rfl, ?_⟩) hHeld ?_
    rotate_left
    · intro w hSw
      try dsimp only at hSw
      go_simp
      try (with_reducible rfl)
    try simp only [Act.put, List.setIfInBounds_toArray, List.set_cons_zero, List.set_cons_succ]
    refine take_at (i := 1) (d := some 28) (v := ?_) rfl rfl (by kernel_rfl) (by kernel_rfl) (by kernel_rfl) (fun _ _ _ h => h) (Or.inl ⟨by rfl, ?_⟩) hHeld ?_
    rotate_left
    · intro w hSw
      try dsimp only at hSw
      go_simp
      try (with_reducible rfl)
    try simp only [Act.put, List.setIfInBounds_toArray, List.set_cons_zero, List.set_cons_succ]
    refine take_at (i := 3) (d := some 30) (v := ?_) rfl rfl (by kernel_rfl) (by kernel_rfl) (by kernel_rfl) (fun _ _ _ h => h) (Or.inl ⟨by rfl, ?_⟩) hHeld ?_
    rotate_left
    · intro w hSw
      try dsimp only at hSw
      go_simp
      try (with_reducible rfl)
    try simp only [Act.put, List.setIfInBounds_toArray, List.set_cons_zero, List.set_cons_succ]
    refine take_at (i := 5) (d := some 32) (v := ?_) rfl rfl (by kernel_rfl) (by kernel_rfl) (by kernel_rfl) (fun _ _ _ h => h) (Or.inl ⟨by rfl, ?_⟩) hHeld ?_
    rotate_left
    · intro w hSw
      try dsimp only at hSw
      go_simp
      try (with_reducible rfl)
    try simp only [Act.put, List.setIfInBounds_toArray, List.set_cons_zero, List.set_cons_succ]
    refine wpAnyH_ready (rs := [2]) (by kernel_rfl) (by simp) ?_
    refine AllReadyH.cons rfl (fun K hK => ?_) AllReadyH.nil
    rw [if_pos (by rfl)]
    go_simp
    refine (H19.out _ K4.out).mono ?_
    rintro e w4 ⟨A5, c5, l5, rfl, p1, p2, sl5, hk4⟩
    have HP1 := Lib.hid p1
    have SL5 := Lib.hid sl5
    have K5 := Lib.hid (K4.out.trans hk4)
    clear hk4 p1 p2 sl5
    go_wp2_with fail
    refine hK.out _ _ (⟨(R0.out.kept K5.out 0 _ rfl).1, (R0.out.kept K5.out 1 _ rfl).1, (R1.out.kept K5.out 0 _ rfl).1, (R1.out.kept K5.out 1 _ rfl).1, (R1.out.kept K5.out 2 _ rfl).1, (R1.out.kept K5.out 3 _ rfl).1, (R1.out.kept K5.out 4 _ rfl).1, (R1.out.kept K5.out 5 _ rfl).1⟩) (fun hHeld => ?_)
    clear hK K
    try simp only [Act.put, List.setIfInBounds_toArray, List.set_cons_zero, List.set_cons_succ]
    refine wpAnyH_ready (rs := [4]) (by kernel_rfl) (by simp) ?_
    refine AllReadyH.cons rfl (fun K hK => ?_) AllReadyH.nil
    rw [if_pos (by rfl)]
    go_simp
    refine (H20.out _ A5 c5 l5 HP1.out SL5.out).mono ?_
    rintro e w5 ⟨rfl, hk5⟩
    have K6 := Lib.hid (K5.out.trans hk5)
    clear hk5
    go_wp2_with fail
    refine hK.out _ _ (⟨(R0.out.kept K6.out 0 _ rfl).1, (R0.out.kept K6.out 1 _ rfl).1, (R1.out.kept K6.out 0 _ rfl).1, (R1.out.kept K6.out 1 _ rfl).1, (R1.out.kept K6.out 2 _ rfl).1, (R1.out.kept K6.out 3 _ rfl).1, (R1.out.kept K6.out 4 _ rfl).1, (R1.out.kept K6.out 5 _ rfl).1⟩) (fun hHeld => ?_)
    clear hK K
    try simp only [Act.put, List.setIfInBounds_toArray, List.set_cons_zero, List.set_cons_succ]
    refine wpAnyH_ready (rs := [6]) (by kernel_rfl) (by simp) ?_
    refine AllReadyH.cons rfl (fun K hK => ?_) AllReadyH.nil
    rw [if_pos (by rfl)]
    go_simp
    refine (H22.out _).mono ?_
    rintro e w6 ⟨rfl, rfl⟩
    go_wp2_with fail
    refine hK.out _ _ (⟨(R0.out.kept K6.out 0 _ rfl).1, (R0.out.kept K6.out 1 _ rfl).1, (R1.out.kept K6.out 0 _ rfl).1, (R1.out.kept K6.out 1 _ rfl).1, (R1.out.kept K6.out 2 _ rfl).1, (R1.out.kept K6.out 3 _ rfl).1, (R1.out.kept K6.out 4 _ rfl).1, (R1.out.kept K6.out 5 _ rfl).1⟩) (fun hHeld => ?_)
    clear hK K
    try simp only [Act.put, List.setIfInBounds_toArray, List.set_cons_zero, List.set_cons_succ]
    refine take_at (i := 7) (d := some 8) (v := ?_) rfl rfl (by kernel_rfl) (by kernel_rfl) (by kernel_rfl) (fun _ _ _ h => h) (Or.inl ⟨by rfl, ?_⟩) hHeld ?_
    rotate_left
    · intro w hSw
      try dsimp only at hSw
      go_simp
      try (with_reducible rfl)
    try simp only [Act.put, List.setIfInBounds_toArray, List.set_cons_zero, List.set_cons_succ]
    refine take_at (i := 8) (d := some 9) (v := ?_) rfl rfl (by kernel_rfl) (by kernel_rfl) (by kernel_rfl) (fun _ _ _ h => h) (Or.inl ⟨by rfl, ?_⟩) hHeld ?_
    rotate_left
    · intro w hSw
      try dsimp only at hSw
      go_simp
      try (with_reducible rfl)
    try simp only [Act.put, List.setIfInBounds_toArray, List.set_cons_zero, List.set_cons_succ]
    refine wpAnyH_done (by kernel_rfl) ?_ _
    go_wp2
    go_ret2
    refine ⟨.inr ⟨HE.out, by rw [HSe.out, Int.toNat_natCast, HTB.out]; try rfl⟩, K0.out.trans K6.out⟩
  · have hne : (E != 0) = true := by simpa using hz
    have HZ := Lib.hid hz
    clear hz
    go_wp2
    go_ret2
    exact ⟨.inl ⟨by rw [HE.out]; exact HZ.out, by rw [HE.out]; try rfl⟩, K0.out.trans K3.out⟩

end Go.Proofs.YtologmoanaccpaaGreatDoor
