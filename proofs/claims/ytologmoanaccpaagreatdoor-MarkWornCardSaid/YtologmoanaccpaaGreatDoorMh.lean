/-
  mark: the kinds of keys; repeats over fades
-/
import Derived.Test.YtologmoanaccpaaGreatDoorMg
namespace Go.Proofs.YtologmoanaccpaaGreatDoor
set_option linter.all false
open Go Go.RowKit

theorem chk87 (b : Bool) (x y : Int) (w : World) : (Instr.checkKey b 10000 87 (.agg #[.int .u8 x, .int .u8 y])).run Tryz.prog w = .ok () w := by kernel_rfl
theorem chk30 (b : Bool) (x0 x1 x2 x3 x4 x5 : Int) (w : World) : (Instr.checkKey b 10000 30 (.agg #[.int .u8 x0, .int .u8 x1, .int .u8 x2, .int .u8 x3, .int .u8 x4, .int .u8 x5])).run Tryz.prog w = .ok () w := by kernel_rfl
theorem eql87 (x y x' y' : Int) (w : World) : (Op.equal 87 (.agg #[.int .u8 x, .int .u8 y]) (.agg #[.int .u8 x', .int .u8 y'])).run Tryz.prog w = .ok ((x == x') && (y == y')) w := by
  by_cases h1 : x = x' <;> by_cases h2 : y = y' <;> simp [Op.equal, Op.maxDepth, go_sem, h1, h2]
theorem eql30 (x0 x1 x2 x3 x4 x5 y0 y1 y2 y3 y4 y5 : Int) (w : World) : (Op.equal 30 (.agg #[.int .u8 x0, .int .u8 x1, .int .u8 x2, .int .u8 x3, .int .u8 x4, .int .u8 x5]) (.agg #[.int .u8 y0, .int .u8 y1, .int .u8 y2, .int .u8 y3, .int .u8 y4, .int .u8 y5])).run Tryz.prog w = .ok ((x0 == y0) && ((x1 == y1) && ((x2 == y2) && ((x3 == y3) && ((x4 == y4) && (x5 == y5)))))) w := by
  obtain ⟨i5, hi5, hz0, hz1, hz2⟩ := info_parts (P := Tryz.prog) (e := 5) (z := .int .u8 0) (size := 1) (bytes := 1) (by kernel_rfl)
  have hc : Tryz.prog.cellsOf 5 = 1 := by kernel_rfl
  have hp : ∀ (xs : Array Value) (j : Nat) (v : Value), xs[j]? = some v → (part 5 xs j).run Tryz.prog w = .ok v w := by
    intro xs j v h
    have ha : (isAgg 5).run Tryz.prog w = .ok false w := by kernel_rfl
    simp [part, ha, h]
  rw [show Op.equal = Op.equalIn Op.maxDepth from rfl, show Op.maxDepth = 9999 + 1 from rfl, run_equalIn_array w 9999 _ _ Tryz.underlying30 hi5, hc]
  have hl : List.range 6 = [0, 1, 2, 3, 4, 5] := rfl
  rw [hl]
  have q : ∀ a b : Int, (Op.equalIn 9999 5 (.int .u8 a) (.int .u8 b)).run Tryz.prog w = .ok (a == b) w := fun a b => run_equalIn_int w 9998 5 .u8 .u8 a b Tryz.underlying5
  simp only [Op.eqItems, Sem.run_bind, Nat.zero_mul, Nat.mul_one]
  rw [hp _ 0 (.int .u8 x0) rfl, Result.andThen_ok, hp _ 0 (.int .u8 y0) rfl]
  simp only [Result.andThen_ok, q]
  cases h0 : (x0 == y0)
  · simp
  simp only [Result.andThen_ok, Bool.not_true, Bool.false_eq_true, if_false, Sem.run_bind, Bool.true_and]
  rw [hp _ 1 (.int .u8 x1) rfl, Result.andThen_ok, hp _ 1 (.int .u8 y1) rfl]
  simp only [Result.andThen_ok, q]
  cases h1 : (x1 == y1)
  · simp
  simp only [Result.andThen_ok, Bool.not_true, Bool.false_eq_true, if_false, Sem.run_bind, Bool.true_and]
  rw [hp _ 2 (.int .u8 x2) rfl, Result.andThen_ok, hp _ 2 (.int .u8 y2) rfl]
  simp only [Result.andThen_ok, q]
  cases h2 : (x2 == y2)
  · simp
  simp only [Result.andThen_ok, Bool.not_true, Bool.false_eq_true, if_false, Sem.run_bind, Bool.true_and]
  rw [hp _ 3 (.int .u8 x3) rfl, Result.andThen_ok, hp _ 3 (.int .u8 y3) rfl]
  simp only [Result.andThen_ok, q]
  cases h3 : (x3 == y3)
  · simp
  simp only [Result.andThen_ok, Bool.not_true, Bool.false_eq_true, if_false, Sem.run_bind, Bool.true_and]
  rw [hp _ 4 (.int .u8 x4) rfl, Result.andThen_ok, hp _ 4 (.int .u8 y4) rfl]
  simp only [Result.andThen_ok, q]
  cases h4 : (x4 == y4)
  · simp
  simp only [Result.andThen_ok, Bool.not_true, Bool.false_eq_true, if_false, Sem.run_bind, Bool.true_and]
  rw [hp _ 5 (.int .u8 x5) rfl, Result.andThen_ok, hp _ 5 (.int .u8 y5) rfl]
  simp only [Result.andThen_ok, q]
  cases h5 : (x5 == y5)
  · simp
  · simp
def k87 : KeyG Tryz.prog Fd := eqlKeys (fun f => .agg #[.int .u8 f.sign, .int .u8 f.seen]) Tryz.underlying87 (fun a b => rfl)
  (fun a b w => by
    rw [eql87]
    congr 1
    rw [Bool.eq_iff_iff]
    obtain ⟨a1, a2⟩ := a
    obtain ⟨b1, b2⟩ := b
    simp) (fun a => by simp [Instr.sameBits]) (fun b a w => chk87 b _ _ w)
def k30 : KeyG Tryz.prog Sg := eqlKeys (fun s => .agg #[.int .u8 s.s0, .int .u8 s.s1, .int .u8 s.s2, .int .u8 s.s3, .int .u8 s.s4, .int .u8 s.s5]) Tryz.underlying30 (fun a b => rfl)
  (fun a b w => by
    rw [eql30]
    congr 1
    rw [Bool.eq_iff_iff]
    obtain ⟨a0, a1, a2, a3, a4, a5⟩ := a
    obtain ⟨b0, b1, b2, b3, b4, b5⟩ := b
    simp) (fun a => by simp [Instr.sameBits]) (fun b a w => chk30 b _ _ _ _ _ _ w)
def k3 : KeyG Tryz.prog Int := intKeys Tryz.underlying3
theorem zeroValue4 (w : World) : (zeroValue 4).run Tryz.prog w = .ok (.bool false) w := by kernel_rfl
theorem zeroValue22 (w : World) : (zeroValue 22).run Tryz.prog w = .ok (.slice none 0 0) w := by kernel_rfl

/-- whether something comes twice -/
def repB {α : Type} [DecidableEq α] (l : List α) : Bool := decide (¬ l.Nodup)
def seenF {α : Type} [DecidableEq α] (l : List α) (x : α) : Option Value := if x ∈ l then some (.bool true) else none
theorem seenF_snoc {α : Type} [DecidableEq α] (l : List α) (x : α) : ∀ k, (if k = x then some (Value.bool true) else seenF l k) = seenF (l ++ [x]) k := by
  intro k
  unfold seenF
  by_cases h : k = x
  · subst h; simp
  · simp [h]
theorem nodup_snoc {α : Type} {l : List α} {x : α} (h : l.Nodup) (hx : x ∉ l) : (l ++ [x]).Nodup := by
  rw [List.nodup_append]
  refine ⟨h, by simp, fun a ha b hb e => ?_⟩
  simp at hb
  subst hb; subst e
  exact hx ha
theorem rep_yes {α : Type} [DecidableEq α] {l : List α} {k : Nat} {x : α} (h : l[k]? = some x) (hx : x ∈ l.take k) : repB l = true := by
  unfold repB
  rw [decide_eq_true_eq]
  intro hn
  have hs : l = l.take k ++ l.drop k := (List.take_append_drop k l).symm
  rw [hs] at hn
  refine (List.nodup_append.1 hn).2.2 x hx x ?_ rfl
  rw [List.mem_iff_getElem?]
  exact ⟨0, by rw [List.getElem?_drop, Nat.add_zero]; exact h⟩
theorem rep_no {α : Type} [DecidableEq α] {l : List α} (h : l.Nodup) : repB l = false := by
  unfold repB; simp [h]

set_option maxRecDepth 100000 in
set_option maxHeartbeats 3200000 in
theorem repeats_fd (A : Option Addr) (n c : Nat) (xs : List Fd) (w : World) (hs : SlA fdC 2 Fd.ok w A n c xs) :
    Calls Tryz.prog 85 #[.slice A n c] w fun e w' => e = .returned (.bool (repB xs)) ∧ Kept w w' := by
  have HS := Lib.hid hs
  have hnc := hs.2.1
  have hcm := hs.2.2.1
  have hmm := @run_makeMap Tryz.prog
  have m0 := Lib.hid (MapG.new k87 w)
  clear hs
  go_enter Tryz.func85, Tryz.ntmps85
  go_wp2_with fail
  go_loopw [9] (fun i wr => ∃ k : Nat, k ≤ n ∧ i = .int .i64 k ∧ (xs.take k).Nodup ∧ MapG k87 wr w.heap.size (seenF (xs.take k)) ∧ Kept w wr) (fun i _ => n - (intOf i).toNat)
  case atStart => exact ⟨0, by omega, by first | rfl | go_num, by simp, MapG.congr k87 m0.out (fun k => by simp [seenF]), (Kept.refl _).alloc _⟩
  case round =>
    obtain ⟨k, hk, rfl, ho, hmap, hkr⟩ := hrel
    have Ho := Lib.hid ho
    have HKR := Lib.hid hkr
    have hsz := hkr.size
    clear ho hkr
    by_cases hlt : k < n
    · obtain ⟨x, hx⟩ : ∃ x, xs[k]? = some x := ⟨_, List.getElem?_eq_getElem (by rw [HS.out.1]; exact hlt)⟩
      obtain ⟨b, off, hA, ht⟩ := HS.out.2.2.2.2 (by omega)
      subst hA
      have hcc := fun j v hv => (HKR.out.cells _ _ (cell_lt (ht k x hx j v hv))).trans (ht k x hx j v hv)
      have c0 := hcc 0 _ rfl
      have c1 := hcc 1 _ rfl
      simp only [Nat.add_zero] at c0
      have Hx := Lib.hid hx
      have m2 := MapG.kept k87 hmap ((Kept.refl wr).alloc (.cells #[.int .u8 x.sign, .int .u8 x.seen] 87))
      clear hx ht hcc hmap
      by_cases hin : x ∈ xs.take k
      · have r2 := run_lookup_some k87 (T := 191) Tryz.underlying191 m2 (k := x) (v := .bool true) (by unfold seenF; rw [if_pos hin])
        simp only [k87, eqlKeys] at r2
        have HIN := Lib.hid hin
        clear hin m2
        go_wp2
        go_ret
        exact ⟨ret_bool (rep_yes Hx.out HIN.out).symm, HKR.out.alloc _⟩
      · have r2 := run_lookup_none k87 (T := 191) Tryz.underlying191 (z := .bool false) zeroValue4 m2 (k := x) (by unfold seenF; rw [if_neg hin])
        obtain ⟨w2, r3, m3, b3⟩ := run_mapUpdate_is k87 (T := 191) Tryz.underlying191 m2 x (.bool true)
        have M3 := Lib.hid (MapG.congr k87 m3 (seenF_snoc (xs.take k) x))
        have K3 := Lib.hid (Kept.only (HKR.out.alloc (.cells #[.int .u8 x.sign, .int .u8 x.seen] 87)) b3 (Nat.le_refl _))
        simp only [k87, eqlKeys] at r2 r3
        have HIN := Lib.hid hin
        clear hin m2 m3 b3
        go_wp2
        go_roundw
        case rel => exact ⟨k + 1, by omega, by go_num, by rw [take_snoc' Hx.out]; exact nodup_snoc Ho.out HIN.out, by rw [take_snoc' Hx.out]; exact M3.out, K3.out⟩
        case measure => simp [intOf]; omega
    · obtain rfl : k = n := by omega
      have hT : xs.take k = xs := List.take_of_length_le (by rw [HS.out.1]; exact Nat.le_refl _)
      have ho := Ho.out
      rw [hT] at ho
      have HO := Lib.hid ho
      clear hT ho
      go_wp2
      go_ret
      exact ⟨ret_bool (rep_no HO.out).symm, HKR.out⟩
end Go.Proofs.YtologmoanaccpaaGreatDoor
