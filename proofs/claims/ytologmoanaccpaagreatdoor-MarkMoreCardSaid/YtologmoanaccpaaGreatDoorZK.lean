/-
  how many bits a number has, as the bytes are added up
  OnesCount64, size
  Sure of the code and of the reference; the reference's answers are the code's
-/
import Derived.Test.YtologmoanaccpaaGreatDoorBE
import Derived.Test.YtologmoanaccpaaGreatDoorBA
import Derived.Test.YtologmoanaccpaaGreatDoorZG
import Derived.Test.YtologmoanaccpaaGreatDoorBN
namespace Go.Proofs.YtologmoanaccpaaGreatDoor
set_option linter.all false

def valB : List Nat → Nat
  | [] => 0
  | a :: l => a + 256 * valB l
def rep (m : Nat) : Nat → Nat
  | 0 => 0
  | k + 1 => m + 256 * rep m k
theorem and_byte {a m : Nat} (ha : a < 256) (hm : m < 256) (b n : Nat) : (a + 256 * b) &&& (m + 256 * n) = (a &&& m) + 256 * (b &&& n) := by
  have h256 : (256 : Nat) = 2 ^ 8 := rfl
  have hl : a &&& m < 2 ^ 8 := Nat.lt_of_le_of_lt Nat.and_le_left (by omega)
  apply Nat.eq_of_testBit_eq
  intro i
  rw [Nat.testBit_and, h256, Nat.add_comm a, Nat.add_comm m, Nat.add_comm (a &&& m), Nat.testBit_two_pow_mul_add _ (by omega), Nat.testBit_two_pow_mul_add _ (by omega), Nat.testBit_two_pow_mul_add _ hl]
  by_cases h : i < 8
  · rw [if_pos h, if_pos h, if_pos h, Nat.testBit_and]
  · rw [if_neg h, if_neg h, if_neg h, Nat.testBit_and]
def f1 (a : Nat) : Nat := (a / 2 &&& 85) + (a &&& 85)
def f2 (a : Nat) : Nat := (a / 4 &&& 51) + (a &&& 51)
def f3 (a : Nat) : Nat := (a / 16 + a) &&& 15
theorem d1 : ∀ a : Fin 128, ∀ r : Fin 2, ((a.val + 128 * r.val) &&& 85) = (a.val &&& 85) := by decide +kernel
theorem d2 : ∀ a : Fin 64, ∀ r : Fin 4, ((a.val + 64 * r.val) &&& 51) = (a.val &&& 51) := by decide +kernel
theorem d3 : ∀ h : Fin 5, ∀ l : Fin 5, ∀ r : Fin 5, ((h.val + 16 * r.val + (16 * h.val + l.val)) &&& 15) = ((h.val + (16 * h.val + l.val)) &&& 15) := by decide +kernel
theorem f1_all : ∀ a : Fin 256, f1 a.val < 256 := by decide +kernel
theorem f2_all : ∀ a : Fin 256, f2 (f1 a.val) / 16 ≤ 4 ∧ f2 (f1 a.val) % 16 ≤ 4 := by decide +kernel
def cnt (x n : Nat) : Nat := ((List.range n).filter fun i => x.testBit i).length
theorem f3_all : ∀ a : Fin 256, f3 (f2 (f1 a.val)) = cnt a.val 8 := by decide +kernel
def Bytes (l : List Nat) : Prop := ∀ a ∈ l, a < 256
theorem g1 : ∀ l : List Nat, Bytes l → (valB l / 2 &&& rep 85 l.length) + (valB l &&& rep 85 l.length) = valB (l.map f1)
  | [], _ => rfl
  | a :: l, h => by
    have ha := h a (List.mem_cons_self ..)
    have ih := g1 l fun x hx => h x (List.mem_cons_of_mem _ hx)
    rw [List.length_cons, List.map_cons, valB, valB, rep, ← ih, and_byte ha (by omega)]
    have e : (a + 256 * valB l) / 2 = (a / 2 + 128 * (valB l % 2)) + 256 * (valB l / 2) := by omega
    have hd := d1 ⟨a / 2, by omega⟩ ⟨valB l % 2, by omega⟩
    dsimp only at hd
    rw [e, and_byte (by omega) (by omega), hd]
    unfold f1
    omega
theorem g2 : ∀ l : List Nat, Bytes l → (valB l / 4 &&& rep 51 l.length) + (valB l &&& rep 51 l.length) = valB (l.map f2)
  | [], _ => rfl
  | a :: l, h => by
    have ha := h a (List.mem_cons_self ..)
    have ih := g2 l fun x hx => h x (List.mem_cons_of_mem _ hx)
    rw [List.length_cons, List.map_cons, valB, valB, rep, ← ih, and_byte ha (by omega)]
    have e : (a + 256 * valB l) / 4 = (a / 4 + 64 * (valB l % 4)) + 256 * (valB l / 4) := by omega
    have hd := d2 ⟨a / 4, by omega⟩ ⟨valB l % 4, by omega⟩
    dsimp only at hd
    rw [e, and_byte (by omega) (by omega), hd]
    unfold f2
    omega
theorem g3 : ∀ l : List Nat, (∀ a ∈ l, a / 16 ≤ 4 ∧ a % 16 ≤ 4) → ((valB l / 16 + valB l) &&& rep 15 l.length) = valB (l.map f3)
  | [], _ => rfl
  | a :: l, h => by
    obtain ⟨h1, h2⟩ := h a (List.mem_cons_self ..)
    have ih := g3 l fun x hx => h x (List.mem_cons_of_mem _ hx)
    have hm : valB l % 16 ≤ 4 := by
      cases l with
      | nil => simp [valB]
      | cons b l =>
        have := (h b (List.mem_cons_of_mem _ (List.mem_cons_self ..))).2
        rw [valB]
        omega
    rw [List.length_cons, List.map_cons, valB, valB, rep, ← ih]
    have e : (a + 256 * valB l) / 16 + (a + 256 * valB l) = (a / 16 + 16 * (valB l % 16) + (16 * (a / 16) + a % 16)) + 256 * (valB l / 16 + valB l) := by omega
    have hd := d3 ⟨a / 16, by omega⟩ ⟨a % 16, by omega⟩ ⟨valB l % 16, by omega⟩
    dsimp only at hd
    rw [e, and_byte (by omega) (by omega), hd]
    unfold f3
    rw [show 16 * (a / 16) + a % 16 = a by omega]
theorem cnt_byte {a : Nat} (ha : a < 256) (b n : Nat) : cnt (a + 256 * b) (8 + n) = cnt a 8 + cnt b n := by
  have h256 : (256 : Nat) = 2 ^ 8 := rfl
  unfold cnt
  rw [List.range_add, List.filter_append, List.length_append, List.filter_map, List.length_map]
  congr 1
  · congr 1
    apply List.filter_congr
    intro i hi
    rw [h256, Nat.add_comm a, Nat.testBit_two_pow_mul_add _ (by omega), if_pos (List.mem_range.1 hi)]
  · congr 1
    apply List.filter_congr
    intro i hi
    simp only [Function.comp]
    rw [h256, Nat.add_comm a, Nat.testBit_two_pow_mul_add _ (by omega), if_neg (by omega), show 8 + i - 8 = i by omega]
/-- the bytes of a number -/
def bys (x : Nat) : List Nat := [x % 256, x / 256 % 256, x / 65536 % 256, x / 16777216 % 256, x / 4294967296 % 256, x / 1099511627776 % 256, x / 281474976710656 % 256, x / 72057594037927936 % 256]
theorem bys_val {x : Nat} (hx : x < 18446744073709551616) : valB (bys x) = x := by
  simp only [bys, valB]
  omega
theorem bys_ok (x : Nat) : Bytes (bys x) := by
  intro a ha
  simp only [bys, List.mem_cons, List.not_mem_nil, or_false] at ha
  omega
def ones (x : Nat) : Nat :=
  let x1 := (x / 2 &&& 6148914691236517205) + (x &&& 6148914691236517205)
  let x2 := (x1 / 4 &&& 3689348814741910323) + (x1 &&& 3689348814741910323)
  let x3 := (x2 / 16 + x2) &&& 1085102592571150095
  let x4 := x3 + x3 / 256
  let x5 := x4 + x4 / 65536
  let x6 := x5 + x5 / 4294967296
  x6 % 128
theorem add_up {c0 c1 c2 c3 c4 c5 c6 c7 : Nat} (h0 : c0 ≤ 8) (h1 : c1 ≤ 8) (h2 : c2 ≤ 8) (h3 : c3 ≤ 8) (h4 : c4 ≤ 8) (h5 : c5 ≤ 8) (h6 : c6 ≤ 8) (h7 : c7 ≤ 8) {x3 x4 x5 x6 : Nat}
    (e3 : x3 = valB [c0, c1, c2, c3, c4, c5, c6, c7]) (e4 : x4 = x3 + x3 / 256) (e5 : x5 = x4 + x4 / 65536) (e6 : x6 = x5 + x5 / 4294967296) : x6 % 128 = c0 + c1 + c2 + c3 + c4 + c5 + c6 + c7 := by
  simp only [valB] at e3
  have d3 : x3 / 256 = c1 + 256 * (c2 + 256 * (c3 + 256 * (c4 + 256 * (c5 + 256 * (c6 + 256 * c7))))) := by omega
  have v4 : x4 = (c0 + c1) + 256 * ((c1 + c2) + 256 * ((c2 + c3) + 256 * ((c3 + c4) + 256 * ((c4 + c5) + 256 * ((c5 + c6) + 256 * ((c6 + c7) + 256 * c7)))))) := by omega
  clear e3 e4 d3
  have d4 : x4 / 65536 = (c2 + c3) + 256 * ((c3 + c4) + 256 * ((c4 + c5) + 256 * ((c5 + c6) + 256 * ((c6 + c7) + 256 * c7)))) := by omega
  have v5 : x5 = (c0 + c1 + c2 + c3) + 256 * ((c1 + c2 + c3 + c4) + 256 * ((c2 + c3 + c4 + c5) + 256 * ((c3 + c4 + c5 + c6) + 256 * ((c4 + c5 + c6 + c7) + 256 * ((c5 + c6 + c7) + 256 * ((c6 + c7) + 256 * c7)))))) := by omega
  clear v4 e5 d4
  have d5 : x5 / 4294967296 = (c4 + c5 + c6 + c7) + 256 * ((c5 + c6 + c7) + 256 * ((c6 + c7) + 256 * c7)) := by omega
  have v6 : x6 = (c0 + c1 + c2 + c3 + c4 + c5 + c6 + c7) + 256 * ((c1 + c2 + c3 + c4 + c5 + c6 + c7) + 256 * ((c2 + c3 + c4 + c5 + c6 + c7) + 256 * ((c3 + c4 + c5 + c6 + c7) + 256 * ((c4 + c5 + c6 + c7) + 256 * ((c5 + c6 + c7) + 256 * ((c6 + c7) + 256 * c7)))))) := by omega
  clear v5 e6 d5
  omega
theorem ones_cnt {x : Nat} (hx : x < 18446744073709551616) : ones x = cnt x 64 := by
  have hb := bys_ok x
  have e1 := g1 (bys x) hb
  have hv := bys_val hx
  have hl : (bys x).length = 8 := rfl
  rw [hv, hl, show rep 85 8 = 6148914691236517205 by decide] at e1
  have hb1 : Bytes ((bys x).map f1) := fun a ha => by
    obtain ⟨b, hb', rfl⟩ := List.mem_map.1 ha
    exact f1_all ⟨b, hb b hb'⟩
  have e2 := g2 _ hb1
  rw [List.length_map, hl, show rep 51 8 = 3689348814741910323 by decide, ← e1] at e2
  have hb2 : ∀ a ∈ ((bys x).map f1).map f2, a / 16 ≤ 4 ∧ a % 16 ≤ 4 := fun a ha => by
    obtain ⟨b, hb', rfl⟩ := List.mem_map.1 ha
    obtain ⟨c, hc', rfl⟩ := List.mem_map.1 hb'
    exact f2_all ⟨c, hb c hc'⟩
  have e3 := g3 _ hb2
  rw [List.length_map, List.length_map, hl, show rep 15 8 = 1085102592571150095 by decide, ← e2, List.map_map, List.map_map] at e3
  have hf : ∀ a, a < 256 → (f3 ∘ f2 ∘ f1) a = cnt a 8 := fun a ha => f3_all ⟨a, ha⟩
  have hc8 : ∀ a, cnt a 8 ≤ 8 := fun a => by unfold cnt; exact Nat.le_trans (List.length_filter_le _ _) (by simp)
  have hq : cnt x 64 = cnt (x % 256) 8 + cnt (x / 256 % 256) 8 + cnt (x / 65536 % 256) 8 + cnt (x / 16777216 % 256) 8 + cnt (x / 4294967296 % 256) 8 + cnt (x / 1099511627776 % 256) 8 + cnt (x / 281474976710656 % 256) 8 + cnt (x / 72057594037927936 % 256) 8 := by
    conv => lhs; rw [← hv]
    simp only [bys, valB]
    rw [show (64 : Nat) = 8 + (8 + (8 + (8 + (8 + (8 + (8 + (8 + 0))))))) from rfl, cnt_byte (by omega), cnt_byte (by omega), cnt_byte (by omega), cnt_byte (by omega), cnt_byte (by omega), cnt_byte (by omega), cnt_byte (by omega), cnt_byte (by omega)]
    simp only [cnt, List.range_zero, List.filter_nil, List.length_nil]
    omega
  rw [hq]
  unfold ones
  dsimp only
  rw [← hf _ (Nat.mod_lt _ (by omega)), ← hf _ (Nat.mod_lt _ (by omega)), ← hf _ (Nat.mod_lt _ (by omega)), ← hf _ (Nat.mod_lt _ (by omega)), ← hf _ (Nat.mod_lt _ (by omega)), ← hf _ (Nat.mod_lt _ (by omega)), ← hf _ (Nat.mod_lt _ (by omega)), ← hf _ (Nat.mod_lt _ (by omega))]
  have hle : ∀ a, a < 256 → (f3 ∘ f2 ∘ f1) a ≤ 8 := fun a ha => by rw [hf a ha]; exact hc8 a
  exact add_up (hle _ (Nat.mod_lt _ (by omega))) (hle _ (Nat.mod_lt _ (by omega))) (hle _ (Nat.mod_lt _ (by omega))) (hle _ (Nat.mod_lt _ (by omega))) (hle _ (Nat.mod_lt _ (by omega))) (hle _ (Nat.mod_lt _ (by omega))) (hle _ (Nat.mod_lt _ (by omega))) (hle _ (Nat.mod_lt _ (by omega))) (e3.trans rfl) rfl rfl rfl
theorem ones_bits {x : Nat} (hx : x < 18446744073709551616) : ones x = (bitsK x 64).length := ones_cnt hx
end Go.Proofs.YtologmoanaccpaaGreatDoor

namespace Go.Proofs.YtologmoanaccpaaGreatDoor
set_option linter.all false
open Go.RowKit

theorem wrap_lt {a : Nat} (h : a < 18446744073709551616) : IntKind.u64.wrap (a : Int) = (a : Int) := by rw [IntKind.wrap_u64]; omega
theorem and127 (a : Nat) (h : a < 9223372036854775808) : bits BinOp.and IntKind.i64 (a : Int) 127 = ((a % 128 : Nat) : Int) := by
  have h1 := (bits_nat .i64 63 (by decide) (fun n h0 h1 => IntWalk.i64_in _ (by omega)) a 127 (by simpa using h) (by decide)).1
  rw [show (127 : Int) = ((127 : Nat) : Int) from rfl, h1, show (127 : Nat) = 2 ^ 7 - 1 from rfl, Nat.and_two_pow_sub_one_eq_mod]
set_option maxRecDepth 100000 in
set_option maxHeartbeats 1600000 in
theorem onesX_any (x : Nat) (hx : x < 18446744073709551616) (w : World) : Calls Tryz.prog 161 #[.int .u64 (x : Int)] w fun e w' => e = .returned (.int .i64 ((ones x : Nat) : Int)) ∧ w = w' := by
  obtain ⟨M0, hM0⟩ : ∃ m : Nat, m = 6148914691236517205 := ⟨_, rfl⟩
  obtain ⟨M1, hM1⟩ : ∃ m : Nat, m = 3689348814741910323 := ⟨_, rfl⟩
  obtain ⟨M2, hM2⟩ : ∃ m : Nat, m = 1085102592571150095 := ⟨_, rfl⟩
  obtain ⟨p1, hp1⟩ : ∃ n, n = x / 2 &&& 6148914691236517205 := ⟨_, rfl⟩
  obtain ⟨q1, hq1⟩ : ∃ n, n = x &&& 6148914691236517205 := ⟨_, rfl⟩
  obtain ⟨x1, hx1⟩ : ∃ n, n = p1 + q1 := ⟨_, rfl⟩
  obtain ⟨p2, hp2⟩ : ∃ n, n = x1 / 4 &&& 3689348814741910323 := ⟨_, rfl⟩
  obtain ⟨q2, hq2⟩ : ∃ n, n = x1 &&& 3689348814741910323 := ⟨_, rfl⟩
  obtain ⟨x2, hx2⟩ : ∃ n, n = p2 + q2 := ⟨_, rfl⟩
  obtain ⟨z3, hz3⟩ : ∃ n, n = x2 / 16 + x2 := ⟨_, rfl⟩
  obtain ⟨x3, hx3⟩ : ∃ n, n = z3 &&& 1085102592571150095 := ⟨_, rfl⟩
  obtain ⟨x4, hx4⟩ : ∃ n, n = x3 + x3 / 256 := ⟨_, rfl⟩
  obtain ⟨x5, hx5⟩ : ∃ n, n = x4 + x4 / 65536 := ⟨_, rfl⟩
  obtain ⟨x6, hx6⟩ : ∃ n, n = x5 + x5 / 4294967296 := ⟨_, rfl⟩
  obtain ⟨r, hr⟩ : ∃ n, n = x6 % 128 := ⟨_, rfl⟩
  have HR : RowKit.Hid (ones x = r) := Lib.hid (by rw [hr, hx6, hx5, hx4, hx3, hz3, hx2, hq2, hp2, hx1, hq1, hp1]; rfl)
  have b1 : p1 ≤ 6148914691236517205 := by rw [hp1]; exact Nat.and_le_right
  have b2 : q1 ≤ 6148914691236517205 := by rw [hq1]; exact Nat.and_le_right
  have b3 : p2 ≤ 3689348814741910323 := by rw [hp2]; exact Nat.and_le_right
  have b4 : q2 ≤ 3689348814741910323 := by rw [hq2]; exact Nat.and_le_right
  have b5 : x3 ≤ 1085102592571150095 := by rw [hx3]; exact Nat.and_le_right
  have A1 : RowKit.Hid (bits BinOp.and IntKind.u64 ((x : Int) / 2) 6148914691236517205 = (p1 : Int)) := Lib.hid (by rw [hp1]; exact bits_and_u64_nat (x / 2) 6148914691236517205 (by omega) (by omega))
  have A2 : RowKit.Hid (bits BinOp.and IntKind.u64 (x : Int) 6148914691236517205 = (q1 : Int)) := Lib.hid (by rw [hq1]; exact bits_and_u64_nat x 6148914691236517205 hx (by omega))
  have A3 : RowKit.Hid (IntKind.u64.wrap ((p1 : Int) + (q1 : Int)) = (x1 : Int)) := Lib.hid (by rw [hx1]; exact wrap_lt (a := p1 + q1) (by omega))
  have B1 : RowKit.Hid (bits BinOp.and IntKind.u64 ((x1 : Int) / 4) 3689348814741910323 = (p2 : Int)) := Lib.hid (by rw [hp2]; exact bits_and_u64_nat (x1 / 4) 3689348814741910323 (by omega) (by omega))
  have B2 : RowKit.Hid (bits BinOp.and IntKind.u64 (x1 : Int) 3689348814741910323 = (q2 : Int)) := Lib.hid (by rw [hq2]; exact bits_and_u64_nat x1 3689348814741910323 (by omega) (by omega))
  have B3 : RowKit.Hid (IntKind.u64.wrap ((p2 : Int) + (q2 : Int)) = (x2 : Int)) := Lib.hid (by rw [hx2]; exact wrap_lt (a := p2 + q2) (by omega))
  have C1 : RowKit.Hid (IntKind.u64.wrap ((x2 : Int) / 16 + (x2 : Int)) = (z3 : Int)) := Lib.hid (by rw [hz3]; exact wrap_lt (a := x2 / 16 + x2) (by omega))
  have C2 : RowKit.Hid (bits BinOp.and IntKind.u64 (z3 : Int) 1085102592571150095 = (x3 : Int)) := Lib.hid (by rw [hx3]; exact bits_and_u64_nat z3 1085102592571150095 (by omega) (by omega))
  have D1 : RowKit.Hid (IntKind.u64.wrap ((x3 : Int) + (x3 : Int) / 256) = (x4 : Int)) := Lib.hid (by rw [hx4]; exact wrap_lt (a := x3 + x3 / 256) (by omega))
  have D2 : RowKit.Hid (IntKind.u64.wrap ((x4 : Int) + (x4 : Int) / 65536) = (x5 : Int)) := Lib.hid (by rw [hx5]; exact wrap_lt (a := x4 + x4 / 65536) (by omega))
  have D3 : RowKit.Hid (IntKind.u64.wrap ((x5 : Int) + (x5 : Int) / 4294967296) = (x6 : Int)) := Lib.hid (by rw [hx6]; exact wrap_lt (a := x5 + x5 / 4294967296) (by omega))
  have b6 : x6 < 9223372036854775808 := by omega
  have D4 : RowKit.Hid (bits BinOp.and IntKind.i64 (x6 : Int) 127 = (r : Int)) := Lib.hid (by rw [hr]; exact and127 x6 b6)
  have D5 : RowKit.Hid (wrap64 (x6 : Int) = (x6 : Int)) := Lib.hid (by unfold wrap64; omega)
  clear hM0 hM1 hM2 hp1 hq1 hx1 hp2 hq2 hx2 hz3 hx3 hx4 hx5 hx6 hr b1 b2 b3 b4 b5 b6 hx
  go_enter Tryz.func161, Tryz.ntmps161
  go_upto_region 2 with (fail)
  simp only [A1.out, A2.out, A3.out]
  go_upto_region 3 with (fail)
  simp only [B1.out, B2.out, B3.out]
  go_upto_region 4 with (fail)
  simp only [C1.out, C2.out]
  go_upto_region 5 with (fail)
  simp only [D1.out]
  go_upto_region 6 with (fail)
  simp only [D2.out]
  go_upto_region 7 with (fail)
  simp only [D3.out]
  go_wp2_with fail
  go_ret
  refine ⟨?_, rfl⟩
  rw [HR.out]
  show Ending.returned (Value.int .i64 (bits BinOp.and IntKind.i64 (wrap64 (x6 : Int)) 127)) = _
  rw [D5.out, D4.out]
set_option maxRecDepth 100000 in
theorem size_any (x : Nat) (hx : x < 18446744073709551616) (w : World) : Calls Tryz.prog 98 #[.int .u64 (x : Int)] w fun e w' => e = .returned (.int .i64 (((bitsK x 64).length : Nat) : Int)) ∧ w = w' := by
  have H := Lib.hid (onesX_any x hx w)
  rw [ones_bits hx] at H
  clear hx
  go_enter Tryz.func98, Tryz.ntmps98
  go_wp2_with fail
  refine H.out.mono ?_
  rintro e w1 ⟨rfl, rfl⟩
  go_wp2_with fail
  go_ret
  exact ⟨rfl, rfl⟩
end Go.Proofs.YtologmoanaccpaaGreatDoor

namespace Go.Proofs.YtologmoanaccpaaGreatDoor
set_option linter.all false
open Go.RowKit Go.Shelf

/-- the code's owners, by the reference -/
theorem olR_eq {ms : List Mk} {fs : List Fd} {day : Int} {s : Sg} (hok : ∀ m ∈ ms, m.ok) (hfo : ∀ f ∈ fs, f.ok) (hso : s.ok) (h : smE ms fs = 0) : olR ms fs day s 40 = lsI (ownD ms fs day s) := by
  obtain ⟨_, _, hv, _, _, hcl⟩ := sm_ok h
  have hb : ∀ o : Nat, (ownD ms fs day s).testBit o = fitR ms fs day s (o : Int) := fun o => by rw [ownD_bit hcl hv, fitR_O hok hfo hso]
  have hlt : ownD ms fs day s < 2 ^ 41 := ownN_lt fs s (frcL ms day) 0 (by omega) (fun m hm => by
    have := hv m (List.mem_filter.1 hm).1
    unfold markB at this
    simp only [Bool.and_eq_true] at this
    exact (inB_iff.1 this.1.1.1.1).2)
  have h0 : (ownD ms fs day s).testBit 0 = false := by
    rw [ownD_bit hcl hv]
    unfold fitO
    cases e : mkAt ms day ((0 : Nat) : Int) with
    | none => rfl
    | some m =>
      obtain ⟨h1, h2⟩ := (mkAt_iff hcl).1 e
      have := hv m (List.mem_filter.1 h1).1
      unfold markB at this
      simp only [Bool.and_eq_true] at this
      have := (inB_iff.1 this.1.1.1.1).1
      simp at h2
      omega
  unfold lsI
  have e41 : bitsK (ownD ms fs day s) 64 = bitsK (ownD ms fs day s) 41 := bitsK_same (by omega) fun i hi _ => Nat.testBit_lt_two_pow (Nat.lt_of_lt_of_le hlt (Nat.pow_le_pow_right (by omega) hi))
  have hR : (List.range 41).filter (fun i => (ownD ms fs day s).testBit i) = ((List.range 40).filter fun i : Nat => fitR ms fs day s ((i : Int) + 1)).map Nat.succ := by
    rw [List.range_succ_eq_map, List.filter_cons, h0]
    simp only [Bool.false_eq_true, if_false]
    rw [List.filter_map]
    congr 1
    apply List.filter_congr
    intro i _
    simp only [Function.comp]
    rw [hb]
    push_cast
    rfl
  rw [e41]
  unfold olR bitsK
  rw [hR, List.map_map]
  apply List.map_congr_left
  intro i _
  simp
def olL (ms : List Mk) (fs : List Fd) (day : Int) (s : Sg) : List Int := if owE ms fs day s = 0 then lsI (ownD ms fs day s) else []
theorem owW_eq {ms : List Mk} {fs : List Fd} {day : Int} {s : Sg} (hok : ∀ m ∈ ms, m.ok) (hfo : ∀ f ∈ fs, f.ok) (hso : s.ok) : owW ms fs day s = (olL ms fs day s, owE ms fs day s) := by
  have e : owE ms fs day s = if inE ms fs day ≠ 0 then inE ms fs day else errB (sightB s) := by
    unfold owE inE
    unfold fstE
    by_cases h1 : smE ms fs = 0
    · rw [if_pos h1, if_pos h1]
      unfold fstE
      by_cases h2 : errB (inB day 0 100000) = 0
      · rw [if_pos h2, if_pos h2]
        rw [if_neg (by simp [fstE])]
        unfold fstE
        by_cases h3 : errB (sightB s) = 0
        · rw [if_pos h3, h3]; rfl
        · rw [if_neg h3]
      · rw [if_neg h2, if_neg h2, if_pos h2]
    · rw [if_neg h1, if_neg h1, if_pos h1]
  by_cases hi : inE ms fs day = 0
  · have e' : owE ms fs day s = errB (sightB s) := by rw [e, if_neg (by rw [hi]; simp)]
    unfold owW olL
    rw [e', if_neg (show ¬ (inE ms fs day ≠ 0) by rw [hi]; simp)]
    cases hs : sightB s
    · rfl
    · rw [if_pos rfl, olR_eq hok hfo hso (fstE_two hi).1]; rfl
  · have e' : owE ms fs day s = inE ms fs day := by rw [e, if_pos hi]
    unfold owW olL
    rw [e', if_pos hi, if_neg hi]
theorem moE_ft (ms : List Mk) (fs : List Fd) (day o : Int) (s : Sg) : ftE ms fs day s o = if moE ms fs day o ≠ 0 then moE ms fs day o else errB (sightB s) := by
  unfold ftE moE
  unfold fstE
  by_cases h1 : smE ms fs = 0
  · rw [if_pos h1, if_pos h1]
    unfold fstE
    by_cases h2 : errB (inB day 0 100000) = 0
    · rw [if_pos h2, if_pos h2]
      unfold fstE
      by_cases h3 : errB (inB o 1 40) = 0
      · rw [if_pos h3, if_pos h3, if_neg (by simp [fstE])]
        unfold fstE
        by_cases h4 : errB (sightB s) = 0
        · rw [if_pos h4, h4]; rfl
        · rw [if_neg h4]
      · rw [if_neg h3, if_neg h3, if_pos h3]
    · rw [if_neg h2, if_neg h2, if_pos h2]
  · rw [if_neg h1, if_neg h1, if_pos h1]
theorem FtP.get {w w' : World} {ms : List Mk} {fs : List Fd} {day o : Int} {s : Sg} {e : Ending} (hok : ∀ m ∈ ms, m.ok) (hfo : ∀ f ∈ fs, f.ok) (hso : s.ok) (h : FtP w ms fs day s o e w') : e = .returned (.tuple #[.bool (ftW ms fs day s o).1, .int .i64 (ftW ms fs day s o).2]) ∧ Kept w w' := by
  obtain ⟨hc, hk⟩ := h
  refine ⟨?_, hk⟩
  rw [moE_ft] at hc
  unfold ftW
  by_cases hm : moE ms fs day o = 0
  · rw [if_neg (by rw [hm]; simp)] at hc ⊢
    cases hs : sightB s
    · rw [hs] at hc
      rcases hc with ⟨_, rfl⟩ | ⟨h, _⟩
      · rfl
      · exact absurd h (by decide)
    · rw [hs] at hc
      rcases hc with ⟨h, _⟩ | ⟨_, rfl⟩
      · exact absurd rfl h
      · obtain ⟨e1, _, e3⟩ := fstE_three hm
        obtain ⟨_, _, hv, _, _, hcl⟩ := sm_ok e1
        have ho := inB_iff.1 (errB_0 e3)
        rw [if_pos rfl, fitR_O hok hfo hso, ← show ((o.toNat : Nat) : Int) = o by omega, ← ownD_bit hcl hv, Int.toNat_natCast]
  · rw [if_pos hm] at hc ⊢
    rcases hc with ⟨_, rfl⟩ | ⟨h, _⟩
    · rfl
    · exact absurd h hm
/-- what Sure says -/
def suV (l : List Int) (E : Int) : Int × Bool × Int := if E ≠ 0 ∨ l.length ≠ 1 then (0, false, E) else (l.getD 0 0, true, 0)
def SuP (w : World) (v : Int × Bool × Int) (e : Ending) (w' : World) : Prop := e = .returned (.tuple #[.int .i64 v.1, .bool v.2.1, .int .i64 v.2.2]) ∧ Kept w w'
set_option maxRecDepth 100000 in
set_option maxHeartbeats 3200000 in
theorem rSure_any (A B : Option Addr) (n c m d : Nat) (ms : List Mk) (fs : List Fd) (day : Int) (s : Sg) (hso : s.ok) (w : World) (hs : SmA w A n c ms B m d fs) :
    Calls Tryz.prog 33 #[.agg #[.slice A n c, .slice B m d], .int .i64 day, .agg #[.int .u8 s.s0, .int .u8 s.s1, .int .u8 s.s2, .int .u8 s.s3, .int .u8 s.s4, .int .u8 s.s5]] w (SuP w (suV (owW ms fs day s).1 (owW ms fs day s).2)) := by
  obtain ⟨W0, hW0⟩ : ∃ W0, W0 = (w.alloc (.cells #[.slice A n c, .slice B m d] 25)).alloc (.cells #[.int .u8 s.s0, .int .u8 s.s1, .int .u8 s.s2, .int .u8 s.s3, .int .u8 s.s4, .int .u8 s.s5] 39) := ⟨_, rfl⟩
  have K0 : RowKit.Hid (Kept w W0) := Lib.hid (by rw [hW0]; exact ((Kept.refl _).alloc _).alloc _)
  have R0 : RowKit.Hid (RowC W0 w.heap.size [.slice A n c, .slice B m d]) := Lib.hid (by rw [hW0]; exact (RowC.new w [.slice A n c, .slice B m d] 25).kept ((Kept.refl _).alloc _))
  have RS : RowKit.Hid (RowC W0 (w.heap.size + 1) (sgV s)) := Lib.hid (by rw [hW0]; have h := RowC.new (w.alloc (.cells #[.slice A n c, .slice B m d] 25)) (sgV s) 39; rwa [World.size_alloc] at h)
  have HW := Lib.hid hW0
  have HS := Lib.hid (hs.kept K0.out)
  have HOW : RowKit.Hid (∀ W, Kept W0 W → Calls Tryz.prog 31 #[.agg #[.slice A n c, .slice B m d], .int .i64 day, .agg #[.int .u8 s.s0, .int .u8 s.s1, .int .u8 s.s2, .int .u8 s.s3, .int .u8 s.s4, .int .u8 s.s5]] W (OwW W ms fs day s)) := Lib.hid (fun W hW => rOwners_any A B n c m d ms fs day s hso W (HS.out.kept hW))
  obtain ⟨⟨l, E⟩, hv⟩ : ∃ q, owW ms fs day s = q := ⟨_, rfl⟩
  have HV := Lib.hid hv
  rw [hv]
  dsimp only
  clear hv
  have a0 := (R0.out 0 _ rfl).1
  have a1 := (R0.out 1 _ rfl).1
  have la := cell_lt a0
  clear hW0 hs
  go_enter Tryz.func33, Tryz.ntmps33
  go_upto_region 1 with (fail)
  rw [← HW.out]
  have s0 := (RS.out 0 _ rfl).1
  have s1 := (RS.out 1 _ rfl).1
  have s2 := (RS.out 2 _ rfl).1
  have s3 := (RS.out 3 _ rfl).1
  have s4 := (RS.out 4 _ rfl).1
  have s5 := (RS.out 5 _ rfl).1
  have ls := cell_lt s0
  go_wp2_with fail
  refine (HOW.out _ (Kept.refl _)).mono ?_
  rintro e w1 ⟨A5, n5, c5, he, hia, hk1⟩
  rw [HV.out] at he hia
  dsimp only at he hia
  obtain rfl := he
  have K1 := Lib.hid (K0.out.trans hk1)
  have HIA := Lib.hid hia
  clear hia hk1 a0 a1 la s0 s1 s2 s3 s4 s5 ls
  by_cases h0 : E = 0
  rotate_left
  · have h1 : (E == 0) = false := by simpa using h0
    have HF : RowKit.Hid (suV l E = (0, false, E)) := Lib.hid (by unfold suV; rw [if_pos (.inl h0)])
    clear h0
    go_wp2_with fail
    go_ret3
    exact ⟨by rw [HF.out]; rfl, K1.out⟩
  subst h0
  by_cases hn : n5 = 1
  rotate_left
  · have h1 : ((n5 : Int) != 1) = true := by simp; omega
    have h2 : ((n5 : Int) == 1) = false := by simp; omega
    have HF : RowKit.Hid (suV l 0 = (0, false, 0)) := Lib.hid (by unfold suV; rw [if_pos (.inr (by rw [HIA.out.1]; exact hn))])
    clear hn
    go_wp2_with fail
    go_ret3
    exact ⟨by rw [HF.out]; rfl, K1.out⟩
  subst hn
  obtain ⟨b, off, hA, hc⟩ := HIA.out.2.2.2 (by omega)
  subst hA
  obtain ⟨y, hy⟩ : ∃ y, l[0]? = some y := ⟨_, List.getElem?_eq_getElem (by rw [HIA.out.1]; omega)⟩
  have q1 := hc 0 y hy
  simp only [Nat.add_zero] at q1
  have lq := cell_lt q1
  have HF : RowKit.Hid (suV l 0 = (y, true, 0)) := Lib.hid (by unfold suV; rw [if_neg (by rw [HIA.out.1]; simp), List.getD_eq_getElem?_getD, hy]; rfl)
  clear hc hy
  go_wp2_with fail
  go_ret3
  exact ⟨by rw [HF.out]; rfl, K1.out⟩
set_option maxRecDepth 100000 in
set_option maxHeartbeats 3200000 in
theorem sure_any (A B : Option Addr) (n c m d : Nat) (ms : List Mk) (fs : List Fd) (day : Int) (s : Sg) (hso : s.ok) (w : World) (hs : SmA w A n c ms B m d fs) (hE : EnvT w) :
    Calls Tryz.prog 32 #[.agg #[.slice A n c, .slice B m d], .int .i64 day, .agg #[.int .u8 s.s0, .int .u8 s.s1, .int .u8 s.s2, .int .u8 s.s3, .int .u8 s.s4, .int .u8 s.s5]] w (SuP w (suV (olL ms fs day s) (owE ms fs day s))) := by
  obtain ⟨W0, hW0⟩ : ∃ W0, W0 = (w.alloc (.cells #[.slice A n c, .slice B m d] 25)).alloc (.cells #[.int .u8 s.s0, .int .u8 s.s1, .int .u8 s.s2, .int .u8 s.s3, .int .u8 s.s4, .int .u8 s.s5] 39) := ⟨_, rfl⟩
  have K0 : RowKit.Hid (Kept w W0) := Lib.hid (by rw [hW0]; exact ((Kept.refl _).alloc _).alloc _)
  have R0 : RowKit.Hid (RowC W0 w.heap.size [.slice A n c, .slice B m d]) := Lib.hid (by rw [hW0]; exact (RowC.new w [.slice A n c, .slice B m d] 25).kept ((Kept.refl _).alloc _))
  have RS : RowKit.Hid (RowC W0 (w.heap.size + 1) (sgV s)) := Lib.hid (by rw [hW0]; have h := RowC.new (w.alloc (.cells #[.slice A n c, .slice B m d] 25)) (sgV s) 39; rwa [World.size_alloc] at h)
  have HW := Lib.hid hW0
  have HS := Lib.hid (hs.kept K0.out)
  have HOW : RowKit.Hid (∀ W, Kept W0 W → Calls Tryz.prog 95 #[.agg #[.slice A n c, .slice B m d], .int .i64 day, .agg #[.int .u8 s.s0, .int .u8 s.s1, .int .u8 s.s2, .int .u8 s.s3, .int .u8 s.s4, .int .u8 s.s5]] W (OwP W ms fs day s)) := Lib.hid (fun W hW => ownersOf_any A B n c m d ms fs day s W (HS.out.kept hW) hso)
  have HE := Lib.hid (hE.kept K0.out)
  have HSZ : RowKit.Hid (∀ (x : Nat) W, x < 18446744073709551616 → Calls Tryz.prog 98 #[.int .u64 (x : Int)] W fun e w' => e = .returned (.int .i64 (((bitsK x 64).length : Nat) : Int)) ∧ W = w') := Lib.hid (fun x W hx => size_any x hx W)
  have HSZ0 : RowKit.Hid (∀ W, Calls Tryz.prog 98 #[.int .u64 0] W fun e w' => e = .returned (.int .i64 0) ∧ W = w') := Lib.hid (fun W => by
    have h := size_any 0 (by omega) W
    rw [(bitsK_nil (by omega)).2 rfl] at h
    exact h)
  clear hE
  obtain ⟨E, hEq⟩ : ∃ E, owE ms fs day s = E := ⟨_, rfl⟩
  have HEE := Lib.hid hEq
  obtain ⟨LL, hLL⟩ : ∃ LL, olL ms fs day s = LL := ⟨_, rfl⟩
  have HLE : RowKit.Hid (LL = if E = 0 then lsI (ownD ms fs day s) else []) := Lib.hid (by rw [← hLL, ← hEq]; rfl)
  rw [hEq, hLL]
  clear hEq hLL
  have a0 := (R0.out 0 _ rfl).1
  have a1 := (R0.out 1 _ rfl).1
  have la := cell_lt a0
  clear hW0 hs
  go_enter Tryz.func32, Tryz.ntmps32
  go_upto_region 1 with (fail)
  rw [← HW.out]
  have s0 := (RS.out 0 _ rfl).1
  have s1 := (RS.out 1 _ rfl).1
  have s2 := (RS.out 2 _ rfl).1
  have s3 := (RS.out 3 _ rfl).1
  have s4 := (RS.out 4 _ rfl).1
  have s5 := (RS.out 5 _ rfl).1
  have ls := cell_lt s0
  go_wp2_with fail
  refine (HOW.out _ (Kept.refl _)).mono ?_
  rintro e w1 ⟨hcs, hk1⟩
  rw [HEE.out] at hcs
  have K1 := Lib.hid hk1
  clear hk1 a0 a1 la s0 s1 s2 s3 s4 s5 ls
  rcases hcs with ⟨h0, rfl⟩ | ⟨h0, h64, rfl⟩
  · have HF : RowKit.Hid (suV LL E = (0, false, E)) := Lib.hid (by unfold suV; rw [if_pos (.inl h0)])
    clear h0
    go_wp2_with fail
    refine (HSZ0.out _).mono ?_
    rintro e w2 ⟨rfl, rfl⟩
    go_wp2_with fail
    go_ret3
    exact ⟨by rw [HF.out]; rfl, K0.out.trans K1.out⟩
  · subst h0
    obtain ⟨D, hD⟩ : ∃ D, ownD ms fs day s = D := ⟨_, rfl⟩
    rw [hD] at h64 HLE ⊢
    have HLD : RowKit.Hid (LL = lsI D) := Lib.hid (by rw [HLE.out, if_pos rfl])
    have HLL := Lib.hid (list_any D (by simpa using h64) w1 (HE.out.kept K1.out))
    have HZ := Lib.hid (HSZ.out D w1 (by simpa using h64))
    obtain ⟨N, hN⟩ : ∃ N, (bitsK D 64).length = N := ⟨_, rfl⟩
    rw [hN] at HZ
    clear hD h64
    by_cases h1 : N = 1
    rotate_left
    · have e1 : ((N : Int) != 1) = true := by simp; omega
      have e2 : ((N : Int) == 1) = false := by simp; omega
      have HF : RowKit.Hid (suV LL 0 = (0, false, 0)) := Lib.hid (by rw [HLD.out]; unfold suV; rw [if_pos (.inr (by rw [lsI_len, hN]; exact h1))])
      clear h1 hN
      go_wp2_with fail
      refine HZ.out.mono ?_
      rintro e w2 ⟨rfl, rfl⟩
      go_wp2_with fail
      go_ret3
      exact ⟨by rw [HF.out]; rfl, K0.out.trans K1.out⟩
    · subst h1
      have HN := Lib.hid hN
      clear hN
      go_wp2_with fail
      refine HZ.out.mono ?_
      rintro e w2 ⟨rfl, rfl⟩
      go_wp2_with fail
      refine HLL.out.mono ?_
      rintro e w3 ⟨v, rfl, ho, hk3⟩
      have K3 := Lib.hid (K1.out.trans hk3)
      rw [HN.out] at ho
      obtain ⟨A5, c5, rfl, hia⟩ := intA_own ho HN.out (by omega) (by omega)
      obtain ⟨b, off, hA, hc⟩ := hia.2.2.2 (by omega)
      subst hA
      have hlen := hia.1
      obtain ⟨y, hy⟩ : ∃ y, (lsI D)[0]? = some y := ⟨_, List.getElem?_eq_getElem (by rw [lsI_len, HN.out]; omega)⟩
      have q1 := hc 0 y hy
      simp only [Nat.add_zero] at q1
      have lq := cell_lt q1
      have HF : RowKit.Hid (suV LL 0 = (y, true, 0)) := Lib.hid (by rw [HLD.out]; unfold suV; rw [if_neg (by rw [lsI_len, HN.out]; simp), List.getD_eq_getElem?_getD, hy]; rfl)
      clear hc hy hia ho hk3 hlen
      go_wp2_with fail
      go_ret3
      exact ⟨by rw [HF.out]; rfl, K0.out.trans K3.out⟩
end Go.Proofs.YtologmoanaccpaaGreatDoor
