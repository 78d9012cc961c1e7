/-
  the iterator over all lists of signs
-/
import Derived.Test.YtologmoanaccpaaGreatDoorQc
import Derived.Sort.CutIn
namespace Go.Proofs.YtologmoanaccpaaGreatDoor
set_option linter.all false
open Go.RowKit Go.Shelf
attribute [local go_sem] Oper.semAt_some

abbrev NS := {n : Nat // n < 15625}
def nS : Nat → List NS
  | 0 => []
  | k + 1 => if h : k < 15625 then nS k ++ [⟨k, h⟩] else nS k
theorem nS_succ {k : Nat} (h : k < 15625) : nS (k + 1) = nS k ++ [⟨k, h⟩] := by
  rw [nS, dif_pos h]
theorem nS_pre (j : Nat) : ∀ d, nS j <+: nS (j + d)
  | 0 => List.prefix_refl _
  | d + 1 => by
    rw [← Nat.add_assoc, nS]
    split
    · exact (nS_pre j d).trans (List.prefix_append _ _)
    · exact nS_pre j d
theorem nS_prefix {j : Nat} (hj : j ≤ 15625) : nS j <+: nS 15625 := by
  have h := nS_pre j (15625 - j)
  rwa [show j + (15625 - j) = 15625 by omega] at h
theorem nS_map : ∀ k, k ≤ 15625 → (nS k).map (·.1) = List.range k
  | 0, _ => rfl
  | k + 1, h => by rw [nS_succ (by omega), List.map_append, nS_map k (by omega), List.range_succ]; rfl
theorem nS_len {k : Nat} (h : k ≤ 15625) : (nS k).length = k := by
  have := congrArg List.length (nS_map k h)
  simpa using this
theorem grown_of_kept {A B : World} (h : Kept A B) : A.grownBy B none := ⟨h.below.os, h.below.tape, h.below.output, h.below.size, fun k hk _ => h.block k hk⟩
set_option maxRecDepth 100000 in
set_option maxHeartbeats 2000000 in
theorem signs1 (n : Nat) (hn : 1 ≤ n) (l : Nat) (n0 : Nat)
    (J Jx : List NS → World → Prop) (W : World) (hb : n0 ≤ W.heap.size) (hJ : AbidesFrom W.heap.size J)
    (hY : ∀ pre (x : NS) W1, J pre W1 → pre.length < 15625 → YieldAt Fence.wide (n - 1) Tryz.prog l #[sgA (sgN x.1)] W1 fun e W' =>
      (e = .returned (.bool true) ∧ J (pre ++ [x]) W' ∧ KpB n0 W1 W') ∨ (e = .returned (.bool false) ∧ Jx (pre ++ [x]) W'))
    (h0 : J [] W) :
    CallsIn Fence.wide n Tryz.prog 166 #[.func (.yield l) #[] #[]] W fun e W' => (∃ v, e = .returned v) ∧
      ((∃ ys, ys = nS 15625 ∧ J ys W') ∨ (∃ pre, pre <+: nS 15625 ∧ Jx pre W')) := by
  have HY := Lib.hid hY
  have HJ := Lib.hid hJ
  clear hY hJ
  refine callsIn_of_wp Tryz.func166 rfl trivial ?_ rfl
  simp only [Tryz.ntmps166, List.size_toArray, List.length_cons, List.length_nil, Nat.reduceAdd, Nat.reduceSub, Array.replicate_succ, Array.replicate_zero, List.push_toArray, List.append_toArray, List.nil_append, List.cons_append]
  gi_wp2
  gi_loopw [2] (fun v w1 => ∃ k : Nat, k ≤ 15625 ∧ v = .int .i64 k ∧ J (nS k) w1 ∧ Below n0 W w1) (fun v _ => 15625 - (intOf v).toNat)
  case atStart => exact ⟨0, by omega, by first | rfl | go_num, h0, Below.refl _ _⟩
  case round =>
    obtain ⟨k, hk, rfl, hJ1, hbl⟩ := hrel
    have HJ1 := Lib.hid hJ1
    have HD := Lib.hid (digits_any k (by omega) wr)
    have HBL := Lib.hid hbl
    clear hJ1 hbl
    obtain ⟨q, hq⟩ : ∃ q, k / 15625 = q := ⟨_, rfl⟩
    rw [hq] at HD
    unfold sgA at HD
    have hq1 : q ≤ 1 := by omega
    by_cases hlt : k < 15625
    · obtain rfl : q = 0 := by omega
      clear hq hq1
      gi_wp2_with fail
      refine ⟨trivial, (callsIn_wide.2 HD.out).mono ?_⟩
      rintro e w2 ⟨rfl, hk2⟩
      obtain ⟨W3, hW3⟩ : ∃ W3, W3 = w2.alloc (.cells #[.int .u8 (sgN k).s0, .int .u8 (sgN k).s1, .int .u8 (sgN k).s2, .int .u8 (sgN k).s3, .int .u8 (sgN k).s4, .int .u8 (sgN k).s5] 30) := ⟨_, rfl⟩
      have kt : Kept wr W3 := by rw [hW3]; exact hk2.alloc _
      have hJ3 : J (nS k) W3 := HJ.out _ _ _ none HJ1.out (grown_of_kept kt) (fun r e => by cases e)
      have hB3 : Below n0 W W3 := HBL.out.trans (kt.below.mono (by have := HBL.out.size; omega))
      have r3 : RowC W3 w2.heap.size (sgV (sgN k)) := by rw [hW3]; exact RowC.new w2 (sgV (sgN k)) 30
      have c0 := (r3 0 _ rfl).1
      have c1 := (r3 1 _ rfl).1
      have c2 := (r3 2 _ rfl).1
      have c3 := (r3 3 _ rfl).1
      have c4 := (r3 4 _ rfl).1
      have c5 := (r3 5 _ rfl).1
      have l3 := cell_lt c0
      obtain ⟨fn, tmps, assign, body, hy, hR⟩ := HY.out (nS k) ⟨k, hlt⟩ W3 hJ3 (by rw [nS_len hk]; exact hlt)
      have HRR := Lib.hid hR
      unfold sgA at hy
      dsimp only at hy
      have HB3 := Lib.hid hB3
      have HW3 := Lib.hid hW3
      clear hR hJ3 hB3 r3 kt hk2 hW3
      gi_upto_region 3 with (fail)
      rw [← HW3.out]
      gi_wp2_with fail
      refine HRR.out.mono ?_
      rintro e W5 (⟨rfl, hJ5, hk5⟩ | ⟨rfl, hJx5⟩)
      · have HJ5 := Lib.hid hJ5
        have HK5 := Lib.hid hk5
        clear hJ5 hk5 c0 c1 c2 c3 c4 c5
        gi_wp2
        go_roundw
        case rel => exact ⟨k + 1, by omega, by go_num, by rw [nS_succ hlt]; exact HJ5.out, HB3.out.trans HK5.out⟩
        case measure => simp [intOf]; omega
      · have HJX := Lib.hid hJx5
        clear hJx5 c0 c1 c2 c3 c4 c5
        gi_wp2
        refine bodyPost_ret (results_none rfl _ _ _) rfl ?_
        exact ⟨⟨_, rfl⟩, .inr ⟨_, by rw [← nS_succ hlt]; exact nS_prefix (by omega), HJX.out⟩⟩
    · obtain rfl : k = 15625 := by omega
      obtain rfl : q = 1 := by omega
      clear hq hq1
      gi_wp2_with fail
      refine ⟨trivial, (callsIn_wide.2 HD.out).mono ?_⟩
      rintro e w2 ⟨rfl, hk2⟩
      have HK2 := Lib.hid (hk2.alloc (.cells #[.int .u8 (sgN 15625).s0, .int .u8 (sgN 15625).s1, .int .u8 (sgN 15625).s2, .int .u8 (sgN 15625).s3, .int .u8 (sgN 15625).s4, .int .u8 (sgN 15625).s5] 30))
      clear hk2
      gi_wp2_with fail
      refine ⟨(fun f hf => by cases hf), ?_⟩
      gi_wp2
      refine bodyPost_ret (results_none rfl _ _ _) rfl ?_
      exact ⟨⟨_, rfl⟩, .inl ⟨_, rfl, HJ.out _ _ _ none HJ1.out (grown_of_kept HK2.out) (fun r e => by cases e)⟩⟩
theorem allSigns_stops (n : Nat) (hn : 1 ≤ n) (w0 : World) (w : World) (hw : Kept w0 w) :
    SeqStopsK Fence.wide n Tryz.prog 166 #[] (fun x : NS => #[sgA (sgN x.1)]) (KpB w0.heap.size) (fun ys => ys = nS 15625) (fun pre => pre <+: nS 15625) 15625 w :=
  fun l J Jx W hW hJ hJx hY h0 => signs1 n hn l w0.heap.size J Jx W (Nat.le_trans hw.size hW.size) hJ hY h0
theorem allSigns_any (w : World) : Calls Tryz.prog 106 #[] w fun e w' => e = .returned (.func (.func 166) #[] #[]) ∧ w' = w := by
  go_enter Tryz.func106, Tryz.ntmps106
  go_wp2
  go_ret
  exact ⟨rfl, rfl⟩
end Go.Proofs.YtologmoanaccpaaGreatDoor
