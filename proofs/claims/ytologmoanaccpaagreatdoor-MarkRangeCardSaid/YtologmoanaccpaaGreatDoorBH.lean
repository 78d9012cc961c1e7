/-
  the iterator of a set over the owners in it, each with the word that it is in it
  all lists of signs in their order: digits, allSigns
  the iterator over all lists of signs
  a copy of a slice: Clone
  meeting assignments and shortages: their numbers
  an assignment that meets claims: meet
-/
import Derived.Test.YtologmoanaccpaaGreatDoorBE
import Derived.Test.YtologmoanaccpaaGreatDoorBD
import Derived.Test.YtologmoanaccpaaGreatDoorBG
import Derived.Sort.CutIn
import Derived.Laws.OwnMore
import Derived.Deep.AppendLies
import Derived.Deep.MidRow
import Derived.MakeChecks
namespace Go.Proofs.YtologmoanaccpaaGreatDoor
set_option linter.all false
open Go.RowKit Go.Shelf
attribute [local go_sem] Oper.semAt_some

def bitsS (s : Nat) : Nat → List {x : Nat // s.testBit x = true}
  | 0 => []
  | k + 1 => if h : s.testBit k = true then bitsS s k ++ [⟨k, h⟩] else bitsS s k
theorem bitsS_succ (s k : Nat) : bitsS s (k + 1) = if h : s.testBit k = true then bitsS s k ++ [⟨k, h⟩] else bitsS s k := rfl
theorem bitsS_map (s : Nat) : ∀ k, (bitsS s k).map (·.1) = bitsK s k
  | 0 => rfl
  | k + 1 => by
    rw [bitsS_succ, bitsK_succ]
    by_cases h : s.testBit k = true
    · rw [dif_pos h, if_pos h, List.map_append, bitsS_map s k]; rfl
    · rw [dif_neg h, if_neg h, bitsS_map s k]
theorem bitsS_same {s k : Nat} : ∀ {j : Nat}, k ≤ j → (∀ i, k ≤ i → i < j → s.testBit i = false) → bitsS s j = bitsS s k
  | 0, hk, _ => by obtain rfl : k = 0 := by omega
                   rfl
  | j + 1, hk, h => by
    by_cases e : k = j + 1
    · rw [e]
    · rw [bitsS_succ, dif_neg (by rw [h j (by omega) (by omega)]; simp)]
      exact bitsS_same (by omega) fun i h1 h2 => h i h1 (by omega)
theorem bitsS_pre (s j : Nat) : ∀ d, bitsS s j <+: bitsS s (j + d)
  | 0 => List.prefix_refl _
  | d + 1 => by
    rw [← Nat.add_assoc, bitsS_succ]
    split
    · exact (bitsS_pre s j d).trans (List.prefix_append _ _)
    · exact bitsS_pre s j d
theorem bitsS_prefix (s : Nat) {j : Nat} (hj : j ≤ 64) : bitsS s j <+: bitsS s 64 := by
  have h := bitsS_pre s j (64 - j)
  rwa [show j + (64 - j) = 64 by omega] at h
theorem bitsS_lt (s : Nat) {j : Nat} (hj : j < 64) (h : s.testBit j = true) : (bitsS s j).length < (bitsS s 64).length := by
  have h1 := (bitsS_prefix s (j := j + 1) (by omega)).length_le
  rw [bitsS_succ, dif_pos h] at h1
  simp at h1
  omega
theorem bitsS_len (s k : Nat) : (bitsS s k).length = (bitsK s k).length := by rw [← bitsS_map s k, List.length_map]
theorem bitsK_nodup (s k : Nat) : (bitsK s k).Nodup := by
  unfold bitsK
  exact List.Nodup.sublist List.filter_sublist List.nodup_range
theorem bitsK_mem {s q : Nat} (hs : s < 2 ^ 41) : q ∈ bitsK s 64 ↔ s.testBit q = true := by
  unfold bitsK
  rw [List.mem_filter, List.mem_range]
  refine ⟨fun h => h.2, fun h => ⟨?_, h⟩⟩
  rcases Nat.lt_or_ge q 41 with h1 | h1
  · omega
  · rw [Nat.testBit_lt_two_pow (Nat.lt_of_lt_of_le hs (Nat.pow_le_pow_right (by omega) h1))] at h; cases h
/-- a list that is a beginning of the owners of a set -/
def Coh (s : Nat) (pre : List {x : Nat // s.testBit x = true}) : Prop := pre.map (·.1) <+: bitsK s 64
theorem Coh.init {s : Nat} {pre : List {x : Nat // s.testBit x = true}} {x : {x : Nat // s.testBit x = true}} (h : Coh s (pre ++ [x])) : Coh s pre ∧ x.1 ∉ pre.map (·.1) := by
  unfold Coh at h
  rw [List.map_append] at h
  refine ⟨(List.prefix_append _ _).trans h, fun hx => ?_⟩
  have hn := (bitsK_nodup s 64).sublist h.sublist
  rw [List.nodup_append] at hn
  exact hn.2.2 _ hx _ (by simp) rfl
theorem Coh.pre {s : Nat} {pre : List {x : Nat // s.testBit x = true}} (h : pre <+: bitsS s 64) : Coh s pre := by
  unfold Coh
  rw [← bitsS_map]
  obtain ⟨t, ht⟩ := h
  rw [← ht, List.map_append]
  exact List.prefix_append _ _

set_option maxRecDepth 100000 in
set_option maxHeartbeats 2000000 in
theorem each1S (n : Nat) (hn : 1 ≤ n) (l bp : Nat) (s : Nat) (hs : s < 2 ^ 64) (w0 : World) (hE : EnvT w0)
    (J Jx : List {x : Nat // s.testBit x = true} → World → Prop) (W : World) (hW : Kept w0 W) (hl : W.cell? ⟨bp, 0, none⟩ = some (.int .u64 s))
    (hY : ∀ pre (x : {x : Nat // s.testBit x = true}) W1, J pre W1 → pre.length < (bitsS s 64).length → YieldAt Fence.wide (n - 1) Tryz.prog l #[.int .i64 (x.1 : Nat)] W1 fun e W' =>
      (e = .returned (.bool true) ∧ J (pre ++ [x]) W' ∧ KpB w0.heap.size W1 W') ∨ (e = .returned (.bool false) ∧ Jx (pre ++ [x]) W'))
    (h0 : J [] W) :
    CallsIn Fence.wide n Tryz.prog 200 #[.func (.yield l) #[] #[], .pointer (some ⟨bp, 0, none⟩)] W fun e W' => (∃ v, e = .returned v) ∧
      ((∃ ys, ys = bitsS s 64 ∧ J ys W') ∨ (∃ pre, pre <+: bitsS s 64 ∧ Jx pre W')) := by
  have HE := Lib.hid hE
  have HY := Lib.hid hY
  have Hl := Lib.hid hl
  have HS := Lib.hid hs
  have hbp := cell_lt hl
  clear hE hY hl hs
  have g1 : W.cell? ⟨bp, 0, none⟩ = some (.int .u64 s) := Hl.out
  have hz := hW.size
  refine callsIn_of_wp Tryz.func200 rfl trivial ?_ rfl
  simp only [Tryz.ntmps200, List.size_toArray, List.length_cons, List.length_nil, Nat.reduceAdd, Nat.reduceSub, Array.replicate_succ, Array.replicate_zero, List.push_toArray, List.append_toArray, List.nil_append, List.cons_append]
  gi_wp2
  clear g1
  gi_loopw [3] (fun v w1 => ∃ k r : Nat, k ≤ 64 ∧ v = .int .u64 r ∧ (∀ i, r.testBit i = (decide (k ≤ i) && s.testBit i)) ∧ r < 2 ^ 64 ∧ Kept w0 w1 ∧ J (bitsS s k) w1) (fun v _ => (intOf v).toNat)
  case atStart => exact ⟨0, s, by omega, by first | rfl | go_num, by simp, HS.out, hW, h0⟩
  case round =>
    obtain ⟨k, r, hk, rfl, hb, hr, hk1, hJ1⟩ := hrel
    by_cases hr0 : r = 0
    · subst hr0
      have hall : bitsS s 64 = bitsS s k := bitsS_same hk fun i h1 h2 => by
        have := hb i
        rw [Nat.zero_testBit] at this
        simpa [h1] using this.symm
      have HALL := Lib.hid hall
      clear hb hall
      gi_wp2
      go_end0
      exact ⟨⟨_, rfl⟩, .inl ⟨_, rfl, by rw [HALL.out]; exact hJ1⟩⟩
    · obtain ⟨m, hm, hj⟩ := low_spec r hr0 hr
      have htz := tz_any r hr0 (by simpa using hr) wr (HE.out.kept hk1)
      generalize Lib.ctz 64 r = j at hm hj htz
      obtain ⟨q1, q2, q3, q4⟩ := low_bits hm
      have hkj : k ≤ j := by
        have := hb j
        rw [q2] at this
        simp at this
        exact this.1
      have hsj : s.testBit j = true := by
        have := hb j
        rw [q2] at this
        simp at this
        exact this.2
      have hsame : bitsS s (j + 1) = bitsS s k ++ [⟨j, hsj⟩] := by
        rw [bitsS_succ, dif_pos hsj, bitsS_same hkj fun i h1 h2 => by
          have := hb i
          rw [q1 i h2] at this
          simpa [h1] using this.symm]
      have hlen : (bitsS s k).length < (bitsS s 64).length := by
        have := bitsS_lt s hj hsj
        have h2 := hsame
        rw [bitsS_succ, dif_pos hsj] at h2
        rw [← List.append_cancel_right h2]
        exact this
      have hsub : IntKind.u64.wrap ((r : Int) - 1) = ((r - 1 : Nat) : Int) := by
        rw [IntKind.wrap_u64]
        have : (2 : Nat) ^ 64 = 18446744073709551616 := by decide
        omega
      have hr6 : r < 18446744073709551616 := by simpa using hr
      have hr7 : r - 1 < 18446744073709551616 := by omega
      have hand : bits BinOp.and IntKind.u64 (r : Int) ((r - 1 : Nat) : Int) = ((r &&& (r - 1) : Nat) : Int) := bits_and_u64_nat r (r - 1) hr6 hr7
      clear hr6 hr7
      have hne : ((r : Int) == 0) = false := by simp; omega
      have HB := Lib.hid hb
      have HQ3 := Lib.hid q3
      have HQ4 := Lib.hid q4
      have HM := Lib.hid hm
      have HSA := Lib.hid hsame
      have HT := Lib.hid htz
      have HR := Lib.hid hr
      have HSJ := Lib.hid hsj
      obtain ⟨fn, tmps, assign, body, hy, hR⟩ := HY.out (bitsS s k) ⟨j, hsj⟩ wr hJ1 hlen
      have HRR := Lib.hid hR
      obtain ⟨r2, hr2⟩ : ∃ r2, r2 = r &&& (r - 1) := ⟨_, rfl⟩
      rw [← hr2] at hand q4
      have HR2 := Lib.hid hr2
      clear hb q3 hm hsame htz hr q1 q2 hlen hr2 hR
      obtain ⟨r1, hr1⟩ : ∃ r1 : Nat, r1 = r - 1 := ⟨_, rfl⟩
      rw [← hr1] at hand hsub
      clear hr1
      gi_wp2_with (refine ⟨trivial, (callsIn_wide.2 HT.out).mono ?_⟩; rintro e w1 ⟨rfl, rfl⟩)
      refine HRR.out.mono ?_
      rintro e W3 (⟨rfl, hJ3, hk3⟩ | ⟨rfl, hJx3⟩)
      · gi_wp2
        go_roundw
        case rel => exact ⟨j + 1, r2, by omega, by go_num, fun i => by
          rw [HR2.out, HQ3.out i, HB.out i]
          by_cases h1 : j < i
          · simp [h1, show k ≤ i by omega, show j + 1 ≤ i by omega]
          · simp [h1, show ¬ j + 1 ≤ i by omega], by have := HR.out; omega, hk1.below.trans hk3, by rw [HSA.out]; exact hJ3⟩
        case measure => simp [intOf]; omega
      · gi_wp2
        refine bodyPost_ret (results_none rfl _ _ _) rfl ?_
        exact ⟨⟨_, rfl⟩, .inr ⟨_, by rw [← HSA.out]; exact bitsS_prefix s (by omega), hJx3⟩⟩


theorem each_stopsS (n : Nat) (hn : 1 ≤ n) (bp : Nat) (s : Nat) (hs : s < 2 ^ 64) (w0 : World) (hE : EnvT w0) (w : World) (hw : Kept w0 w) (hl : w.cell? ⟨bp, 0, none⟩ = some (.int .u64 s)) :
    SeqStopsK Fence.wide n Tryz.prog 200 #[.pointer (some ⟨bp, 0, none⟩)] (fun x : {x : Nat // s.testBit x = true} => #[.int .i64 (x.1 : Int)]) (KpB w0.heap.size) (fun ys => ys = bitsS s 64) (fun pre => pre <+: bitsS s 64) (bitsS s 64).length w :=
  fun l J Jx W hW hJ hJx hY h0 => each1S n hn l bp s hs w0 hE J Jx W (hw.trans hW) (((show Kept w W from hW).cells _ _ (cell_lt hl)).trans hl) hY h0
end Go.Proofs.YtologmoanaccpaaGreatDoor

namespace Go.Proofs.YtologmoanaccpaaGreatDoor
set_option linter.all false
open Go.RowKit Go.Shelf
attribute [local go_sem] Oper.semAt_some

def dgV (n i : Nat) : Nat := (n / 5 ^ (5 - i)) % 5
def sgN (n : Nat) : Sg := ⟨dgV n 0, dgV n 1, dgV n 2, dgV n 3, dgV n 4, dgV n 5⟩
def dgK (n k : Nat) : List Value := (List.range 6).map fun i => .int .u8 ((if 6 - k ≤ i then dgV n i else 0 : Nat) : Int)
theorem dgK_len (n k : Nat) : (dgK n k).length = 6 := by simp [dgK]
theorem dgK_succ (n k : Nat) (hk : k < 6) : (dgK n k).set (5 - k) (.int .u8 (((n / 5 ^ k) % 5 : Nat) : Int)) = dgK n (k + 1) := by
  apply List.ext_getElem?
  intro i
  rw [List.getElem?_set]
  unfold dgK
  by_cases h1 : 5 - k = i
  · subst h1
    rw [if_pos rfl, if_pos (by simp; omega), List.getElem?_map, List.getElem?_range (by omega)]
    simp only [Option.map_some]
    rw [if_pos (by omega)]
    unfold dgV
    rw [show 5 - (5 - k) = k by omega]
  · rw [if_neg h1, List.getElem?_map, List.getElem?_map]
    rcases Nat.lt_or_ge i 6 with h2 | h2
    · rw [List.getElem?_range h2]
      simp only [Option.map_some]
      have : (6 - k ≤ i) ↔ (6 - (k + 1) ≤ i) := by omega
      simp only [this]
    · rw [List.getElem?_eq_none (by simpa using h2)]
      rfl
theorem dgK_six (n : Nat) : dgK n 6 = sgV (sgN n) := rfl
theorem dgK_zero (n : Nat) : dgK n 0 = [.int .u8 0, .int .u8 0, .int .u8 0, .int .u8 0, .int .u8 0, .int .u8 0] := rfl
theorem dgV_lt (n i : Nat) : dgV n i < 5 := Nat.mod_lt _ (by decide)
theorem sgN_ok (n : Nat) : (sgN n).ok := by
  have h := dgV_lt n
  have h0 := h 0
  have h1 := h 1
  have h2 := h 2
  have h3 := h 3
  have h4 := h 4
  have h5 := h 5
  simp only [Sg.ok, sgN, u8]
  omega
theorem sgN_clear (n : Nat) : clearB (sgN n) = true := by
  unfold clearB
  rw [List.all_eq_true]
  intro x hx
  have h := dgV_lt n
  have h0 := h 0
  have h1 := h 1
  have h2 := h 2
  have h3 := h 3
  have h4 := h 4
  have h5 := h 5
  simp [Sg.l, sgN] at hx
  simp
  rcases hx with rfl | rfl | rfl | rfl | rfl | rfl <;> omega
def sgA (s : Sg) : Value := .agg #[.int .u8 s.s0, .int .u8 s.s1, .int .u8 s.s2, .int .u8 s.s3, .int .u8 s.s4, .int .u8 s.s5]
set_option maxRecDepth 100000 in
set_option maxHeartbeats 3200000 in
theorem digits_any (n : Nat) (hn : n ≤ 1000000) (w : World) :
    Calls Tryz.prog 167 #[.int .i64 (n : Int)] w fun e w' => e = .returned (.tuple #[sgA (sgN n), .int .i64 ((n / 15625 : Nat) : Int)]) ∧ Kept w w' := by
  obtain ⟨W0, hW0⟩ : ∃ W0, W0 = (w.alloc (.cells #[.int .u8 0, .int .u8 0, .int .u8 0, .int .u8 0, .int .u8 0, .int .u8 0] 30)).alloc (.cells #[.int .u8 0, .int .u8 0, .int .u8 0, .int .u8 0, .int .u8 0, .int .u8 0] 30) := ⟨_, rfl⟩
  have k0 : Kept w W0 := by rw [hW0]; exact ((Kept.refl _).alloc _).alloc _
  have r0 : RowC W0 w.heap.size (dgK n 0) := by rw [hW0]; exact (RowC.new w (dgK n 0) 30).kept ((Kept.refl _).alloc _)
  have r1 : RowC W0 (w.heap.size + 1) (dgK n 0) := by
    rw [hW0]
    have h := RowC.new (w.alloc (.cells #[.int .u8 0, .int .u8 0, .int .u8 0, .int .u8 0, .int .u8 0, .int .u8 0] 30)) (dgK n 0) 30
    rwa [World.size_alloc] at h
  have R0 := Lib.hid r0
  have R1 := Lib.hid r1
  have K0 := Lib.hid k0
  have HW := Lib.hid hW0
  clear r0 r1 k0 hW0
  go_enter Tryz.func167, Tryz.ntmps167
  go_upto_region 2 with (fail)
  rw [← HW.out]
  go_wp2_with fail
  go_loopw [0, 6] (fun v i wr => ∃ k q : Nat, k ≤ 6 ∧ i = .int .i64 k ∧ v = .int .i64 (q : Int) ∧ n / 5 ^ k = q ∧ RowC wr w.heap.size (dgK n 0) ∧ RowC wr (w.heap.size + 1) (dgK n k) ∧ Kept w wr) (fun _ i _ => 6 - (intOf i).toNat)
  case atStart => exact ⟨0, n, by omega, by first | rfl | go_num, by first | rfl | go_num, by simp, R0.out, R1.out, K0.out⟩
  case round =>
    obtain ⟨k, q, hk, rfl, rfl, hq, h0, h1, hkr⟩ := hrel
    have H0 := Lib.hid h0
    have H1 := Lib.hid h1
    have HK := Lib.hid hkr
    have hqn : q ≤ 1000000 := by rw [← hq]; exact Nat.le_trans (Nat.div_le_self _ _) hn
    clear h0 h1 hkr
    by_cases hlt : k < 6
    · obtain ⟨c1, c2⟩ := H1.out (5 - k) _ (List.getElem?_eq_getElem (by rw [dgK_len]; omega))
      have l1 := cell_lt c1
      have e5 : (5 : Int) - (k : Int) = ((5 - k : Nat) : Int) := by omega
      have HQ : RowKit.Hid (n / 5 ^ (k + 1) = q / 5) := Lib.hid (by rw [← hq, Nat.pow_succ, Nat.div_div_eq_div_mul])
      have HS := Lib.hid (dgK_succ n k hlt)
      rw [hq] at HS
      have hd : (q : Int).tdiv 5 = ((q / 5 : Nat) : Int) := rfl
      have hm : (q : Int).tmod 5 = ((q % 5 : Nat) : Int) := rfl
      obtain ⟨q1, hq1⟩ : ∃ q1, q / 5 = q1 := ⟨_, rfl⟩
      obtain ⟨q2, hq2⟩ : ∃ q2, q % 5 = q2 := ⟨_, rfl⟩
      have hq25 : q2 < 5 := by omega
      have hq1n : q1 ≤ 1000000 := by omega
      rw [hq1] at hd HQ
      rw [hq2] at hm HS
      have hm2 : (q : Int).tmod 5 % 256 = (q2 : Int) := by rw [hm]; omega
      clear hq hq1 hq2
      go_wp2_with fail
      go_roundw
      case rel =>
        refine ⟨k + 1, q1, by omega, by go_num, by first | rfl | go_num, HQ.out, H0.out.far (by omega) _, ?_, HK.out.setCell (p := ⟨w.heap.size + 1, 5 - k, none⟩) (by dsimp only; omega) _⟩
        rw [← HS.out]
        exact H1.out.put (by rw [dgK_len]; omega) _
      case measure => simp [intOf]; omega
    · obtain rfl : k = 6 := by omega
      have h1 := H1.out
      rw [dgK_six] at h1
      have HH := Lib.hid h1
      have c0 := (h1 0 _ rfl).1
      have c1 := (h1 1 _ rfl).1
      have c2 := (h1 2 _ rfl).1
      have c3 := (h1 3 _ rfl).1
      have c4 := (h1 4 _ rfl).1
      have c5 := (h1 5 _ rfl).1
      have d0 := (H0.out 0 _ rfl)
      have d1 := (H0.out 1 _ rfl)
      have d2 := (H0.out 2 _ rfl)
      have d3 := (H0.out 3 _ rfl)
      have d4 := (H0.out 4 _ rfl)
      have d5 := (H0.out 5 _ rfl)
      obtain ⟨d01, d02⟩ := d0
      obtain ⟨d11, d12⟩ := d1
      obtain ⟨d21, d22⟩ := d2
      obtain ⟨d31, d32⟩ := d3
      obtain ⟨d41, d42⟩ := d4
      obtain ⟨d51, d52⟩ := d5
      have l0 := cell_lt c0
      have l1 := cell_lt d01
      have HQ := Lib.hid hq
      clear h1 hq
      have HF : RowKit.Hid (RowC ((((((wr.setCell ⟨w.heap.size, 0, none⟩ (.int .u8 (sgN n).s0)).setCell ⟨w.heap.size, 1, none⟩ (.int .u8 (sgN n).s1)).setCell ⟨w.heap.size, 2, none⟩ (.int .u8 (sgN n).s2)).setCell ⟨w.heap.size, 3, none⟩ (.int .u8 (sgN n).s3)).setCell ⟨w.heap.size, 4, none⟩ (.int .u8 (sgN n).s4)).setCell ⟨w.heap.size, 5, none⟩ (.int .u8 (sgN n).s5)) w.heap.size (sgV (sgN n)) ∧ Kept w ((((((wr.setCell ⟨w.heap.size, 0, none⟩ (.int .u8 (sgN n).s0)).setCell ⟨w.heap.size, 1, none⟩ (.int .u8 (sgN n).s1)).setCell ⟨w.heap.size, 2, none⟩ (.int .u8 (sgN n).s2)).setCell ⟨w.heap.size, 3, none⟩ (.int .u8 (sgN n).s3)).setCell ⟨w.heap.size, 4, none⟩ (.int .u8 (sgN n).s4)).setCell ⟨w.heap.size, 5, none⟩ (.int .u8 (sgN n).s5))) := Lib.hid ⟨((((((H0.out.put (j := 0) (by simp [dgK_len]) (.int .u8 (sgN n).s0)).put (j := 1) (by simp [dgK_len]) (.int .u8 (sgN n).s1)).put (j := 2) (by simp [dgK_len]) (.int .u8 (sgN n).s2)).put (j := 3) (by simp [dgK_len]) (.int .u8 (sgN n).s3)).put (j := 4) (by simp [dgK_len]) (.int .u8 (sgN n).s4)).put (j := 5) (by simp [dgK_len]) (.int .u8 (sgN n).s5)), ((((((HK.out.setCell (p := ⟨w.heap.size, 0, none⟩) (Nat.le_refl _) (.int .u8 (sgN n).s0)).setCell (p := ⟨w.heap.size, 1, none⟩) (Nat.le_refl _) (.int .u8 (sgN n).s1)).setCell (p := ⟨w.heap.size, 2, none⟩) (Nat.le_refl _) (.int .u8 (sgN n).s2)).setCell (p := ⟨w.heap.size, 3, none⟩) (Nat.le_refl _) (.int .u8 (sgN n).s3)).setCell (p := ⟨w.heap.size, 4, none⟩) (Nat.le_refl _) (.int .u8 (sgN n).s4)).setCell (p := ⟨w.heap.size, 5, none⟩) (Nat.le_refl _) (.int .u8 (sgN n).s5))⟩
      go_wp2_with fail
      obtain ⟨hf, hk9⟩ := HF.out
      have e0 := (hf 0 _ rfl).1
      have e1 := (hf 1 _ rfl).1
      have e2 := (hf 2 _ rfl).1
      have e3 := (hf 3 _ rfl).1
      have e4 := (hf 4 _ rfl).1
      have e5 := (hf 5 _ rfl).1
      refine bodyPost_ret (v := .tuple #[sgA (sgN n), .int .i64 (q : Int)]) (by simp [results, Tryz.results167, go_sem, sgA, e0, e1, e2, e3, e4, e5]) rfl ⟨?_, hk9⟩
      have hq := HQ.out
      rw [show (5 : Nat) ^ 6 = 15625 by decide] at hq
      rw [← hq]
      rfl
end Go.Proofs.YtologmoanaccpaaGreatDoor

namespace Go.Proofs.YtologmoanaccpaaGreatDoor
set_option linter.all false
open Go.RowKit Go.Shelf
attribute [local go_sem] Oper.semAt_some

abbrev NS := {n : Nat // n < 15625}
def nS : Nat → List NS
  | 0 => []
  | k + 1 => if h : k < 15625 then nS k ++ [⟨k, h⟩] else nS k
theorem nS_succ {k : Nat} (h : k < 15625) : nS (k + 1) = nS k ++ [⟨k, h⟩] := by
  rw [nS, dif_pos h]
theorem nS_pre (j : Nat) : ∀ d, nS j <+: nS (j + d)
  | 0 => List.prefix_refl _
  | d + 1 => by
    rw [← Nat.add_assoc, nS]
    split
    · exact (nS_pre j d).trans (List.prefix_append _ _)
    · exact nS_pre j d
theorem nS_prefix {j : Nat} (hj : j ≤ 15625) : nS j <+: nS 15625 := by
  have h := nS_pre j (15625 - j)
  rwa [show j + (15625 - j) = 15625 by omega] at h
theorem nS_map : ∀ k, k ≤ 15625 → (nS k).map (·.1) = List.range k
  | 0, _ => rfl
  | k + 1, h => by rw [nS_succ (by omega), List.map_append, nS_map k (by omega), List.range_succ]; rfl
theorem nS_len {k : Nat} (h : k ≤ 15625) : (nS k).length = k := by
  have := congrArg List.length (nS_map k h)
  simpa using this
theorem grown_of_kept {A B : World} (h : Kept A B) : A.grownBy B none := ⟨h.below.os, h.below.tape, h.below.output, h.below.size, fun k hk _ => h.block k hk⟩
set_option maxRecDepth 100000 in
set_option maxHeartbeats 2000000 in
theorem signs1 (n : Nat) (hn : 1 ≤ n) (l : Nat) (n0 : Nat)
    (J Jx : List NS → World → Prop) (W : World) (hb : n0 ≤ W.heap.size) (hJ : AbidesFrom W.heap.size J)
    (hY : ∀ pre (x : NS) W1, J pre W1 → pre.length < 15625 → YieldAt Fence.wide (n - 1) Tryz.prog l #[sgA (sgN x.1)] W1 fun e W' =>
      (e = .returned (.bool true) ∧ J (pre ++ [x]) W' ∧ KpB n0 W1 W') ∨ (e = .returned (.bool false) ∧ Jx (pre ++ [x]) W'))
    (h0 : J [] W) :
    CallsIn Fence.wide n Tryz.prog 166 #[.func (.yield l) #[] #[]] W fun e W' => (∃ v, e = .returned v) ∧
      ((∃ ys, ys = nS 15625 ∧ J ys W') ∨ (∃ pre, pre <+: nS 15625 ∧ Jx pre W')) := by
  have HY := Lib.hid hY
  have HJ := Lib.hid hJ
  clear hY hJ
  refine callsIn_of_wp Tryz.func166 rfl trivial ?_ rfl
  simp only [Tryz.ntmps166, List.size_toArray, List.length_cons, List.length_nil, Nat.reduceAdd, Nat.reduceSub, Array.replicate_succ, Array.replicate_zero, List.push_toArray, List.append_toArray, List.nil_append, List.cons_append]
  gi_wp2
  gi_loopw [2] (fun v w1 => ∃ k : Nat, k ≤ 15625 ∧ v = .int .i64 k ∧ J (nS k) w1 ∧ Below n0 W w1) (fun v _ => 15625 - (intOf v).toNat)
  case atStart => exact ⟨0, by omega, by first | rfl | go_num, h0, Below.refl _ _⟩
  case round =>
    obtain ⟨k, hk, rfl, hJ1, hbl⟩ := hrel
    have HJ1 := Lib.hid hJ1
    have HD := Lib.hid (digits_any k (by omega) wr)
    have HBL := Lib.hid hbl
    clear hJ1 hbl
    obtain ⟨q, hq⟩ : ∃ q, k / 15625 = q := ⟨_, rfl⟩
    rw [hq] at HD
    unfold sgA at HD
    have hq1 : q ≤ 1 := by omega
    by_cases hlt : k < 15625
    · obtain rfl : q = 0 := by omega
      clear hq hq1
      gi_wp2_with fail
      refine ⟨trivial, (callsIn_wide.2 HD.out).mono ?_⟩
      rintro e w2 ⟨rfl, hk2⟩
      obtain ⟨W3, hW3⟩ : ∃ W3, W3 = w2.alloc (.cells #[.int .u8 (sgN k).s0, .int .u8 (sgN k).s1, .int .u8 (sgN k).s2, .int .u8 (sgN k).s3, .int .u8 (sgN k).s4, .int .u8 (sgN k).s5] 30) := ⟨_, rfl⟩
      have kt : Kept wr W3 := by rw [hW3]; exact hk2.alloc _
      have hJ3 : J (nS k) W3 := HJ.out _ _ _ none HJ1.out (grown_of_kept kt) (fun r e => by cases e)
      have hB3 : Below n0 W W3 := HBL.out.trans (kt.below.mono (by have := HBL.out.size; omega))
      have r3 : RowC W3 w2.heap.size (sgV (sgN k)) := by rw [hW3]; exact RowC.new w2 (sgV (sgN k)) 30
      have c0 := (r3 0 _ rfl).1
      have c1 := (r3 1 _ rfl).1
      have c2 := (r3 2 _ rfl).1
      have c3 := (r3 3 _ rfl).1
      have c4 := (r3 4 _ rfl).1
      have c5 := (r3 5 _ rfl).1
      have l3 := cell_lt c0
      obtain ⟨fn, tmps, assign, body, hy, hR⟩ := HY.out (nS k) ⟨k, hlt⟩ W3 hJ3 (by rw [nS_len hk]; exact hlt)
      have HRR := Lib.hid hR
      unfold sgA at hy
      dsimp only at hy
      have HB3 := Lib.hid hB3
      have HW3 := Lib.hid hW3
      clear hR hJ3 hB3 r3 kt hk2 hW3
      gi_upto_region 3 with (fail)
      rw [← HW3.out]
      gi_wp2_with fail
      refine HRR.out.mono ?_
      rintro e W5 (⟨rfl, hJ5, hk5⟩ | ⟨rfl, hJx5⟩)
      · have HJ5 := Lib.hid hJ5
        have HK5 := Lib.hid hk5
        clear hJ5 hk5 c0 c1 c2 c3 c4 c5
        gi_wp2
        go_roundw
        case rel => exact ⟨k + 1, by omega, by go_num, by rw [nS_succ hlt]; exact HJ5.out, HB3.out.trans HK5.out⟩
        case measure => simp [intOf]; omega
      · have HJX := Lib.hid hJx5
        clear hJx5 c0 c1 c2 c3 c4 c5
        gi_wp2
        refine bodyPost_ret (results_none rfl _ _ _) rfl ?_
        exact ⟨⟨_, rfl⟩, .inr ⟨_, by rw [← nS_succ hlt]; exact nS_prefix (by omega), HJX.out⟩⟩
    · obtain rfl : k = 15625 := by omega
      obtain rfl : q = 1 := by omega
      clear hq hq1
      gi_wp2_with fail
      refine ⟨trivial, (callsIn_wide.2 HD.out).mono ?_⟩
      rintro e w2 ⟨rfl, hk2⟩
      have HK2 := Lib.hid (hk2.alloc (.cells #[.int .u8 (sgN 15625).s0, .int .u8 (sgN 15625).s1, .int .u8 (sgN 15625).s2, .int .u8 (sgN 15625).s3, .int .u8 (sgN 15625).s4, .int .u8 (sgN 15625).s5] 30))
      clear hk2
      gi_wp2_with fail
      refine ⟨(fun f hf => by cases hf), ?_⟩
      gi_wp2
      refine bodyPost_ret (results_none rfl _ _ _) rfl ?_
      exact ⟨⟨_, rfl⟩, .inl ⟨_, rfl, HJ.out _ _ _ none HJ1.out (grown_of_kept HK2.out) (fun r e => by cases e)⟩⟩
theorem allSigns_stops (n : Nat) (hn : 1 ≤ n) (w0 : World) (w : World) (hw : Kept w0 w) :
    SeqStopsK Fence.wide n Tryz.prog 166 #[] (fun x : NS => #[sgA (sgN x.1)]) (KpB w0.heap.size) (fun ys => ys = nS 15625) (fun pre => pre <+: nS 15625) 15625 w :=
  fun l J Jx W hW hJ hJx hY h0 => signs1 n hn l w0.heap.size J Jx W (Nat.le_trans hw.size hW.size) hJ hY h0
theorem allSigns_any (w : World) : Calls Tryz.prog 106 #[] w fun e w' => e = .returned (.func (.func 166) #[] #[]) ∧ w' = w := by
  go_enter Tryz.func106, Tryz.ntmps106
  go_wp2
  go_ret
  exact ⟨rfl, rfl⟩
end Go.Proofs.YtologmoanaccpaaGreatDoor

namespace Go.Proofs.YtologmoanaccpaaGreatDoor
set_option linter.all false
open Go.RowKit Go.Shelf

section
variable {P : Program} (w : World)
theorem run_append_zero (base : Nat) (t ty e : TypeId) (i : TypeInfo) (size : Nat) (ht : P.underlying t = some (.slice e)) (hi : P.info? e = some i)
    (v : Value) (n : Nat) (xs : List Value) (hown : w.ownsRow base e size v n xs) (A : Option Addr) (c : Nat) :
    (Builtin.append_ #[t, t] ty #[v, .slice A 0 c]).run P w = .ok v w := by
  rcases A with _ | a
  · rcases hown.2 with ⟨rfl, rfl⟩ | ⟨g, cap, cur, rfl, _, _, hnc, _⟩
    · simp [Builtin.append_, run_underlying ht, sizeOf, typeInfo, hi, Builtin.lenOf, Builtin.firstCells]
    · simp [Builtin.append_, run_underlying ht, sizeOf, typeInfo, hi, Builtin.lenOf, Builtin.firstCells, hnc, storeCells]
  · have hl : Sem.run P (loadCellsFrom a 0 0 #[]) w = .ok #[] w := by
      first
        | rfl
        | (simp [loadCellsFrom]; done)
        | (unfold loadCellsFrom; simp; done)
    rcases hown.2 with ⟨rfl, rfl⟩ | ⟨g, cap, cur, rfl, _, _, hnc, _⟩
    · simp [Builtin.append_, run_underlying ht, sizeOf, typeInfo, hi, Builtin.lenOf, Builtin.firstCells, loadCells, hl]
    · simp [Builtin.append_, run_underlying ht, sizeOf, typeInfo, hi, Builtin.lenOf, Builtin.firstCells, hnc, storeCells, loadCells, hl]
end
theorem own00 (W : World) (B : Nat) (t : TypeId) (s : Nat) (hB : W.heap.size = B) : (W.alloc (.cells #[] t)).ownsRow B t s (.slice (some ⟨B, 0, none⟩) 0 0) 0 [] := by
  subst hB
  exact ⟨by simp, .inr ⟨W.heap.size, 0, #[], rfl, Nat.le_refl _, heap_alloc_new _ _, by omega, by simp [maxLen], by simp, by simp⟩⟩
/-- 'append([]T{}, l...)' in a plain region -/
theorem wpList_copy {ops : Array Oper} {rest : List Oper} {o : Oper} {a : Act} {Q : Exit → Act → World → Prop} (W w : World) (hgd : o.guard = none) (s x : Operand) (t : TypeId)
    (ho : o.op = .call { callee := .builtin .append, args := #[s, x], argTypes := #[t, t] })
    (e : TypeId) (i : TypeInfo) (z : Value) (size bytes : Nat) (ht : Tryz.prog.underlying t = some (.slice e)) (hi : Tryz.prog.info? e = some i) (hz : i.zero = some z)
    (hsize : i.size = size) (hby : i.bytes = bytes) (hzs : z.cells.size = size) (hsz : 0 < size)
    (hw : w = W.alloc (.cells #[] e)) (hs : a.eval s = .slice (some ⟨W.heap.size, 0, none⟩) 0 0)
    (A : Option Addr) (n c : Nat) (news : List Value) (hx : a.eval x = .slice A n c) (hl : news.length = n * size)
    (hnews : 0 < n → ∃ ad, A = some ad ∧ ∀ j u, news[j]? = some u → w.cell? (ad.add j) = some u) (h1 : ∀ u ∈ news, u.oneCell' = true)
    (h63 : n ≤ maxLen) (hbytes : n * bytes ≤ 140737488355328)
    (h : ∀ B d w', w'.ownsRow W.heap.size e size (.slice B n d) n news → Kept W w' → wpList Tryz.prog ops Q rest (a.put o.dst (.slice B n d)) w') : wpList Tryz.prog ops Q (o :: rest) a w := by
  have hown : w.ownsRow W.heap.size e size (.slice (some ⟨W.heap.size, 0, none⟩) 0 0) 0 [] := by rw [hw]; exact own00 W _ e size rfl
  have hk : Kept W w := by rw [hw]; exact (Kept.refl W).alloc _
  by_cases hn : 0 < n
  · obtain ⟨ad, rfl, hne⟩ := hnews hn
    refine wpList_append_lies w hgd s x t ho W.heap.size e i z size bytes ht hi hz hsize hby hzs hsz _ 0 [] hs hown ad n c news hx hl hne h1 hn (by omega) (by rw [Nat.zero_add]; exact hbytes) hk.size _ rfl ?_
    intro g cap w' h2 h3 h4 h5
    rw [Nat.zero_add] at h2 ⊢
    rw [List.nil_append] at h2
    exact h _ _ _ h2 (hk.grown h3 (fun k hk => by simp [Value.ownBlock] at hk; omega))
  · obtain rfl : n = 0 := by omega
    obtain rfl : news = [] := List.eq_nil_of_length_eq_zero (by omega)
    refine wpList_plain hgd fun K hK => ?_
    have hr := run_append_zero (P := Tryz.prog) w W.heap.size t o.type e i size ht hi _ 0 [] hown A c
    unfold Oper.wp execOp
    simp only [ho, resolve, invoke, builtin, Sem.run_bind, Sem.run_pure, Result.andThen_ok, List.map_toArray, List.map_cons, List.map_nil, hs, hx, hr]
    exact hK _ _ (h _ _ _ hown hk)

set_option maxRecDepth 100000 in
set_option maxHeartbeats 3200000 in
theorem clone_any (F : Option Addr) (nb cF fb fo : Nat) (fits : List Nat) (w : World) (hf : FitR w F nb cF fb fo fits) :
    Calls Tryz.prog 176 #[.slice F nb cF] w fun e w' => (∃ v, e = .returned v ∧ w'.ownsRow w.heap.size 117 1 v nb (fits.flatMap uC)) ∧ Kept w w' := by
  obtain ⟨i0, hi0, hz0, hz1, hz2⟩ := info_parts info73
  have HF := Lib.hid hf
  have h60 := hf.sz
  clear hf
  cases F with
  | none =>
    have h0 : nb = 0 := by
      by_cases h : 0 < nb
      · have := HF.out.fa h; cases this
      · omega
    subst h0
    have hl := List.length_eq_zero_iff.1 HF.out.ln
    subst hl
    go_enter Tryz.func176, Tryz.ntmps176
    have heq : ∀ w, (binOp BinOp.eql 149 (.slice none 0 cF) (.slice none 0 0)).run Tryz.prog w = .ok (.bool true) w := fun w => by kernel_rfl
    go_wp2_with fail
    go_ret
    exact ⟨⟨_, rfl, World.ownsRow_nil _ _ _ _⟩, Kept.refl _⟩
  | some ad =>
    have HN : RowKit.Hid (0 < nb → ∃ a, some ad = some a ∧ ∀ j u, (fits.flatMap uC)[j]? = some u → (w.alloc (.cells #[] 117)).cell? (a.add j) = some u) := Lib.hid (fun hn => by
      have e := HF.out.fa hn
      refine ⟨ad, rfl, fun j u hu => ?_⟩
      obtain rfl := Option.some.inj e
      rw [flat_uC, List.getElem?_map] at hu
      cases hz : fits[j]? with
      | none => rw [hz] at hu; cases hu
      | some f =>
        rw [hz] at hu
        cases hu
        rw [addr_add]
        exact (((Kept.refl w).alloc (.cells #[] 117)).cells _ _ HF.out.lt).trans (HF.out.rf j f hz))
    have HL : RowKit.Hid ((fits.flatMap uC).length = nb * 1) := Lib.hid (by rw [flat_uC, List.length_map, HF.out.ln, Nat.mul_one])
    have HO : RowKit.Hid (∀ u ∈ fits.flatMap uC, u.oneCell' = true) := Lib.hid (fun u hu => by
      rw [flat_uC] at hu
      obtain ⟨f, _, rfl⟩ := List.mem_map.1 hu
      rfl)
    have heq : ∀ w, (binOp BinOp.eql 149 (.slice (some ad) nb cF) (.slice none 0 0)).run Tryz.prog w = .ok (.bool false) w := fun w => by kernel_rfl
    go_enter Tryz.func176, Tryz.ntmps176
    go_wp2_with (at_builtin; refine wpList_copy w _ rfl (.tmp 5) (.tmp 6) 149 rfl 117 i0 _ 1 8 Tryz.underlying149 hi0 hz0 hz1 hz2 rfl (by decide) rfl rfl _ nb cF (fits.flatMap uC) rfl HL.out HN.out HO.out (by unfold maxLen; omega) (by omega) ?_; intro B d w6 hown hkk)
    go_ret
    exact ⟨⟨_, rfl, hown⟩, hkk⟩
end Go.Proofs.YtologmoanaccpaaGreatDoor

namespace Go.Proofs.YtologmoanaccpaaGreatDoor
set_option linter.all false

/-- how many beasts an owner claims, if at all -/
def wq (wt : List Int) (o : Nat) : Int := wt.getD o 0
def wc (cl : Nat) (wt : List Int) (o : Nat) : Int := if cl.testBit o = true then wq wt o else 0
/-- an assignment that meets claims; what shows that there is none -/
def MetA (fits : List Nat) (cl : Nat) (wt : List Int) (ow : List Int) : Prop := SkV fits ow ∧ ∀ o : Nat, 1 ≤ o → o ≤ 40 → ((ow.count (o : Int) : Nat) : Int) = wc cl wt o
def ShA (fits : List Nat) (cl : Nat) (wt : List Int) : Prop :=
  ∃ (ow : List Int) (a o : Nat), SkV fits ow ∧ (∀ q : Nat, 1 ≤ q → q ≤ 40 → ((ow.count (q : Int) : Nat) : Int) ≤ wc cl wt q) ∧ 1 ≤ o ∧ o ≤ 40 ∧ ((ow.count (o : Int) : Nat) : Int) < wc cl wt o ∧ a.testBit o = true ∧ ∀ q, a.testBit q = true → SkQ fits ow a q
def sq (a : Nat) (f : Nat → Int) : Int := ((List.range 41).map fun q => if 1 ≤ q ∧ a.testBit q = true then f q else 0).sum
theorem sum_add {α : Type} (f g : α → Int) : ∀ l : List α, (l.map fun q => f q + g q).sum = (l.map f).sum + (l.map g).sum
  | [] => by simp
  | x :: l => by simp only [List.map_cons, List.sum_cons, sum_add f g l]; omega
theorem sum_le {α : Type} (f g : α → Int) : ∀ l : List α, (∀ x ∈ l, f x ≤ g x) → (l.map f).sum ≤ (l.map g).sum
  | [], _ => by simp
  | x :: l, h => by
    have h1 := h x (List.mem_cons_self ..)
    have h2 := sum_le f g l (fun y hy => h y (List.mem_cons_of_mem _ hy))
    simp only [List.map_cons, List.sum_cons]; omega
theorem sum_lt {α : Type} (f g : α → Int) : ∀ l : List α, (∀ x ∈ l, f x ≤ g x) → (∃ x ∈ l, f x < g x) → (l.map f).sum < (l.map g).sum
  | [], _, h => by obtain ⟨x, hx, _⟩ := h; cases hx
  | x :: l, h, h3 => by
    have h1 := h x (List.mem_cons_self ..)
    have hl := fun y hy => h y (List.mem_cons_of_mem x hy)
    simp only [List.map_cons, List.sum_cons]
    obtain ⟨y, hy, hlt⟩ := h3
    rcases List.mem_cons.1 hy with rfl | hy
    · have h2 := sum_le f g l hl; omega
    · have h2 := sum_lt f g l hl ⟨y, hy, hlt⟩; omega
theorem sum_one (p : Nat → Bool) (k : Nat) : ∀ n : Nat, ((List.range n).map fun q => if p q = true ∧ q = k then (1 : Int) else 0).sum = if k < n ∧ p k = true then 1 else 0
  | 0 => by simp
  | n + 1 => by
    rw [List.range_succ, List.map_append, List.sum_append, sum_one p k n]
    simp only [List.map_cons, List.map_nil, List.sum_cons, List.sum_nil]
    by_cases e : n = k
    · subst e
      by_cases hp : p n = true
      · simp [hp]
      · simp [hp]
    · have h1 : ¬ (p n = true ∧ n = k) := fun h => e h.2
      rw [if_neg h1]
      by_cases hk : k < n ∧ p k = true
      · rw [if_pos hk, if_pos ⟨by omega, hk.2⟩]; rfl
      · rw [if_neg hk, if_neg (fun h => hk ⟨by omega, h.2⟩)]; rfl
def isA (a : Nat) (x : Int) : Bool := decide (x ≠ 0) && a.testBit x.toNat
theorem sq_count (a : Nat) : ∀ ow : List Int, (∀ x ∈ ow, x = 0 ∨ 1 ≤ x ∧ x ≤ 40) → sq a (fun q => ((ow.count (q : Int) : Nat) : Int)) = (((ow.filter (isA a)).length : Nat) : Int)
  | [], _ => by
    unfold sq
    have : (fun q : Nat => if 1 ≤ q ∧ a.testBit q = true then ((([] : List Int).count (q : Int) : Nat) : Int) else 0) = fun _ => 0 := by funext q; simp
    rw [this]
    simp only [List.filter_nil, List.length_nil]
    decide
  | x :: ow, h => by
    have ih := sq_count a ow (fun y hy => h y (List.mem_cons_of_mem _ hy))
    have hx := h x (List.mem_cons_self ..)
    have e : sq a (fun q => (((x :: ow).count (q : Int) : Nat) : Int)) = sq a (fun q => ((ow.count (q : Int) : Nat) : Int)) + ((List.range 41).map fun q => if (decide (1 ≤ q) && a.testBit q) = true ∧ q = x.toNat then (1 : Int) else 0).sum := by
      unfold sq
      rw [← sum_add]
      congr 1
      apply List.map_congr_left
      intro q hq
      dsimp only
      rw [List.count_cons]
      by_cases h1 : 1 ≤ q ∧ a.testBit q = true
      · rw [if_pos h1, if_pos h1]
        have h2 : (decide (1 ≤ q) && a.testBit q) = true := by simp [h1]
        by_cases h3 : q = x.toNat
        · have : (x == (q : Int)) = true := by simp; omega
          rw [if_pos this, if_pos ⟨h2, h3⟩]; omega
        · have : ¬ (x == (q : Int)) = true := by simp; omega
          rw [if_neg this, if_neg (fun h => h3 h.2)]; omega
      · rw [if_neg h1, if_neg h1, if_neg (fun h => h1 (by simpa using h.1))]; rfl
    rw [e, ih, sum_one]
    rw [List.filter_cons]
    unfold isA
    rcases hx with rfl | ⟨h1, h2⟩
    · simp
    · have e1 : x ≠ 0 := by omega
      have e2 : x.toNat < 41 := by omega
      have e3 : 1 ≤ x.toNat := by omega
      by_cases hb : a.testBit x.toNat = true
      · simp [e1, e2, e3, hb]
      · simp [e1, e2, e3, hb]
theorem sq_le (a : Nat) (f g : Nat → Int) (h : ∀ q, 1 ≤ q → q ≤ 40 → a.testBit q = true → f q ≤ g q) : sq a f ≤ sq a g := by
  unfold sq
  refine sum_le _ _ _ fun q hq => ?_
  by_cases h1 : 1 ≤ q ∧ a.testBit q = true
  · rw [if_pos h1, if_pos h1]; exact h q h1.1 (by simp at hq; omega) h1.2
  · rw [if_neg h1, if_neg h1]; exact Int.le_refl _
theorem sq_lt (a : Nat) (f g : Nat → Int) (h : ∀ q, 1 ≤ q → q ≤ 40 → a.testBit q = true → f q ≤ g q) {o : Nat} (h1 : 1 ≤ o) (h2 : o ≤ 40) (h3 : a.testBit o = true) (h4 : f o < g o) : sq a f < sq a g := by
  unfold sq
  refine sum_lt _ _ _ (fun q hq => ?_) ⟨o, by simp; omega, ?_⟩
  · by_cases h1 : 1 ≤ q ∧ a.testBit q = true
    · rw [if_pos h1, if_pos h1]; exact h q h1.1 (by simp at hq; omega) h1.2
    · rw [if_neg h1, if_neg h1]; exact Int.le_refl _
  · rw [if_pos ⟨h1, h3⟩, if_pos ⟨h1, h3⟩]; exact h4
theorem SkV.dom {fits : List Nat} {ow : List Int} (h : SkV fits ow) : ∀ x ∈ ow, x = 0 ∨ 1 ≤ x ∧ x ≤ 40 := fun x hx => by
  obtain ⟨b, hb⟩ := List.getElem?_of_mem hx
  by_cases h0 : x = 0
  · exact .inl h0
  · exact .inr ⟨(h.2 b x hb h0).1, (h.2 b x hb h0).2.1⟩
/-- beasts that fit somebody of a -/
def fitA (a f : Nat) : Bool := f &&& a != 0
theorem fitA_of {a f q : Nat} (h1 : f.testBit q = true) (h2 : a.testBit q = true) : fitA a f = true := by
  unfold fitA
  simp only [bne_iff_ne, ne_eq]
  intro h
  have := Nat.zero_testBit q
  rw [← h, Nat.testBit_and, h1, h2] at this
  cases this
theorem fitA_iff {a f : Nat} : fitA a f = true ↔ ∃ q, f.testBit q = true ∧ a.testBit q = true := by
  refine ⟨fun h => ?_, fun ⟨q, h1, h2⟩ => fitA_of h1 h2⟩
  unfold fitA at h
  simp only [bne_iff_ne, ne_eq] at h
  by_cases hx : ∃ q, (f &&& a).testBit q = true
  · obtain ⟨q, hq⟩ := hx
    rw [Nat.testBit_and] at hq
    simp at hq
    exact ⟨q, hq⟩
  · refine absurd (Nat.eq_of_testBit_eq fun i => ?_) h
    rw [Nat.zero_testBit]
    cases e : (f &&& a).testBit i
    · rfl
    · exact absurd ⟨i, e⟩ hx
theorem len_le {p : Int → Bool} {q : Nat → Bool} : ∀ {l : List Int} {m : List Nat}, l.length = m.length → (∀ (b : Nat) (x : Int) (f : Nat), l[b]? = some x → m[b]? = some f → p x = true → q f = true) → (l.filter p).length ≤ (m.filter q).length
  | [], _, _, _ => by simp
  | x :: l, [], h, _ => by simp at h
  | x :: l, f :: m, h, hp => by
    have ih := len_le (p := p) (q := q) (l := l) (m := m) (by simpa using h) (fun b x f h1 h2 => hp (b + 1) x f (by simpa using h1) (by simpa using h2))
    have h0 := hp 0 x f rfl rfl
    rw [List.filter_cons, List.filter_cons]
    by_cases e : p x = true
    · rw [if_pos e, if_pos (h0 e)]; simp; exact ih
    · rw [if_neg e]
      by_cases e2 : q f = true
      · rw [if_pos e2]; simp; omega
      · rw [if_neg e2]; exact ih
theorem len_ge {p : Int → Bool} {q : Nat → Bool} : ∀ {l : List Int} {m : List Nat}, l.length = m.length → (∀ (b : Nat) (x : Int) (f : Nat), l[b]? = some x → m[b]? = some f → q f = true → p x = true) → (m.filter q).length ≤ (l.filter p).length
  | [], m, h, _ => by
    have : m = [] := List.length_eq_zero_iff.1 (by simpa using h.symm)
    simp [this]
  | x :: l, [], h, _ => by simp at h
  | x :: l, f :: m, h, hp => by
    have ih := len_ge (p := p) (q := q) (l := l) (m := m) (by simpa using h) (fun b x f h1 h2 => hp (b + 1) x f (by simpa using h1) (by simpa using h2))
    have h0 := hp 0 x f rfl rfl
    rw [List.filter_cons, List.filter_cons]
    by_cases e : q f = true
    · rw [if_pos e, if_pos (h0 e)]; simp; exact ih
    · rw [if_neg e]
      by_cases e2 : p x = true
      · rw [if_pos e2]; simp; omega
      · rw [if_neg e2]; exact ih
/-- the beasts that a meeting assignment gives to a are some that fit a -/
theorem met_le {fits : List Nat} {cl : Nat} {wt ow : List Int} (h : MetA fits cl wt ow) (a : Nat) : sq a (wc cl wt) ≤ (((fits.filter (fitA a)).length : Nat) : Int) := by
  have e : sq a (wc cl wt) ≤ sq a (fun q => ((ow.count (q : Int) : Nat) : Int)) := sq_le _ _ _ fun q h1 h2 _ => by rw [h.2 q h1 h2]; exact Int.le_refl _
  rw [sq_count a ow h.1.dom] at e
  refine Int.le_trans e (Int.ofNat_le.2 (len_le h.1.1 fun b x f hx hf hp => ?_))
  unfold isA at hp
  simp at hp
  obtain ⟨_, _, f', hf', hb⟩ := h.1.2 b x hx hp.1
  rw [hf] at hf'
  cases hf'
  exact fitA_of hb hp.2
theorem sh_gt {fits : List Nat} {cl : Nat} {wt : List Int} (h : ShA fits cl wt) : ∃ a, (∀ q, a.testBit q = true → 1 ≤ q ∧ q ≤ 40) ∧ (((fits.filter (fitA a)).length : Nat) : Int) < sq a (wc cl wt) := by
  obtain ⟨ow, a, o, hv, hle, h1, h2, hlt, ha, hq⟩ := h
  refine ⟨a, fun q h => ⟨(hq q h).1, (hq q h).2.1⟩, ?_⟩
  have e := sq_lt a (fun q => ((ow.count (q : Int) : Nat) : Int)) (wc cl wt) (fun q h1 h2 _ => hle q h1 h2) h1 h2 ha hlt
  rw [sq_count a ow hv.dom] at e
  refine Int.lt_of_le_of_lt (Int.ofNat_le.2 (len_ge hv.1 fun b x f hx hf hp => ?_)) e
  obtain ⟨q, h3, h4⟩ := fitA_iff.1 hp
  obtain ⟨y, h5, h6, h7⟩ := (hq q h4).2.2 b f hf h3
  rw [hx] at h5
  cases h5
  unfold isA
  simp [h6, h7]
theorem met_not_sh {fits : List Nat} {cl : Nat} {wt ow : List Int} (h : MetA fits cl wt ow) : ¬ ShA fits cl wt := fun hs => by
  obtain ⟨a, _, h1⟩ := sh_gt hs
  have := met_le h a
  omega
end Go.Proofs.YtologmoanaccpaaGreatDoor

namespace Go.Proofs.YtologmoanaccpaaGreatDoor
set_option linter.all false
open Go.RowKit Go.Shelf
attribute [local go_sem] Oper.semAt_some

theorem wpListIn_load_mid {F : Fence} {n : Nat} {P : Program} {ops : Array Oper} {rest : List Oper} {op : Oper} {a : Act} {w : World} {Q : Exit → Act → World → Prop} (hgd : op.guard = none) (ty : TypeId) (x : Operand) (ho : op.op = .load ty x)
    (b o : Nat) (hx : a.eval x = .pointer (some ⟨b, o, none⟩)) (cs : List Value) (d : TypeDesc) (hc : w.rangeAt b o cs)
    (hu : P.underlying ty = some d) (hd : d.isRow = true) (hi : (P.info? ty).map (·.size) = some cs.length)
    (h : wpListIn F n P ops Q rest (a.put op.dst (.agg cs.toArray)) w) : wpListIn F n P ops Q (op :: rest) a w := by
  refine wpListIn_plain hgd fun K hK' => ?_
  unfold Oper.wpIn
  refine ⟨?_, ?_⟩
  · simp [Oper.about, ho]
  · rw [Oper.semAt_plain F _ _ (by rw [ho]; intro c hc'; cases hc')]
    simp only [execOp, ho, hx, Instr.loadAt, Instr.sureAddr, Sem.run_bind, Sem.run_pure, Result.andThen_ok, run_loadVar_mid w b o ty cs d hc hu hd hi]
    exact hK' _ _ h

def zer (n : Nat) : List Value := List.replicate n (.int .i64 0)
theorem make43 (n : Nat) (hn : n ≤ 60) (w : World) : (Instr.makeSlice 43 (.int .i64 (n : Int)) (.int .i64 (n : Int))).run Tryz.prog w = .ok (.slice (some ⟨w.heap.size, 0, none⟩) n n) (w.alloc (.cells (zer n).toArray 3)) := by
  obtain ⟨i, hi, hz, hsz, hb⟩ := info_parts info3
  have := run_make (P := Tryz.prog) w 43 3 i _ Tryz.underlying43 hi hz .i64 .i64 (n : Int) (n : Int) (by omega) (Int.le_refl _) (by rw [hb]; omega) (by omega)
  rw [this, hsz, Int.toNat_natCast, Nat.mul_one]
  have e : madeCells (Value.int .i64 0).cells n = (zer n).toArray := by
    unfold madeCells zer
    apply Array.ext
    · simp
    · intro j h1 h2
      simp [Value.cells]
      rw [Nat.mod_one]
      rfl
  rw [e]
theorem zer_map (n : Nat) : zer n = (List.replicate n (0 : Int)).map (Value.int .i64) := by simp [zer]
theorem zer_at {n j : Nat} {x : Int} (h : (List.replicate n (0 : Int))[j]? = some x) : (zer n)[j]? = some (.int .i64 x) := by
  rw [zer_map, List.getElem?_map, h]; rfl
theorem below_between {n0 : Nat} {w V w1 : World} (h : Below n0 w V) (k : Below n0 w w1) (hs : V.heap.size ≤ w1.heap.size) : Below n0 V w1 :=
  ⟨k.os.trans h.os.symm, k.tape.trans h.tape.symm, k.output.trans h.output.symm, hs, fun i hi => (k.block i hi).trans (h.block i hi).symm⟩
theorem hasr_heap {W W' : World} {hA : Option Addr} {nb cb hb ho : Nat} {ow : List Int} (e : W'.heap[hb]? = W.heap[hb]?) (hz : W.heap.size ≤ W'.heap.size) (h : HasR W hA nb cb hb ho ow) : HasR W' hA nb cb hb ho ow :=
  ⟨h.ln, h.nc, h.cm, h.ha, Nat.lt_of_lt_of_le h.lt hz, fun i x hi => ⟨(cell_heap e).trans (h.rh i x hi).1, (frozen_heap e).trans (h.rh i x hi).2⟩⟩
/-- how many beasts each has who was served -/
def CntA (wt ow : List Int) (pre : List Nat) : Prop := ∀ q : Nat, 1 ≤ q → q ≤ 40 → ((ow.count (q : Int) : Nat) : Int) = if q ∈ pre then wq wt q else 0
theorem has_new (W : World) (n : Nat) (t : TypeId) (hn : n ≤ 60) : HasR (W.alloc (.cells (zer n).toArray t)) (some ⟨W.heap.size, 0, none⟩) n n W.heap.size 0 (List.replicate n 0) :=
  ⟨by simp, Nat.le_refl _, by omega, fun _ => rfl, by simp, fun i x hx => by rw [Nat.zero_add]; exact RowC.new W (zer n) t i _ (zer_at hx)⟩
theorem skv_zero (fits : List Nat) : SkV fits (List.replicate fits.length 0) :=
  ⟨by simp, fun b x hx h0 => by
    rw [List.getElem?_replicate] at hx
    split at hx
    · cases hx; exact absurd rfl h0
    · cases hx⟩
theorem cnt_zero (wt : List Int) (n : Nat) : CntA wt (List.replicate n 0) [] := fun q h1 _ => by
  rw [List.count_replicate]
  have : ((0 : Int) == (q : Int)) = false := by simp; omega
  simp [this]
theorem own_block {W W' : World} {B : Nat} {row : Option Nat} (hg : W.grownBy W' row) (hr : ∀ r, row = some r → B ≤ r ∧ ∃ o : Obj, W.heap[r]? = some o ∧ o.isCells = false) {b o : Nat} {v : Value} (hc : W.cell? ⟨b, o, none⟩ = some v) : W'.heap[b]? = W.heap[b]? := by
  refine hg.block b (cell_lt hc) ?_
  intro e
  obtain ⟨_, ob, h1, h2⟩ := hr b e.symm
  unfold World.cell? at hc
  dsimp only at hc
  rw [h1] at hc
  cases ob <;> simp_all [Obj.isCells]
theorem rowc_heap {W W' : World} {b : Nat} {vs : List Value} (e : W'.heap[b]? = W.heap[b]?) (h : RowC W b vs) : RowC W' b vs := fun j v hv => ⟨(cell_heap e).trans (h j v hv).1, (frozen_heap e).trans (h j v hv).2⟩
theorem own_rowc {W W' : World} {B : Nat} {row : Option Nat} (hg : W.grownBy W' row) (hr : ∀ r, row = some r → B ≤ r ∧ ∃ o : Obj, W.heap[r]? = some o ∧ o.isCells = false) {b : Nat} {vs : List Value} (h : RowC W b vs) : RowC W' b vs := fun j v hv => by
  have e := own_block hg hr (h j v hv).1
  exact ⟨(cell_heap e).trans (h j v hv).1, (frozen_heap e).trans (h j v hv).2⟩
theorem HasR.own {W W' : World} {B : Nat} {row : Option Nat} (hg : W.grownBy W' row) (hr : ∀ r, row = some r → B ≤ r ∧ ∃ o : Obj, W.heap[r]? = some o ∧ o.isCells = false) {hA : Option Addr} {nb cb hb ho : Nat} {ow : List Int} (h : HasR W hA nb cb hb ho ow) : HasR W' hA nb cb hb ho ow :=
  ⟨h.ln, h.nc, h.cm, h.ha, Nat.lt_of_lt_of_le h.lt hg.size, fun i x hi => by
    have e := own_block hg hr (h.rh i x hi).1
    exact ⟨(cell_heap e).trans (h.rh i x hi).1, (frozen_heap e).trans (h.rh i x hi).2⟩⟩
def MtR (w : World) (hL : List Value) (W : World) : Prop := RowC W w.heap.size hL ∧ RowC W (w.heap.size + 1) [.slice none 0 0] ∧ RowC W (w.heap.size + 1 + 1) [.bool false]
def MtI (w : World) (hL : List Value) (nb : Nat) (wt : List Int) (fits : List Nat) (cl : Nat) (pre : List {x : Nat // cl.testBit x = true}) (W : World) : Prop :=
  MtR w hL W ∧ RowC W (w.heap.size + 1 + 1 + 1 + 1) [.slice (some ⟨w.heap.size + 1 + 1 + 1, 0, none⟩) nb nb] ∧ (∃ ow, HasR W (some ⟨w.heap.size + 1 + 1 + 1, 0, none⟩) nb nb (w.heap.size + 1 + 1 + 1) 0 ow ∧ SkV fits ow ∧ (Coh cl pre → CntA wt ow (pre.map (·.1)))) ∧ Below w.heap.size w W
theorem MtI.own (w : World) (hL : List Value) (nb : Nat) (wt : List Int) (fits : List Nat) (cl B : Nat) (hB : w.heap.size ≤ B) : OwnFrom B (MtI w hL nb wt fits cl) := by
  rintro pre W W' row ⟨⟨h1, h2, h3⟩, h4, ⟨ow, h5, h6, h7⟩, h8⟩ hg hr
  exact ⟨⟨own_rowc hg hr h1, own_rowc hg hr h2, own_rowc hg hr h3⟩, own_rowc hg hr h4, ⟨ow, h5.own hg hr, h6, h7⟩, h8.grown hg h8.size (fun k e => Nat.le_trans hB (hr k e).1)⟩
def MtX (w : World) (fits : List Nat) (cl : Nat) (wt : List Int) (c : Code) (pre : List {x : Nat // cl.testBit x = true}) (W : World) : Prop :=
  c = .ret ∧ RowC W (w.heap.size + 1) [.slice none 0 0] ∧ RowC W (w.heap.size + 1 + 1) [.bool false] ∧ (Coh cl pre → ShA fits cl wt) ∧ Below w.heap.size w W
theorem MtX.own (w : World) (fits : List Nat) (cl : Nat) (wt : List Int) (c : Code) (B : Nat) (hB : w.heap.size ≤ B) : OwnFrom B (MtX w fits cl wt c) := by
  rintro pre W W' row ⟨h0, h1, h2, h3, h8⟩ hg hr
  exact ⟨h0, own_rowc hg hr h1, own_rowc hg hr h2, h3, h8.grown hg h8.size (fun k e => Nat.le_trans hB (hr k e).1)⟩
def MtS (w : World) (hL : List Value) (F : Option Addr) (nb cF cl : Nat) (x : {x : Nat // cl.testBit x = true}) (a' : Act) (W : World) : Prop :=
  a' = { tmps := #[.agg hL.toArray, .pointer (some ⟨w.heap.size, 0, none⟩), .pointer (some ⟨w.heap.size + 1, 0, none⟩), .pointer (some ⟨w.heap.size + 1 + 1, 0, none⟩), .pointer (some ⟨w.heap.size + 1 + 1 + 1 + 1, 0, none⟩), .int .i64 (x.1 : Int), .pointer (some ⟨w.heap.size, 0, none⟩), .slice F nb cF, .int .i64 (nb : Int), .slice (some ⟨w.heap.size + 1 + 1 + 1, 0, none⟩) nb nb, .pointer (some ⟨w.heap.size, 1, none⟩), .int .u64 (cl : Int), .func (.func 200) #[] #[.pointer (some ⟨w.heap.size + 1 + 1 + 1 + 1 + 1, 0, none⟩)], .int .i64 (x.1 : Int), undef, undef, undef, undef, undef, undef, undef, undef, undef, undef, undef, undef, undef], defers := [] }
theorem MtS.own (w : World) (hL : List Value) (F : Option Addr) (nb cF cl : Nat) (x : {x : Nat // cl.testBit x = true}) (a' : Act) (B' : Nat) : OwnFrom B' (fun (_ : Unit) W => MtS w hL F nb cF cl x a' W) := by
  rintro s W W' row h hg hr
  exact h
def MtP (w : World) (fits : List Nat) (cl nb : Nat) (wt : List Int) (e : Ending) (w' : World) : Prop :=
  ((∃ hb ow, e = .returned (.tuple #[.slice (some ⟨hb, 0, none⟩) nb nb, .bool true]) ∧ HasR w' (some ⟨hb, 0, none⟩) nb nb hb 0 ow ∧ MetA fits cl wt ow ∧ w.heap.size ≤ hb) ∨ (e = .returned (.tuple #[.slice none 0 0, .bool false]) ∧ ShA fits cl wt)) ∧ Kept w w'
set_option maxRecDepth 100000 in
set_option maxHeartbeats 3200000 in
theorem meet_any (F : Option Addr) (nb cF fb fo cl : Nat) (wt : List Int) (fits : List Nat) (w : World) (hf : FitR w F nb cF fb fo fits) (hw : wt.length = 41) (hwb : ∀ o, 0 ≤ wq wt o ∧ wq wt o ≤ 60) (hcl : cl < 2 ^ 41) (hc0 : cl.testBit 0 = false) (hE : EnvT w) :
    Calls Tryz.prog 124 #[.agg (hrL F nb cF cl wt).toArray] w (MtP w fits cl nb wt) := by
  have HF := Lib.hid hf
  have h60 := hf.sz
  have hcf := hf.nc
  have hcm := hf.cm
  have hi : (Tryz.prog.info? 153).map (·.size) = some 43 := by kernel_rfl
  have hmk := make43 nb h60
  obtain ⟨W3, hW3⟩ : ∃ W3, W3 = ((w.alloc (.cells (hrL F nb cF cl wt).toArray 153)).alloc (.cells #[.slice none 0 0] 43)).alloc (.cells #[.bool false] 4) := ⟨_, rfl⟩
  have k3 : Kept w W3 := by rw [hW3]; exact (((Kept.refl w).alloc _).alloc _).alloc _
  have z3 : W3.heap.size = w.heap.size + 1 + 1 + 1 := by rw [hW3]; simp
  have R1 := Lib.hid (show RowC W3 w.heap.size (hrL F nb cF cl wt) by rw [hW3]; exact (RowC.new w _ 153).kept (((Kept.refl _).alloc _).alloc _))
  have R2 := Lib.hid (show RowC W3 (w.heap.size + 1) [.slice none 0 0] by
    rw [hW3]
    have h := (RowC.new (w.alloc (.cells (hrL F nb cF cl wt).toArray 153)) [.slice none 0 0] 43).kept ((Kept.refl _).alloc (.cells #[.bool false] 4))
    rw [World.size_alloc] at h
    exact h)
  have R3 := Lib.hid (show RowC W3 (w.heap.size + 1 + 1) [.bool false] by
    rw [hW3]
    have h := RowC.new ((w.alloc (.cells (hrL F nb cF cl wt).toArray 153)).alloc (.cells #[.slice none 0 0] 43)) [.bool false] 4
    rw [World.size_alloc, World.size_alloc] at h
    exact h)
  have a0 := (R1.out 0 _ rfl).1
  have a1 := (R1.out 1 _ rfl).1
  have HW3 := Lib.hid hW3
  have HK3 := Lib.hid k3
  have la := cell_lt a0
  clear hf hW3 k3
  refine (callsIn_wide (n := 8)).1 ?_
  refine callsIn_of_wp_marks Tryz.func124 rfl trivial ?_ rfl
  simp only [Tryz.ntmps124, List.size_toArray, List.length_cons, List.length_nil, Nat.reduceAdd, Nat.reduceSub, Array.replicate_succ, Array.replicate_zero, List.push_toArray, List.append_toArray, List.nil_append, List.cons_append]
  refine wpIn_wide.2 ?_
  go_upto_region 1 with (fail)
  rw [← HW3.out]
  go_wp2_with fail
  obtain ⟨W5, hW5⟩ : ∃ W5, W5 = (W3.alloc (.cells (zer nb).toArray 3)).alloc (.cells #[.slice (some ⟨w.heap.size + 1 + 1 + 1, 0, none⟩) nb nb] 43) := ⟨_, rfl⟩
  have k5 : Kept W3 W5 := by rw [hW5]; exact ((Kept.refl _).alloc _).alloc _
  have z5 : W5.heap.size = w.heap.size + 1 + 1 + 1 + 1 + 1 := by rw [hW5]; simp [z3]
  have hh5 : HasR W5 (some ⟨w.heap.size + 1 + 1 + 1, 0, none⟩) nb nb (w.heap.size + 1 + 1 + 1) 0 (List.replicate nb 0) := by
    have h := (has_new W3 nb 3 h60).kept ((Kept.refl _).alloc (.cells #[.slice (some ⟨w.heap.size + 1 + 1 + 1, 0, none⟩) nb nb] 43))
    rw [← hW5, z3] at h
    exact h
  have r5 : RowC W5 (w.heap.size + 1 + 1 + 1 + 1) [.slice (some ⟨w.heap.size + 1 + 1 + 1, 0, none⟩) nb nb] := by
    have h := RowC.new (W3.alloc (.cells (zer nb).toArray 3)) [.slice (some ⟨w.heap.size + 1 + 1 + 1, 0, none⟩) nb nb] 43
    rw [World.size_alloc, z3] at h
    rw [hW5]
    exact h
  rw [← hW5]
  refine (each_any cl W5).mono ?_
  rintro e w6 ⟨rfl, rfl⟩
  rw [z5]
  obtain ⟨W6, hW6⟩ : ∃ W6, W6 = W5.alloc (.cells #[.int .u64 cl] 117) := ⟨_, rfl⟩
  rw [← hW6]
  have k6 : Kept W5 W6 := by rw [hW6]; exact (Kept.refl _).alloc _
  have z6 : W6.heap.size = w.heap.size + 1 + 1 + 1 + 1 + 1 + 1 := by rw [hW6]; simp [z5]
  have c6 : W6.cell? ⟨w.heap.size + 1 + 1 + 1 + 1 + 1, 0, none⟩ = some (.int .u64 cl) := by
    rw [hW6, ← z5]; exact (RowC.new W5 [.int .u64 cl] 117 0 _ rfl).1
  have k06 : Kept w W6 := HK3.out.trans (k5.trans k6)
  have hI0 : MtI w (hrL F nb cF cl wt) nb wt fits cl [] W6 := ⟨⟨R1.out.kept (k5.trans k6), R2.out.kept (k5.trans k6), R3.out.kept (k5.trans k6)⟩, r5.kept k6, ⟨_, hh5.kept k6, by rw [← HF.out.ln]; exact skv_zero fits, fun _ => cnt_zero wt nb⟩, k06.below⟩
  have hseq := each_stopsS 7 (by omega) (w.heap.size + 1 + 1 + 1 + 1 + 1) cl (by omega) w hE W6 k06 c6
  have HK6 := Lib.hid k06
  have Z6 := Lib.hid z6
  have HE := Lib.hid hE
  have HWB := Lib.hid hwb
  have HW := Lib.hid hw
  clear hW5 hW6 k5 z5 hh5 r5 k6 c6 k06 z3 hE hwb a0 a1 la R1 R2 R3 hmk
  go_wp2_with fail
  refine (wpIn_wide (n := 8)).1 ?_
  refine wpIn_rangeFunc_ownH rfl (by omega) (gf := 200) (lb := #[.pointer (some ⟨w.heap.size + 1 + 1 + 1 + 1 + 1, 0, none⟩)]) rfl trivial (enters_of Tryz.func200 (by kernel_rfl) rfl)
    hseq KpB.trans (KpB.put HK6.out.size) (Below.refl _ _) (fun _ => rfl)
    (MtI w (hrL F nb cF cl wt) nb wt fits cl) (MtX w fits cl wt) (MtI.own _ _ _ _ _ _ _ HK6.out.size) (fun c => MtX.own _ _ _ _ _ _ HK6.out.size) hI0 (MtS w (hrL F nb cF cl wt) F nb cF cl) (fun x a' => MtS.own _ _ _ _ _ _ _ _ _) ?assign ?body ?done ?stop
  case assign =>
    intro l pre x V K hi hK
    gi_wp2
    exact hK _ _ (KeepsFrom.refl _ _) (Below.refl _ _) hi rfl
  case body =>
    rintro l pre ⟨o, hob⟩ a' V hl2 - hi rfl hlt2
    obtain ⟨⟨r1, r2, r3⟩, r4, ⟨ow, hh, hv, hc⟩, hb⟩ := hi
    have ho2 : o ≤ 40 := by
      rcases Nat.lt_or_ge o 41 with h1 | h1
      · omega
      · rw [Nat.testBit_lt_two_pow (Nat.lt_of_lt_of_le hcl (Nat.pow_le_pow_right (by omega) h1))] at hob; cases hob
    have ho1 : 1 ≤ o := by
      rcases Nat.eq_zero_or_pos o with rfl | h1
      · rw [hc0] at hob; cases hob
      · exact h1
    obtain ⟨N, hN⟩ : ∃ N, wq wt o = N := ⟨_, rfl⟩
    have hNb := HWB.out o
    rw [hN] at hNb
    obtain ⟨n, rfl⟩ : ∃ n : Nat, N = (n : Int) := ⟨N.toNat, by omega⟩
    have hwt : wt[o]? = some (n : Int) := by
      rw [← hN]; unfold wq
      rw [List.getD_eq_getElem?_getD, List.getElem?_eq_getElem (by omega)]; rfl
    have b2 := (r1 (2 + o) (.int .i64 (n : Int)) (by rw [Nat.add_comm]; simp [hrL, hwt])).1
    have lb := cell_lt b2
    have HOB := Lib.hid hob
    have HN := Lib.hid hN
    have HMR := Lib.hid (show MtR w (hrL F nb cF cl wt) V from ⟨r1, r2, r3⟩)
    have HR4 := Lib.hid r4
    have HH := Lib.hid hh
    have HV := Lib.hid hv
    have HC := Lib.hid hc
    have HB := Lib.hid hb
    have HL2 := Lib.hid hl2
    clear hN r1 r2 r3 r4 hh hv hc hb hl2 hlt2 hI0 hseq hwt
    gi_wp2_with fail
    clear b2
    gi_loopw [18] (fun v w1 => ∃ k : Nat, k ≤ n ∧ v = .int .i64 k ∧ MtR w (hrL F nb cF cl wt) w1 ∧ RowC w1 (w.heap.size + 1 + 1 + 1 + 1) [.slice (some ⟨w.heap.size + 1 + 1 + 1, 0, none⟩) nb nb] ∧ (∃ ow', HasR w1 (some ⟨w.heap.size + 1 + 1 + 1, 0, none⟩) nb nb (w.heap.size + 1 + 1 + 1) 0 ow' ∧ SkV fits ow' ∧ (∀ q : Int, q ≠ 0 → q ≠ (o : Int) → ow'.count q = ow.count q) ∧ ow'.count (o : Int) = ow.count (o : Int) + k) ∧ Below w.heap.size w w1 ∧ KeepsFrom W6.heap.size V w1) (fun v _ => n - (intOf v).toNat)
    case atStart => exact ⟨0, by omega, by first | rfl | go_num, HMR.out, HR4.out, ⟨ow, HH.out, HV.out, fun _ _ _ => rfl, rfl⟩, HB.out, KeepsFrom.refl _ _⟩
    case round =>
      obtain ⟨k, hk, rfl, hmr, h4, ⟨ow1, hh1, hv1, hq1, ho1'⟩, hb1, hkf⟩ := hrel
      have HMR1 := Lib.hid hmr
      have HR41 := Lib.hid h4
      have HH1 := Lib.hid hh1
      have HV1 := Lib.hid hv1
      have HQ1 := Lib.hid hq1
      have HO1 := Lib.hid ho1'
      have HB1 := Lib.hid hb1
      have HKF := Lib.hid hkf
      have c4 := (h4 0 _ rfl).1
      have l4 := cell_lt c4
      have s1 := (hmr.2.1 0 _ rfl)
      have s2 := (hmr.2.2 0 _ rfl)
      have HRG : RowKit.Hid (wr.rangeAt w.heap.size 0 (hrL F nb cF cl wt)) := Lib.hid (fun j v hv => by rw [Nat.zero_add]; exact (hmr.1 j v hv).1)
      have HSZ : RowKit.Hid ((Tryz.prog.info? 153).map (·.size) = some (hrL F nb cF cl wt).length) := Lib.hid (by rw [hi]; simp [hrL, hw])
      have HFr := Lib.hid ((HF.out.kept (show Kept w wr from hb1)))
      have HG : RowKit.Hid (Calls Tryz.prog 130 #[.agg (hrL F nb cF cl wt).toArray, .slice (some ⟨w.heap.size + 1 + 1 + 1, 0, none⟩) nb nb, .int .i64 (o : Int)] wr (GnP w wr (some ⟨w.heap.size + 1 + 1 + 1, 0, none⟩) nb nb (w.heap.size + 1 + 1 + 1) 0 fits o ow1)) := Lib.hid (gain_any w wr F _ nb cF fb fo nb _ 0 cl o wt fits ow1 hb1 HFr.out hh1 hv1 (by have := HF.out.lt; omega) (by omega) ho1 ho2)
      clear hmr h4 hh1 hv1 hq1 ho1' hb1 hkf
      by_cases hlt : k < n
      · gi_wp2_with (refine wpListIn_load_mid rfl 153 (.tmp 1) rfl w.heap.size 0 rfl (hrL F nb cF cl wt) _ HRG.out Tryz.underlying153 rfl HSZ.out ?_)
        refine ⟨trivial, (CallsIn.inRound l (callsIn_wide.2 HG.out)).mono ?_⟩
        rintro e w2 ⟨ow2, r, rfl, hh2, hv2, hk2, hs2, hz2, ht, hf2⟩
        have HH2 := Lib.hid hh2
        have HV2 := Lib.hid hv2
        have HK2 := Lib.hid hk2
        have HZ2 := Lib.hid hz2
        have HS2 := Lib.hid hs2
        have HMR2 := Lib.hid (show MtR w (hrL F nb cF cl wt) w2 from ⟨rowc_heap (hs2 _ (cell_lt (HMR1.out.1 0 _ rfl).1) (by omega)) HMR1.out.1, rowc_heap (hs2 _ (cell_lt (HMR1.out.2.1 0 _ rfl).1) (by omega)) HMR1.out.2.1, rowc_heap (hs2 _ (cell_lt (HMR1.out.2.2 0 _ rfl).1) (by omega)) HMR1.out.2.2⟩)
        have HR42 := Lib.hid (rowc_heap (hs2 _ l4 (by omega)) HR41.out)
        have HKF2 := Lib.hid (show KeepsFrom W6.heap.size V w2 from HKF.out.trans ⟨hz2, fun kk o hB hk ho => (hs2 kk (Array.getElem?_eq_some_iff.1 hk).1 (by have := Z6.out; omega)).trans hk⟩)
        have t1 := (HMR2.out.2.1 0 _ rfl)
        have t2 := (HMR2.out.2.2 0 _ rfl)
        have HT := Lib.hid ht
        have HF2 := Lib.hid hf2
        clear hh2 hv2 hk2 hz2 hs2 ht hf2 c4 s1 s2
        cases r
        · obtain ⟨t11, t12⟩ := t1
          obtain ⟨t21, t22⟩ := t2
          have l1 := cell_lt t11
          have l2 := cell_lt t21
          have hf3 := HF2.out (Eq.refl false)
          obtain ⟨rfl, av, hav, hsq⟩ := hf3
          have HSH : RowKit.Hid (Coh cl (pre ++ [⟨o, hob⟩]) → ShA fits cl wt) := Lib.hid (fun hco => by
            obtain ⟨hco1, hnot⟩ := hco.init
            have hcnt := HC.out hco1
            have hz : ((ow.count (o : Int) : Nat) : Int) = 0 := by rw [hcnt o ho1 ho2, if_neg hnot]
            refine ⟨ow2, av, o, HV2.out, fun q h1 h2 => ?_, ho1, ho2, ?_, hav, hsq⟩
            · by_cases hqo : q = o
              · subst hqo
                rw [HO1.out]
                unfold wc
                rw [if_pos hob, HN.out]
                omega
              · rw [HQ1.out (q : Int) (by omega) (by omega), hcnt q h1 h2]
                unfold wc
                by_cases hm : q ∈ pre.map (·.1)
                · rw [if_pos hm]
                  obtain ⟨⟨y, hy⟩, _, rfl⟩ := List.mem_map.1 hm
                  rw [if_pos hy]
                  exact Int.le_refl _
                · rw [if_neg hm]
                  split
                  · exact (HWB.out q).1
                  · exact Int.le_refl _
            · rw [HO1.out]
              unfold wc
              rw [if_pos hob, HN.out]
              omega)
          clear hsq hav
          gi_wp2_with fail
          refine ⟨HKF2.out.trans (((KeepsOthers.setCell _ _ _).trans (KeepsOthers.setCell _ _ _)).from _), rfl, ?_, ?_, HSH.out, ?_⟩
          · exact (HMR2.out.2.1.put (j := 0) (by simp) (.slice none 0 0)).far (by omega) _
          · exact (HMR2.out.2.2.far (by omega) _).put (j := 0) (by simp) (.bool false)
          · exact (HK2.out.below.setCell (p := ⟨w.heap.size + 1, 0, none⟩) (by dsimp only; omega) _).setCell (p := ⟨w.heap.size + 1 + 1, 0, none⟩) (by dsimp only; omega) _
        · clear t1 t2
          have HT3 := Lib.hid (HT.out (Eq.refl true))
          gi_wp2_with fail
          go_roundw
          case rel => exact ⟨k + 1, by omega, by go_num, HMR2.out, HR42.out, ⟨ow2, HH2.out, HV2.out, fun q h1 h2 => (HT3.out.1 q h1 h2).trans (HQ1.out q h1 h2), by rw [HT3.out.2, HO1.out]; omega⟩, HK2.out.below, HKF2.out⟩
          case measure => simp [intOf]; omega
      · obtain rfl : k = n := by omega
        gi_wp2_with fail
        refine ⟨HKF.out, below_between HB.out HB1.out HKF.out.size, HMR1.out, HR41.out, ⟨ow1, HH1.out, HV1.out, fun hco => ?_⟩, HB1.out⟩
        obtain ⟨hco1, hnot⟩ := hco.init
        have hcnt := HC.out hco1
        intro q h1 h2
        rw [List.map_append, List.map_cons, List.map_nil]
        by_cases hqo : q = o
        · subst hqo
          have hz := hcnt q h1 h2
          rw [if_neg hnot] at hz
          rw [if_pos (by simp), HN.out, HO1.out]
          omega
        · rw [HQ1.out (q : Int) (by omega) (by omega), hcnt q h1 h2]
          have : (q ∈ pre.map (·.1) ++ [o]) ↔ q ∈ pre.map (·.1) := by simp [hqo]
          simp only [this]
  case done =>
    rintro D ys V hD rfl ⟨⟨r1, r2, r3⟩, r4, ⟨ow, hh, hv, hc⟩, hb⟩ hK
    have hc4 := (r4 0 _ rfl).1
    have l4 := cell_lt hc4
    obtain ⟨t11, t12⟩ := r2 0 _ rfl
    obtain ⟨t21, t22⟩ := r3 0 _ rfl
    have l1 := cell_lt t11
    have l2 := cell_lt t21
    have R2 := Lib.hid r2
    have R3 := Lib.hid r3
    have HH := Lib.hid hh
    have HB := Lib.hid hb
    have HM : RowKit.Hid (MetA fits cl wt ow) := Lib.hid ⟨hv, fun q h1 h2 => by
      have h := hc (Coh.pre (List.prefix_refl _)) q h1 h2
      rw [h, bitsS_map]
      unfold wc
      by_cases hq : cl.testBit q = true
      · rw [if_pos ((bitsK_mem hcl).2 hq), if_pos hq]
      · rw [if_neg (fun h => hq ((bitsK_mem hcl).1 h)), if_neg hq]⟩
    have HKD := Lib.hid hK
    clear r1 r2 r3 r4 hh hv hc hb hI0 hseq
    go_wp2
    obtain ⟨V2, hV2⟩ : ∃ V2, V2 = ((V.setCell ⟨w.heap.size + 1, 0, none⟩ (.slice (some ⟨w.heap.size + 1 + 1 + 1, 0, none⟩) nb nb)).setCell ⟨w.heap.size + 1 + 1, 0, none⟩ (.bool true)) := ⟨_, rfl⟩
    have hK2 : V2.heap[D]? = some (.deferred (some [])) := by
      rw [hV2, heap_set (by dsimp only; have := Z6.out; omega), heap_set (by dsimp only; have := Z6.out; omega)]; exact HKD.out
    rw [← hV2]
    refine ⟨by simp, .inl ⟨_, _, rfl, run_takeDeferred hK2, ?_⟩⟩
    have hpb : ∀ b, b ≠ D → (V2.putObj D (.deferred none)).heap[b]? = V2.heap[b]? := fun b hb => World.putObj_heap_other (by omega)
    have q1 : RowC V2 (w.heap.size + 1) [.slice (some ⟨w.heap.size + 1 + 1 + 1, 0, none⟩) nb nb] := by
      rw [hV2]; exact (R2.out.put (j := 0) (by simp) _).far (by omega) _
    have q2 : RowC V2 (w.heap.size + 1 + 1) [.bool true] := by
      rw [hV2]; exact (R3.out.far (by omega) _).put (j := 0) (by simp) _
    have q3 : HasR V2 (some ⟨w.heap.size + 1 + 1 + 1, 0, none⟩) nb nb (w.heap.size + 1 + 1 + 1) 0 ow := by
      rw [hV2]
      have hz : ∀ b, b ≠ w.heap.size + 1 → b ≠ w.heap.size + 1 + 1 → ((V.setCell ⟨w.heap.size + 1, 0, none⟩ (.slice (some ⟨w.heap.size + 1 + 1 + 1, 0, none⟩) nb nb)).setCell ⟨w.heap.size + 1 + 1, 0, none⟩ (.bool true)).heap[b]? = V.heap[b]? := fun b h1 h2 => (heap_set (by dsimp only; omega)).trans (heap_set (by dsimp only; omega))
      exact hasr_heap (hz _ (by omega) (by omega)) (by rw [size_set, size_set]; exact Nat.le_refl _) HH.out
    have hzz := Z6.out
    have q1' := rowc_heap (hpb _ (by omega)) q1
    have q2' := rowc_heap (hpb _ (by omega)) q2
    have c1 := (q1' 0 _ rfl).1
    have c2 := (q2' 0 _ rfl).1
    refine ⟨.tuple #[.slice (some ⟨w.heap.size + 1 + 1 + 1, 0, none⟩) nb nb, .bool true], by simp [results, Tryz.results124, go_sem, c1, c2], .inl ⟨_, ow, rfl, hasr_heap (hpb _ (by omega)) (by simp) q3, HM.out, by omega⟩, ?_⟩
    have hk2 : Kept w V2 := by
      rw [hV2]
      exact (show Kept w V from HB.out).setCell (p := ⟨w.heap.size + 1, 0, none⟩) (by dsimp only; omega) _ |>.setCell (p := ⟨w.heap.size + 1 + 1, 0, none⟩) (by dsimp only; omega) _
    exact hk2.putDeferred (by have := HK6.out.size; omega) hK2 rfl rfl
  case stop =>
    rintro D c pre V hD hp ⟨rfl, r2, r3, hsh, hb⟩ hK
    have hzz := Z6.out
    have HSH := Lib.hid (hsh (Coh.pre hp))
    gi_wp2
    refine ⟨by simp, .inl ⟨_, _, rfl, run_takeDeferred hK, ?_⟩⟩
    have hpb : ∀ b, b ≠ D → (V.putObj D (.deferred none)).heap[b]? = V.heap[b]? := fun b hb => World.putObj_heap_other (by omega)
    have q1' := rowc_heap (hpb _ (by omega)) r2
    have q2' := rowc_heap (hpb _ (by omega)) r3
    have c1 := (q1' 0 _ rfl).1
    have c2 := (q2' 0 _ rfl).1
    refine ⟨.tuple #[.slice none 0 0, .bool false], by simp [results, Tryz.results124, go_sem, c1, c2], .inr ⟨rfl, HSH.out⟩, ?_⟩
    exact (show Kept w V from hb).putDeferred (by have := HK6.out.size; omega) hK rfl rfl
end Go.Proofs.YtologmoanaccpaaGreatDoor
