/-
  all lists of signs in their order: digits, allSigns
-/
import Derived.Test.YtologmoanaccpaaGreatDoorQa
import Derived.Test.YtologmoanaccpaaGreatDoorNA
namespace Go.Proofs.YtologmoanaccpaaGreatDoor
set_option linter.all false
open Go.RowKit Go.Shelf
attribute [local go_sem] Oper.semAt_some

def dgV (n i : Nat) : Nat := (n / 5 ^ (5 - i)) % 5
def sgN (n : Nat) : Sg := ⟨dgV n 0, dgV n 1, dgV n 2, dgV n 3, dgV n 4, dgV n 5⟩
def dgK (n k : Nat) : List Value := (List.range 6).map fun i => .int .u8 ((if 6 - k ≤ i then dgV n i else 0 : Nat) : Int)
theorem dgK_len (n k : Nat) : (dgK n k).length = 6 := by simp [dgK]
theorem dgK_succ (n k : Nat) (hk : k < 6) : (dgK n k).set (5 - k) (.int .u8 (((n / 5 ^ k) % 5 : Nat) : Int)) = dgK n (k + 1) := by
  apply List.ext_getElem?
  intro i
  rw [List.getElem?_set]
  unfold dgK
  by_cases h1 : 5 - k = i
  · subst h1
    rw [if_pos rfl, if_pos (by simp; omega), List.getElem?_map, List.getElem?_range (by omega)]
    simp only [Option.map_some]
    rw [if_pos (by omega)]
    unfold dgV
    rw [show 5 - (5 - k) = k by omega]
  · rw [if_neg h1, List.getElem?_map, List.getElem?_map]
    rcases Nat.lt_or_ge i 6 with h2 | h2
    · rw [List.getElem?_range h2]
      simp only [Option.map_some]
      have : (6 - k ≤ i) ↔ (6 - (k + 1) ≤ i) := by omega
      simp only [this]
    · rw [List.getElem?_eq_none (by simpa using h2)]
      rfl
theorem dgK_six (n : Nat) : dgK n 6 = sgV (sgN n) := rfl
theorem dgK_zero (n : Nat) : dgK n 0 = [.int .u8 0, .int .u8 0, .int .u8 0, .int .u8 0, .int .u8 0, .int .u8 0] := rfl
theorem dgV_lt (n i : Nat) : dgV n i < 5 := Nat.mod_lt _ (by decide)
theorem sgN_ok (n : Nat) : (sgN n).ok := by
  have h := dgV_lt n
  have h0 := h 0
  have h1 := h 1
  have h2 := h 2
  have h3 := h 3
  have h4 := h 4
  have h5 := h 5
  simp only [Sg.ok, sgN, u8]
  omega
theorem sgN_clear (n : Nat) : clearB (sgN n) = true := by
  unfold clearB
  rw [List.all_eq_true]
  intro x hx
  have h := dgV_lt n
  have h0 := h 0
  have h1 := h 1
  have h2 := h 2
  have h3 := h 3
  have h4 := h 4
  have h5 := h 5
  simp [Sg.l, sgN] at hx
  simp
  rcases hx with rfl | rfl | rfl | rfl | rfl | rfl <;> omega
def sgA (s : Sg) : Value := .agg #[.int .u8 s.s0, .int .u8 s.s1, .int .u8 s.s2, .int .u8 s.s3, .int .u8 s.s4, .int .u8 s.s5]
set_option maxRecDepth 100000 in
set_option maxHeartbeats 3200000 in
theorem digits_any (n : Nat) (hn : n ≤ 1000000) (w : World) :
    Calls Tryz.prog 167 #[.int .i64 (n : Int)] w fun e w' => e = .returned (.tuple #[sgA (sgN n), .int .i64 ((n / 15625 : Nat) : Int)]) ∧ Kept w w' := by
  obtain ⟨W0, hW0⟩ : ∃ W0, W0 = (w.alloc (.cells #[.int .u8 0, .int .u8 0, .int .u8 0, .int .u8 0, .int .u8 0, .int .u8 0] 30)).alloc (.cells #[.int .u8 0, .int .u8 0, .int .u8 0, .int .u8 0, .int .u8 0, .int .u8 0] 30) := ⟨_, rfl⟩
  have k0 : Kept w W0 := by rw [hW0]; exact ((Kept.refl _).alloc _).alloc _
  have r0 : RowC W0 w.heap.size (dgK n 0) := by rw [hW0]; exact (RowC.new w (dgK n 0) 30).kept ((Kept.refl _).alloc _)
  have r1 : RowC W0 (w.heap.size + 1) (dgK n 0) := by
    rw [hW0]
    have h := RowC.new (w.alloc (.cells #[.int .u8 0, .int .u8 0, .int .u8 0, .int .u8 0, .int .u8 0, .int .u8 0] 30)) (dgK n 0) 30
    rwa [World.size_alloc] at h
  have R0 := Lib.hid r0
  have R1 := Lib.hid r1
  have K0 := Lib.hid k0
  have HW := Lib.hid hW0
  clear r0 r1 k0 hW0
  go_enter Tryz.func167, Tryz.ntmps167
  go_upto_region 2 with (fail)
  rw [← HW.out]
  go_wp2_with fail
  go_loopw [0, 6] (fun v i wr => ∃ k q : Nat, k ≤ 6 ∧ i = .int .i64 k ∧ v = .int .i64 (q : Int) ∧ n / 5 ^ k = q ∧ RowC wr w.heap.size (dgK n 0) ∧ RowC wr (w.heap.size + 1) (dgK n k) ∧ Kept w wr) (fun _ i _ => 6 - (intOf i).toNat)
  case atStart => exact ⟨0, n, by omega, by first | rfl | go_num, by first | rfl | go_num, by simp, R0.out, R1.out, K0.out⟩
  case round =>
    obtain ⟨k, q, hk, rfl, rfl, hq, h0, h1, hkr⟩ := hrel
    have H0 := Lib.hid h0
    have H1 := Lib.hid h1
    have HK := Lib.hid hkr
    have hqn : q ≤ 1000000 := by rw [← hq]; exact Nat.le_trans (Nat.div_le_self _ _) hn
    clear h0 h1 hkr
    by_cases hlt : k < 6
    · obtain ⟨c1, c2⟩ := H1.out (5 - k) _ (List.getElem?_eq_getElem (by rw [dgK_len]; omega))
      have l1 := cell_lt c1
      have e5 : (5 : Int) - (k : Int) = ((5 - k : Nat) : Int) := by omega
      have HQ : RowKit.Hid (n / 5 ^ (k + 1) = q / 5) := Lib.hid (by rw [← hq, Nat.pow_succ, Nat.div_div_eq_div_mul])
      have HS := Lib.hid (dgK_succ n k hlt)
      rw [hq] at HS
      have hd : (q : Int).tdiv 5 = ((q / 5 : Nat) : Int) := rfl
      have hm : (q : Int).tmod 5 = ((q % 5 : Nat) : Int) := rfl
      obtain ⟨q1, hq1⟩ : ∃ q1, q / 5 = q1 := ⟨_, rfl⟩
      obtain ⟨q2, hq2⟩ : ∃ q2, q % 5 = q2 := ⟨_, rfl⟩
      have hq25 : q2 < 5 := by omega
      have hq1n : q1 ≤ 1000000 := by omega
      rw [hq1] at hd HQ
      rw [hq2] at hm HS
      have hm2 : (q : Int).tmod 5 % 256 = (q2 : Int) := by rw [hm]; omega
      clear hq hq1 hq2
      go_wp2_with fail
      go_roundw
      case rel =>
        refine ⟨k + 1, q1, by omega, by go_num, by first | rfl | go_num, HQ.out, H0.out.far (by omega) _, ?_, HK.out.setCell (p := ⟨w.heap.size + 1, 5 - k, none⟩) (by dsimp only; omega) _⟩
        rw [← HS.out]
        exact H1.out.put (by rw [dgK_len]; omega) _
      case measure => simp [intOf]; omega
    · obtain rfl : k = 6 := by omega
      have h1 := H1.out
      rw [dgK_six] at h1
      have HH := Lib.hid h1
      have c0 := (h1 0 _ rfl).1
      have c1 := (h1 1 _ rfl).1
      have c2 := (h1 2 _ rfl).1
      have c3 := (h1 3 _ rfl).1
      have c4 := (h1 4 _ rfl).1
      have c5 := (h1 5 _ rfl).1
      have d0 := (H0.out 0 _ rfl)
      have d1 := (H0.out 1 _ rfl)
      have d2 := (H0.out 2 _ rfl)
      have d3 := (H0.out 3 _ rfl)
      have d4 := (H0.out 4 _ rfl)
      have d5 := (H0.out 5 _ rfl)
      obtain ⟨d01, d02⟩ := d0
      obtain ⟨d11, d12⟩ := d1
      obtain ⟨d21, d22⟩ := d2
      obtain ⟨d31, d32⟩ := d3
      obtain ⟨d41, d42⟩ := d4
      obtain ⟨d51, d52⟩ := d5
      have l0 := cell_lt c0
      have l1 := cell_lt d01
      have HQ := Lib.hid hq
      clear h1 hq
      have HF : RowKit.Hid (RowC ((((((wr.setCell ⟨w.heap.size, 0, none⟩ (.int .u8 (sgN n).s0)).setCell ⟨w.heap.size, 1, none⟩ (.int .u8 (sgN n).s1)).setCell ⟨w.heap.size, 2, none⟩ (.int .u8 (sgN n).s2)).setCell ⟨w.heap.size, 3, none⟩ (.int .u8 (sgN n).s3)).setCell ⟨w.heap.size, 4, none⟩ (.int .u8 (sgN n).s4)).setCell ⟨w.heap.size, 5, none⟩ (.int .u8 (sgN n).s5)) w.heap.size (sgV (sgN n)) ∧ Kept w ((((((wr.setCell ⟨w.heap.size, 0, none⟩ (.int .u8 (sgN n).s0)).setCell ⟨w.heap.size, 1, none⟩ (.int .u8 (sgN n).s1)).setCell ⟨w.heap.size, 2, none⟩ (.int .u8 (sgN n).s2)).setCell ⟨w.heap.size, 3, none⟩ (.int .u8 (sgN n).s3)).setCell ⟨w.heap.size, 4, none⟩ (.int .u8 (sgN n).s4)).setCell ⟨w.heap.size, 5, none⟩ (.int .u8 (sgN n).s5))) := Lib.hid ⟨((((((H0.out.put (j := 0) (by simp [dgK_len]) (.int .u8 (sgN n).s0)).put (j := 1) (by simp [dgK_len]) (.int .u8 (sgN n).s1)).put (j := 2) (by simp [dgK_len]) (.int .u8 (sgN n).s2)).put (j := 3) (by simp [dgK_len]) (.int .u8 (sgN n).s3)).put (j := 4) (by simp [dgK_len]) (.int .u8 (sgN n).s4)).put (j := 5) (by simp [dgK_len]) (.int .u8 (sgN n).s5)), ((((((HK.out.setCell (p := ⟨w.heap.size, 0, none⟩) (Nat.le_refl _) (.int .u8 (sgN n).s0)).setCell (p := ⟨w.heap.size, 1, none⟩) (Nat.le_refl _) (.int .u8 (sgN n).s1)).setCell (p := ⟨w.heap.size, 2, none⟩) (Nat.le_refl _) (.int .u8 (sgN n).s2)).setCell (p := ⟨w.heap.size, 3, none⟩) (Nat.le_refl _) (.int .u8 (sgN n).s3)).setCell (p := ⟨w.heap.size, 4, none⟩) (Nat.le_refl _) (.int .u8 (sgN n).s4)).setCell (p := ⟨w.heap.size, 5, none⟩) (Nat.le_refl _) (.int .u8 (sgN n).s5))⟩
      go_wp2_with fail
      obtain ⟨hf, hk9⟩ := HF.out
      have e0 := (hf 0 _ rfl).1
      have e1 := (hf 1 _ rfl).1
      have e2 := (hf 2 _ rfl).1
      have e3 := (hf 3 _ rfl).1
      have e4 := (hf 4 _ rfl).1
      have e5 := (hf 5 _ rfl).1
      refine bodyPost_ret (v := .tuple #[sgA (sgN n), .int .i64 (q : Int)]) (by simp [results, Tryz.results167, go_sem, sgA, e0, e1, e2, e3, e4, e5]) rfl ⟨?_, hk9⟩
      have hq := HQ.out
      rw [show (5 : Nat) ^ 6 = 15625 by decide] at hq
      rw [← hq]
      rfl
end Go.Proofs.YtologmoanaccpaaGreatDoor
