/-
  mark: within, isOwner, isDay, isEar, valid; Max over bytes; isClear
-/
import Derived.Test.YtologmoanaccpaaGreatDoorBa
namespace Go.Proofs.YtologmoanaccpaaGreatDoor
set_option linter.all false
open Go.RowKit

theorem within_any (n lo hi : Int) (w : World) :
    Calls Tryz.prog 147 #[.int .i64 n, .int .i64 lo, .int .i64 hi] w fun e w' => e = .returned (.bool (inB n lo hi)) ∧ w = w' := by
  by_cases h1 : lo ≤ n
  · by_cases h2 : n ≤ hi
    · have hb : inB n lo hi = true := inB_iff.2 ⟨h1, h2⟩
      rw [hb]
      go_enter Tryz.func147, Tryz.ntmps147
      go_wp2
      go_ret
      exact ⟨rfl, rfl⟩
    · have hb : inB n lo hi = false := inB_not.2 (by omega)
      rw [hb]
      have h3 : hi < n := by omega
      go_enter Tryz.func147, Tryz.ntmps147
      go_wp2
      go_ret
      exact ⟨rfl, rfl⟩
  · have hb : inB n lo hi = false := inB_not.2 (by omega)
    rw [hb]
    have h3 : n < lo := by omega
    go_enter Tryz.func147, Tryz.ntmps147
    go_wp2
    go_ret
    exact ⟨rfl, rfl⟩
theorem isOwner_any (n : Int) (w : World) : Calls Tryz.prog 79 #[.int .i64 n] w fun e w' => e = .returned (.bool (inB n 1 40)) ∧ w = w' := by
  go_enter Tryz.func79, Tryz.ntmps79
  go_wp2_with (with_reducible refine (within_any _ _ _ _).mono ?_; rintro e w1 ⟨rfl, rfl⟩)
  go_ret
  exact ⟨rfl, rfl⟩
theorem isDay_any (n : Int) (w : World) : Calls Tryz.prog 75 #[.int .i64 n] w fun e w' => e = .returned (.bool (inB n 0 100000)) ∧ w = w' := by
  go_enter Tryz.func75, Tryz.ntmps75
  go_wp2_with (with_reducible refine (within_any _ _ _ _).mono ?_; rintro e w1 ⟨rfl, rfl⟩)
  go_ret
  exact ⟨rfl, rfl⟩
theorem isEar_any (n : Int) (w : World) : Calls Tryz.prog 165 #[.int .i64 n] w fun e w' => e = .returned (.bool (decide (n < 2))) ∧ w = w' := by
  go_enter Tryz.func165, Tryz.ntmps165
  go_wp2
  go_ret
  exact ⟨rfl, rfl⟩
def errB (b : Bool) : Int := if b then 0 else 1
theorem valid_any (b : Bool) (w : World) : Calls Tryz.prog 74 #[.bool b] w fun e w' => e = .returned (.int .i64 (errB b)) ∧ w = w' := by
  cases b
  · go_enter Tryz.func74, Tryz.ntmps74
    go_wp2
    go_ret
    exact ⟨rfl, rfl⟩
  · go_enter Tryz.func74, Tryz.ntmps74
    go_wp2
    go_ret
    exact ⟨rfl, rfl⟩

/-- six signs -/
structure Sg where
  (s0 s1 s2 s3 s4 s5 : Int)
deriving DecidableEq
def Sg.l (s : Sg) : List Int := [s.s0, s.s1, s.s2, s.s3, s.s4, s.s5]
def u8 (x : Int) : Prop := 0 ≤ x ∧ x ≤ 255
def Sg.ok (s : Sg) : Prop := u8 s.s0 ∧ u8 s.s1 ∧ u8 s.s2 ∧ u8 s.s3 ∧ u8 s.s4 ∧ u8 s.s5
def sgV (s : Sg) : List Value := [.int .u8 s.s0, .int .u8 s.s1, .int .u8 s.s2, .int .u8 s.s3, .int .u8 s.s4, .int .u8 s.s5]
theorem Sg.ok_l {s : Sg} (h : s.ok) : ∀ x ∈ s.l, u8 x := by
  obtain ⟨h0, h1, h2, h3, h4, h5⟩ := h
  intro x hx
  simp [Sg.l] at hx
  rcases hx with rfl | rfl | rfl | rfl | rfl | rfl <;> assumption
theorem sgV_at {s : Sg} {j : Nat} {x : Int} (h : s.l[j]? = some x) : (sgV s)[j]? = some (.int .u8 x) := by
  have : sgV s = s.l.map (Value.int .u8) := rfl
  rw [this, List.getElem?_map, h]; rfl

def mx (l : List Int) : Int := l.foldl max 0
theorem mx_snoc (l : List Int) (x : Int) : mx (l ++ [x]) = max (mx l) x := by simp [mx]
theorem mx_le : ∀ (l : List Int) (a : Int), (l.foldl max a ≤ 4) ↔ (a ≤ 4 ∧ ∀ x ∈ l, x ≤ 4)
  | [], a => by simp
  | x :: l, a => by
    rw [List.foldl_cons, mx_le l]
    simp only [List.mem_cons, forall_eq_or_imp]
    rw [← and_assoc]
    exact and_congr_left fun _ => by omega
theorem mx_bd : ∀ (l : List Int) (a : Int), 0 ≤ a → a ≤ 255 → (∀ x ∈ l, u8 x) → 0 ≤ l.foldl max a ∧ l.foldl max a ≤ 255
  | [], a, h0, h1, _ => ⟨h0, h1⟩
  | x :: l, a, h0, h1, h => by
    rw [List.foldl_cons]
    have hx := h x (List.mem_cons_self ..)
    unfold u8 at hx
    exact mx_bd l _ (by omega) (by omega) (fun y hy => h y (List.mem_cons_of_mem _ hy))
def clearB (s : Sg) : Bool := s.l.all fun x => decide (x ≤ 4)
theorem clear_mx (s : Sg) : decide (mx s.l ≤ 4) = clearB s := by
  rw [Bool.eq_iff_iff]
  unfold clearB
  rw [decide_eq_true_eq, List.all_eq_true]
  unfold mx
  rw [mx_le]
  simp

set_option maxHeartbeats 1600000 in
theorem max_any (b off n c : Nat) (xs : List Int) (hn : xs.length = n) (h1 : 0 < n) (hb : n ≤ 1000) (hx : ∀ x ∈ xs, u8 x) (w : World) (hc : ∀ j x, xs[j]? = some x → w.cell? ⟨b, off + j, none⟩ = some (.int .u8 x)) :
    Calls Tryz.prog 164 #[.slice (some ⟨b, off, none⟩) n c] w fun e w' => e = .returned (.int .u8 (mx xs)) ∧ w = w' := by
  have HN := Lib.hid hn
  have HC := Lib.hid hc
  have HX := Lib.hid hx
  obtain ⟨x0, hx0⟩ : ∃ x, xs[0]? = some x := ⟨_, List.getElem?_eq_getElem (by omega)⟩
  have c0 := hc 0 x0 hx0
  rw [Nat.add_zero] at c0
  have hu0 := hx x0 (List.mem_of_getElem? hx0)
  unfold u8 at hu0
  obtain ⟨hu1, hu2⟩ := hu0
  have h0 : ¬ ((n : Int) < 1) := by omega
  have h0' : (1 : Int) ≤ (n : Int) := by omega
  have h0'' : (0 : Int) < (n : Int) := by omega
  have HX0 := Lib.hid hx0
  clear hn hc hx hx0
  go_enter Tryz.func164, Tryz.ntmps164
  go_wp2
  go_loop [3, 4] (fun m i => ∃ k : Nat, 1 ≤ k ∧ k ≤ n ∧ i = .int .i64 k ∧ m = .int .u8 (mx (xs.take k))) (fun _ i => n - (intOf i).toNat)
  case atStart => exact ⟨1, by omega, by omega, by first | rfl | go_num, by
    have e : xs.take 1 = [x0] := by
      have := take_snoc' HX0.out
      simpa using this
    rw [e]; unfold mx; simp; omega⟩
  case round =>
    obtain ⟨k, hk1, hk, rfl, rfl⟩ := hrel
    by_cases hlt : k < n
    · obtain ⟨x, hx⟩ : ∃ x, xs[k]? = some x := ⟨_, List.getElem?_eq_getElem (by rw [HN.out]; exact hlt)⟩
      have c1 := HC.out k x hx
      have hu := HX.out x (List.mem_of_getElem? hx)
      unfold u8 at hu
      obtain ⟨hu3, hu4⟩ := hu
      have hsn := mx_snoc (xs.take k) x
      rw [← take_snoc' hx] at hsn
      obtain ⟨hm1, hm2⟩ := mx_bd (xs.take k) 0 (by omega) (by omega) (fun y hy => HX.out y (List.mem_of_mem_take hy))
      obtain ⟨M, hM⟩ : ∃ M, mx (xs.take k) = M := ⟨_, rfl⟩
      have hm1' : 0 ≤ M := by rw [← hM]; exact hm1
      have hm2' : M ≤ 255 := by rw [← hM]; exact hm2
      rw [hM] at hsn ⊢
      have HS := Lib.hid hsn
      clear hsn hm1 hm2 hx hM
      by_cases hcmp : M < x
      · go_wp2
        go_round
        case rel => exact ⟨k + 1, by omega, by omega, by go_num, by rw [HS.out]; rw [Int.max_eq_right (by omega)]⟩
        case measure => simp [intOf]; omega
      · go_wp2
        go_round
        case rel => exact ⟨k + 1, by omega, by omega, by go_num, by rw [HS.out]; rw [Int.max_eq_left (by omega)]⟩
        case measure => simp [intOf]; omega
    · obtain rfl : k = n := by omega
      have hT : xs.take k = xs := List.take_of_length_le (by rw [HN.out]; exact Nat.le_refl _)
      rw [hT]
      clear hT
      go_wp2
      go_ret
      exact ⟨rfl, rfl⟩

theorem isClear_any (s : Sg) (hs : s.ok) (w : World) : Calls Tryz.prog 102 #[.agg #[.int .u8 s.s0, .int .u8 s.s1, .int .u8 s.s2, .int .u8 s.s3, .int .u8 s.s4, .int .u8 s.s5]] w fun e w' => e = .returned (.bool (clearB s)) ∧ Kept w w' := by
  obtain ⟨W0, hW0⟩ : ∃ W0, W0 = w.alloc (.cells #[.int .u8 s.s0, .int .u8 s.s1, .int .u8 s.s2, .int .u8 s.s3, .int .u8 s.s4, .int .u8 s.s5] 30) := ⟨_, rfl⟩
  have K0 : RowKit.Hid (Kept w W0) := Lib.hid (by rw [hW0]; exact (Kept.refl _).alloc _)
  have R0 : RowKit.Hid (RowC W0 w.heap.size (sgV s)) := Lib.hid (by rw [hW0]; exact RowC.new w (sgV s) 30)
  have HW := Lib.hid hW0
  have HM : RowKit.Hid (Calls Tryz.prog 164 #[.slice (some ⟨w.heap.size, 0, none⟩) 6 6] W0 fun e w' => e = .returned (.int .u8 (mx s.l)) ∧ W0 = w') := Lib.hid (max_any _ 0 6 6 s.l rfl (by omega) (by omega) (Sg.ok_l hs) W0 (fun j x hj => by rw [Nat.zero_add]; exact (R0.out j _ (sgV_at hj)).1))
  have HCl := Lib.hid (clear_mx s)
  clear hW0
  go_enter Tryz.func102, Tryz.ntmps102
  go_upto_region 1 with (fail)
  rw [← HW.out]
  go_wp2_with fail
  refine HM.out.mono ?_
  rintro e w1 ⟨rfl, rfl⟩
  go_wp2
  go_ret
  exact ⟨by rw [← HCl.out]; rfl, K0.out⟩
end Go.Proofs.YtologmoanaccpaaGreatDoor
