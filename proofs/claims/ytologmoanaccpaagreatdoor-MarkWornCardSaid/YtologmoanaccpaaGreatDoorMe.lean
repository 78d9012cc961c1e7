/-
  mark: isMark, isFade, isSight; firstError
-/
import Derived.Test.YtologmoanaccpaaGreatDoorMd
namespace Go.Proofs.YtologmoanaccpaaGreatDoor
set_option linter.all false
open Go.RowKit

def markB (m : Mk) : Bool := inB m.own 1 40 && inB m.frm 0 100000 && inB m.unt 0 100000 && decide (m.frm ≤ m.unt) && clearB m.sg
def fadeB (f : Fd) : Bool := inB f.sign 1 4 && decide (f.seen ≤ 4) && (f.seen != f.sign)
def badB (x : Int) : Bool := decide (4 < x) && (x != 9)
def sightB (s : Sg) : Bool := !s.l.any badB
theorem e82 : ∀ args w, (callFunc 82 args).run Tryz.prog w = .ok (.enter 82 args) w := enters_of Tryz.func82 (by kernel_rfl) rfl
theorem e84 : ∀ args w, (callFunc 84 args).run Tryz.prog w = .ok (.enter 84 args) w := enters_of Tryz.func84 (by kernel_rfl) rfl
theorem e89 : ∀ args w, (callFunc 89 args).run Tryz.prog w = .ok (.enter 89 args) w := enters_of Tryz.func89 (by kernel_rfl) rfl
theorem e156 : ∀ args w, (callFunc 156 args).run Tryz.prog w = .ok (.enter 156 args) w := enters_of Tryz.func156 (by kernel_rfl) rfl

set_option maxRecDepth 100000 in
set_option maxHeartbeats 3200000 in
theorem isMark_any (m : Mk) (hm : m.ok) (w : World) : Calls Tryz.prog 82 #[.agg #[.int .i64 m.own, .int .i64 m.frm, .int .i64 m.unt, .int .u8 m.sg.s0, .int .u8 m.sg.s1, .int .u8 m.sg.s2, .int .u8 m.sg.s3, .int .u8 m.sg.s4, .int .u8 m.sg.s5]] w fun e w' => e = .returned (.bool (markB m)) ∧ Kept w w' := by
  obtain ⟨W0, hW0⟩ : ∃ W0, W0 = w.alloc (.cells #[.int .i64 m.own, .int .i64 m.frm, .int .i64 m.unt, .int .u8 m.sg.s0, .int .u8 m.sg.s1, .int .u8 m.sg.s2, .int .u8 m.sg.s3, .int .u8 m.sg.s4, .int .u8 m.sg.s5] 32) := ⟨_, rfl⟩
  have K0 : RowKit.Hid (Kept w W0) := Lib.hid (by rw [hW0]; exact (Kept.refl _).alloc _)
  have R0 : RowKit.Hid (RowC W0 w.heap.size (mkC m)) := Lib.hid (by rw [hW0]; exact RowC.new w (mkC m) 32)
  have HW := Lib.hid hW0
  obtain ⟨b1, hb1⟩ : ∃ b, inB m.own 1 40 = b := ⟨_, rfl⟩
  obtain ⟨b2, hb2⟩ : ∃ b, inB m.frm 0 100000 = b := ⟨_, rfl⟩
  obtain ⟨b3, hb3⟩ : ∃ b, inB m.unt 0 100000 = b := ⟨_, rfl⟩
  obtain ⟨b4, hb4⟩ : ∃ b, decide (m.frm ≤ m.unt) = b := ⟨_, rfl⟩
  obtain ⟨b5, hb5⟩ : ∃ b, clearB m.sg = b := ⟨_, rfl⟩
  have HB : RowKit.Hid (markB m = (b1 && b2 && b3 && b4 && b5)) := Lib.hid (by unfold markB; rw [hb1, hb2, hb3, hb4, hb5])
  have H1 : RowKit.Hid (∀ W, Calls Tryz.prog 79 #[.int .i64 m.own] W fun e w' => e = .returned (.bool b1) ∧ W = w') := Lib.hid (fun W => by rw [← hb1]; exact isOwner_any _ W)
  have H2 : RowKit.Hid (∀ W, Calls Tryz.prog 75 #[.int .i64 m.frm] W fun e w' => e = .returned (.bool b2) ∧ W = w') := Lib.hid (fun W => by rw [← hb2]; exact isDay_any _ W)
  have H3 : RowKit.Hid (∀ W, Calls Tryz.prog 75 #[.int .i64 m.unt] W fun e w' => e = .returned (.bool b3) ∧ W = w') := Lib.hid (fun W => by rw [← hb3]; exact isDay_any _ W)
  have H5 : RowKit.Hid (∀ W, Calls Tryz.prog 102 #[.agg #[.int .u8 m.sg.s0, .int .u8 m.sg.s1, .int .u8 m.sg.s2, .int .u8 m.sg.s3, .int .u8 m.sg.s4, .int .u8 m.sg.s5]] W fun e w' => e = .returned (.bool b5) ∧ Kept W w') := Lib.hid (fun W => by rw [← hb5]; exact isClear_any _ hm.2.2.2 W)
  have a0 := (R0.out 0 _ rfl).1
  have a1 := (R0.out 1 _ rfl).1
  have a2 := (R0.out 2 _ rfl).1
  have a3 := (R0.out 3 _ rfl).1
  have a4 := (R0.out 4 _ rfl).1
  have a5 := (R0.out 5 _ rfl).1
  have a6 := (R0.out 6 _ rfl).1
  have a7 := (R0.out 7 _ rfl).1
  have a8 := (R0.out 8 _ rfl).1
  have la := cell_lt a0
  clear hW0 hb1 hb2 hb3 hb5 hm
  cases b1
  · clear hb4
    go_enter Tryz.func82, Tryz.ntmps82
    go_upto_region 1 with (fail)
    rw [← HW.out]
    go_wp2_with fail
    refine (H1.out _).mono ?_
    rintro e w1 ⟨rfl, rfl⟩
    go_wp2
    go_ret
    exact ⟨ret_bool (by rw [HB.out]; rfl), K0.out⟩
  cases b2
  · clear hb4
    go_enter Tryz.func82, Tryz.ntmps82
    go_upto_region 1 with (fail)
    rw [← HW.out]
    go_wp2_with fail
    refine (H1.out _).mono ?_
    rintro e w1 ⟨rfl, rfl⟩
    go_wp2_with fail
    refine (H2.out _).mono ?_
    rintro e w1 ⟨rfl, rfl⟩
    go_wp2
    go_ret
    exact ⟨ret_bool (by rw [HB.out]; rfl), K0.out⟩
  cases b3
  · clear hb4
    go_enter Tryz.func82, Tryz.ntmps82
    go_upto_region 1 with (fail)
    rw [← HW.out]
    go_wp2_with fail
    refine (H1.out _).mono ?_
    rintro e w1 ⟨rfl, rfl⟩
    go_wp2_with fail
    refine (H2.out _).mono ?_
    rintro e w1 ⟨rfl, rfl⟩
    go_wp2_with fail
    refine (H3.out _).mono ?_
    rintro e w1 ⟨rfl, rfl⟩
    go_wp2
    go_ret
    exact ⟨ret_bool (by rw [HB.out]; rfl), K0.out⟩
  cases b4
  · go_enter Tryz.func82, Tryz.ntmps82
    go_upto_region 1 with (fail)
    rw [← HW.out]
    go_wp2_with fail
    refine (H1.out _).mono ?_
    rintro e w1 ⟨rfl, rfl⟩
    go_wp2_with fail
    refine (H2.out _).mono ?_
    rintro e w1 ⟨rfl, rfl⟩
    go_wp2_with fail
    refine (H3.out _).mono ?_
    rintro e w1 ⟨rfl, rfl⟩
    go_wp2
    go_ret
    exact ⟨ret_bool (by rw [HB.out]; rfl), K0.out⟩
  · go_enter Tryz.func82, Tryz.ntmps82
    go_upto_region 1 with (fail)
    rw [← HW.out]
    go_wp2_with fail
    refine (H1.out _).mono ?_
    rintro e w1 ⟨rfl, rfl⟩
    go_wp2_with fail
    refine (H2.out _).mono ?_
    rintro e w1 ⟨rfl, rfl⟩
    go_wp2_with fail
    refine (H3.out _).mono ?_
    rintro e w1 ⟨rfl, rfl⟩
    go_wp2_with fail
    refine (H5.out _).mono ?_
    rintro e w1 ⟨rfl, hk1⟩
    have HK := Lib.hid (K0.out.trans hk1)
    clear hk1
    go_wp2
    go_ret
    exact ⟨ret_bool (by rw [HB.out]; rfl), HK.out⟩
theorem pred82 (w : World) : PredG mkC Mk.ok 82 #[] markB w := fun W x hx _ => isMark_any x hx W

set_option maxRecDepth 100000 in
set_option maxHeartbeats 3200000 in
theorem isFade_any (f : Fd) (hf : f.ok) (w : World) : Calls Tryz.prog 84 #[.agg #[.int .u8 f.sign, .int .u8 f.seen]] w fun e w' => e = .returned (.bool (fadeB f)) ∧ Kept w w' := by
  obtain ⟨W0, hW0⟩ : ∃ W0, W0 = w.alloc (.cells #[.int .u8 f.sign, .int .u8 f.seen] 87) := ⟨_, rfl⟩
  have K0 : RowKit.Hid (Kept w W0) := Lib.hid (by rw [hW0]; exact (Kept.refl _).alloc _)
  have R0 : RowKit.Hid (RowC W0 w.heap.size (fdC f)) := Lib.hid (by rw [hW0]; exact RowC.new w (fdC f) 87)
  have HW := Lib.hid hW0
  obtain ⟨⟨s1, s2⟩, ⟨s3, s4⟩⟩ := hf
  obtain ⟨b1, hb1⟩ : ∃ b, inB f.sign 1 4 = b := ⟨_, rfl⟩
  obtain ⟨b2, hb2⟩ : ∃ b, decide (f.seen ≤ 4) = b := ⟨_, rfl⟩
  obtain ⟨b3, hb3⟩ : ∃ b, (f.seen != f.sign) = b := ⟨_, rfl⟩
  have HB : RowKit.Hid (fadeB f = (b1 && b2 && b3)) := Lib.hid (by unfold fadeB; rw [hb1, hb2, hb3])
  have H1 : RowKit.Hid (∀ W, Calls Tryz.prog 147 #[.int .i64 f.sign, .int .i64 1, .int .i64 4] W fun e w' => e = .returned (.bool b1) ∧ W = w') := Lib.hid (fun W => by rw [← hb1]; exact within_any _ _ _ W)
  have a0 := (R0.out 0 _ rfl).1
  have a1 := (R0.out 1 _ rfl).1
  have la := cell_lt a0
  clear hW0 hb1
  cases b1
  · clear hb2 hb3
    go_enter Tryz.func84, Tryz.ntmps84
    go_upto_region 1 with (fail)
    rw [← HW.out]
    go_wp2_with fail
    refine (H1.out _).mono ?_
    rintro e w1 ⟨rfl, rfl⟩
    go_wp2
    go_ret
    exact ⟨ret_bool (by rw [HB.out]; rfl), K0.out⟩
  cases b2
  · clear hb3
    go_enter Tryz.func84, Tryz.ntmps84
    go_upto_region 1 with (fail)
    rw [← HW.out]
    go_wp2_with fail
    refine (H1.out _).mono ?_
    rintro e w1 ⟨rfl, rfl⟩
    go_wp2
    go_ret
    exact ⟨ret_bool (by rw [HB.out]; rfl), K0.out⟩
  cases b3
  all_goals
    go_enter Tryz.func84, Tryz.ntmps84
    go_upto_region 1 with (fail)
    rw [← HW.out]
    go_wp2_with fail
    refine (H1.out _).mono ?_
    rintro e w1 ⟨rfl, rfl⟩
    go_wp2
    go_ret
    exact ⟨ret_bool (by rw [HB.out]; rfl), K0.out⟩
theorem pred84 (w : World) : PredG fdC Fd.ok 84 #[] fadeB w := fun W x hx _ => isFade_any x hx W

theorem isBad_any (x : Int) (hx : u8 x) (w : World) : Calls Tryz.prog 156 #[.int .u8 x] w fun e w' => e = .returned (.bool (badB x)) ∧ w = w' := by
  obtain ⟨h1, h2⟩ := hx
  obtain ⟨b1, hb1⟩ : ∃ b, decide (4 < x) = b := ⟨_, rfl⟩
  obtain ⟨b2, hb2⟩ : ∃ b, (x != 9) = b := ⟨_, rfl⟩
  have HB : RowKit.Hid (badB x = (b1 && b2)) := Lib.hid (by unfold badB; rw [hb1, hb2])
  cases b1
  · clear hb2
    go_enter Tryz.func156, Tryz.ntmps156
    go_wp2
    go_ret
    exact ⟨ret_bool (by rw [HB.out]; rfl), rfl⟩
  cases b2
  all_goals
    go_enter Tryz.func156, Tryz.ntmps156
    go_wp2
    go_ret
    exact ⟨ret_bool (by rw [HB.out]; rfl), rfl⟩
set_option maxRecDepth 100000 in
set_option maxHeartbeats 3200000 in
theorem index_u8 (b off n c : Nat) (xs : List Int) (hn : xs.length = n) (hb : n ≤ 1000) (hx : ∀ x ∈ xs, u8 x) (w : World) (hc : ∀ j x, xs[j]? = some x → w.cell? ⟨b, off + j, none⟩ = some (.int .u8 x)) :
    Calls Tryz.prog 198 #[.slice (some ⟨b, off, none⟩) n c, .func (.func 156) #[] #[]] w fun e w' => e = .returned (.int .i64 (idxP badB xs)) ∧ w = w' := by
  have HN := Lib.hid hn
  have HC := Lib.hid hc
  have HX := Lib.hid hx
  have eg := e156
  clear hn hc hx
  go_enter Tryz.func198, Tryz.ntmps198
  go_wp2_with fail
  go_loop [8] (fun i => ∃ k : Nat, k ≤ n ∧ i = .int .i64 k ∧ (∀ j x, j < k → xs[j]? = some x → badB x = false)) (fun i => n - (intOf i).toNat)
  case atStart => exact ⟨0, by omega, by first | rfl | go_num, fun j x hj => by omega⟩
  case round =>
    obtain ⟨k, hk, rfl, ho⟩ := hrel
    have Ho := Lib.hid ho
    clear ho
    by_cases hlt : k < n
    · obtain ⟨x, hx⟩ : ∃ x, xs[k]? = some x := ⟨_, List.getElem?_eq_getElem (by rw [HN.out]; exact hlt)⟩
      have c0 := HC.out k x hx
      have hok := HX.out x (List.mem_of_getElem? hx)
      have Hx := Lib.hid hx
      obtain ⟨q, hq⟩ : ∃ q, badB x = q := ⟨_, rfl⟩
      have HQ := Lib.hid hq
      have HCL : RowKit.Hid (∀ W, Calls Tryz.prog 156 #[.int .u8 x] W fun e w' => e = .returned (.bool q) ∧ W = w') := Lib.hid (fun W => by rw [← hq]; exact isBad_any x hok W)
      clear hq hx hok
      go_wp2_with fail
      refine (HCL.out _).mono ?_
      rintro e w1 ⟨rfl, rfl⟩
      cases q
      · go_wp2
        go_round
        case rel =>
          refine ⟨k + 1, by omega, by go_num, fun j y hj hy => ?_⟩
          rcases Nat.lt_or_eq_of_le (Nat.le_of_lt_succ hj) with h | h
          · exact Ho.out j y h hy
          · subst h
            have := Hx.out
            rw [hy] at this
            cases this
            exact HQ.out
        case measure => simp [intOf]; omega
      · go_wp2
        go_ret
        exact ⟨ret_int (idxP_at Hx.out HQ.out Ho.out).symm, rfl⟩
    · obtain rfl : k = n := by omega
      go_wp2
      go_ret
      exact ⟨ret_int (idxP_none (fun j y hy => Ho.out j y (by rw [← HN.out]; exact (List.getElem?_eq_some_iff.1 hy).1) hy)).symm, rfl⟩
theorem contains_u8 (b off n c : Nat) (xs : List Int) (hn : xs.length = n) (hb : n ≤ 1000) (hx : ∀ x ∈ xs, u8 x) (w : World) (hc : ∀ j x, xs[j]? = some x → w.cell? ⟨b, off + j, none⟩ = some (.int .u8 x)) :
    Calls Tryz.prog 155 #[.slice (some ⟨b, off, none⟩) n c, .func (.func 156) #[] #[]] w fun e w' => e = .returned (.bool (xs.any badB)) ∧ w = w' := by
  have HI := Lib.hid (index_u8 b off n c xs hn hb hx w hc)
  clear hn hx hc
  go_enter Tryz.func155, Tryz.ntmps155
  go_wp2_with fail
  refine HI.out.mono ?_
  rintro e w1 ⟨rfl, rfl⟩
  go_wp2
  go_ret
  exact ⟨ret_bool (idxP_nonneg badB xs), rfl⟩
theorem isSight_any (s : Sg) (hs : s.ok) (w : World) : Calls Tryz.prog 89 #[.agg #[.int .u8 s.s0, .int .u8 s.s1, .int .u8 s.s2, .int .u8 s.s3, .int .u8 s.s4, .int .u8 s.s5]] w fun e w' => e = .returned (.bool (sightB s)) ∧ Kept w w' := by
  obtain ⟨W0, hW0⟩ : ∃ W0, W0 = w.alloc (.cells #[.int .u8 s.s0, .int .u8 s.s1, .int .u8 s.s2, .int .u8 s.s3, .int .u8 s.s4, .int .u8 s.s5] 39) := ⟨_, rfl⟩
  have K0 : RowKit.Hid (Kept w W0) := Lib.hid (by rw [hW0]; exact (Kept.refl _).alloc _)
  have R0 : RowKit.Hid (RowC W0 w.heap.size (sgV s)) := Lib.hid (by rw [hW0]; exact RowC.new w (sgV s) 39)
  have HW := Lib.hid hW0
  have HM : RowKit.Hid (Calls Tryz.prog 155 #[.slice (some ⟨w.heap.size, 0, none⟩) 6 6, .func (.func 156) #[] #[]] W0 fun e w' => e = .returned (.bool (s.l.any badB)) ∧ W0 = w') := Lib.hid (contains_u8 _ 0 6 6 s.l rfl (by omega) (Sg.ok_l hs) W0 (fun j x hj => by rw [Nat.zero_add]; exact (R0.out j _ (sgV_at hj)).1))
  have la := cell_lt (R0.out 0 _ rfl).1
  clear hW0
  go_enter Tryz.func89, Tryz.ntmps89
  go_upto_region 1 with (fail)
  rw [← HW.out]
  go_wp2_with fail
  refine HM.out.mono ?_
  rintro e w1 ⟨rfl, rfl⟩
  go_wp2
  go_ret
  exact ⟨rfl, K0.out⟩
theorem pred89 (w : World) : PredG sgV Sg.ok 89 #[] sightB w := fun W x hx _ => isSight_any x hx W

/-- the first error -/
def fstE : List Int → Int
  | [] => 0
  | e :: l => if e = 0 then fstE l else e
theorem fstE_at : ∀ (l : List Int) (k : Nat) (e : Int), l[k]? = some e → e ≠ 0 → (∀ (j : Nat) x, j < k → l[j]? = some x → x = 0) → fstE l = e
  | [], k, e, h, _, _ => by simp at h
  | x :: l, 0, e, h, he, _ => by
    simp at h; subst h
    unfold fstE; rw [if_neg he]
  | x :: l, k + 1, e, h, he, ho => by
    have hx : x = 0 := ho 0 x (by omega) (by simp)
    unfold fstE; rw [if_pos hx]
    exact fstE_at l k e (by simpa using h) he (fun j y hj hy => ho (j + 1) y (by omega) (by simpa using hy))
theorem fstE_zero : ∀ (l : List Int), (∀ (j : Nat) x, l[j]? = some x → x = 0) → fstE l = 0
  | [], _ => rfl
  | x :: l, ho => by
    have hx : x = 0 := ho 0 x (by simp)
    unfold fstE; rw [if_pos hx]
    exact fstE_zero l (fun j y hy => ho (j + 1) y (by simpa using hy))
set_option maxHeartbeats 3200000 in
theorem firstError_any (b off n c : Nat) (xs : List Int) (hn : xs.length = n) (hb : n ≤ 1000) (w : World) (hc : ∀ j x, xs[j]? = some x → w.cell? ⟨b, off + j, none⟩ = some (.int .i64 x)) :
    Calls Tryz.prog 73 #[.slice (some ⟨b, off, none⟩) n c] w fun e w' => e = .returned (.int .i64 (fstE xs)) ∧ w = w' := by
  have HN := Lib.hid hn
  have HC := Lib.hid hc
  clear hn hc
  go_enter Tryz.func73, Tryz.ntmps73
  go_wp2_with fail
  go_loop [7] (fun i => ∃ k : Nat, k ≤ n ∧ i = .int .i64 k ∧ (∀ j x, j < k → xs[j]? = some x → x = 0)) (fun i => n - (intOf i).toNat)
  case atStart => exact ⟨0, by omega, by first | rfl | go_num, fun j x hj => by omega⟩
  case round =>
    obtain ⟨k, hk, rfl, ho⟩ := hrel
    have Ho := Lib.hid ho
    clear ho
    by_cases hlt : k < n
    · obtain ⟨x, hx⟩ : ∃ x, xs[k]? = some x := ⟨_, List.getElem?_eq_getElem (by rw [HN.out]; exact hlt)⟩
      have c0 := HC.out k x hx
      have Hx := Lib.hid hx
      clear hx
      by_cases hz : x = 0
      · subst hz
        go_wp2
        go_round
        case rel =>
          refine ⟨k + 1, by omega, by go_num, fun j y hj hy => ?_⟩
          rcases Nat.lt_or_eq_of_le (Nat.le_of_lt_succ hj) with h | h
          · exact Ho.out j y h hy
          · subst h
            have := Hx.out
            rw [hy] at this
            cases this
            rfl
        case measure => simp [intOf]; omega
      · have hne : (x != 0) = true := by simpa using hz
        have HZ := Lib.hid hz
        clear hz
        go_wp2
        go_ret
        exact ⟨ret_int (fstE_at xs k x Hx.out HZ.out Ho.out).symm, rfl⟩
    · obtain rfl : k = n := by omega
      go_wp2
      go_ret
      exact ⟨ret_int (fstE_zero xs (fun j y hy => Ho.out j y (by rw [← HN.out]; exact (List.getElem?_eq_some_iff.1 hy).1) hy)).symm, rfl⟩
end Go.Proofs.YtologmoanaccpaaGreatDoor
