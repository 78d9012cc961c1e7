/-
  the reference's within, signs, isMark, together, isSight
  the reference's CheckSmits
  the reference's start, mark, may
-/
import Derived.Test.YtologmoanaccpaaGreatDoorBB
import Derived.Test.YtologmoanaccpaaGreatDoorBK
import Derived.Test.YtologmoanaccpaaGreatDoorBC
import Derived.Test.YtologmoanaccpaaGreatDoorBM
import Derived.BigQuiet
import Derived.Deep.Quiet
namespace Go.Proofs.YtologmoanaccpaaGreatDoor
set_option linter.all false
open Go.RowKit

theorem rwithin_any (n lo hi : Int) (w : World) :
    Calls Tryz.prog 150 #[.int .i64 n, .int .i64 lo, .int .i64 hi] w fun e w' => e = .returned (.bool (inB n lo hi)) ∧ w = w' := by
  by_cases h1 : lo ≤ n
  · by_cases h2 : n ≤ hi
    · have hb : inB n lo hi = true := inB_iff.2 ⟨h1, h2⟩
      rw [hb]
      go_enter Tryz.func150, Tryz.ntmps150
      go_wp2
      go_ret
      exact ⟨rfl, rfl⟩
    · have hb : inB n lo hi = false := inB_not.2 (by omega)
      rw [hb]
      have h3 : hi < n := by omega
      go_enter Tryz.func150, Tryz.ntmps150
      go_wp2
      go_ret
      exact ⟨rfl, rfl⟩
  · have hb : inB n lo hi = false := inB_not.2 (by omega)
    rw [hb]
    have h3 : n < lo := by omega
    go_enter Tryz.func150, Tryz.ntmps150
    go_wp2
    go_ret
    exact ⟨rfl, rfl⟩
theorem sg_six (s : Sg) {k : Nat} (h : k < 6) : ∃ x, s.l[k]? = some x := ⟨_, List.getElem?_eq_getElem (by simpa [Sg.l] using h)⟩
theorem take_all {s : Sg} {p : Int → Bool} {k : Nat} {x : Int} (h : s.l[k]? = some x) (ha : (s.l.take k).all p = true) (hx : p x = true) : (s.l.take (k + 1)).all p = true := by
  rw [take_snoc' h, List.all_append, ha]; simp [hx]
theorem all_no {s : Sg} {p : Int → Bool} {k : Nat} {x : Int} (h : s.l[k]? = some x) (hx : p x = false) : s.l.all p = false := by
  cases e : s.l.all p
  · rfl
  · rw [List.all_eq_true] at e
    rw [e x (List.mem_of_getElem? h)] at hx
    cases hx
set_option maxRecDepth 100000 in
theorem rsigns_any (s : Sg) (hs : s.ok) (w : World) : Calls Tryz.prog 104 #[.agg #[.int .u8 s.s0, .int .u8 s.s1, .int .u8 s.s2, .int .u8 s.s3, .int .u8 s.s4, .int .u8 s.s5]] w fun e w' => e = .returned (.bool (clearB s)) ∧ Kept w w' := by
  obtain ⟨W0, hW0⟩ : ∃ W0, W0 = w.alloc (.cells #[.int .u8 s.s0, .int .u8 s.s1, .int .u8 s.s2, .int .u8 s.s3, .int .u8 s.s4, .int .u8 s.s5] 30) := ⟨_, rfl⟩
  have K0 : RowKit.Hid (Kept w W0) := Lib.hid (by rw [hW0]; exact (Kept.refl _).alloc _)
  have R0 : RowKit.Hid (RowC W0 w.heap.size (sgV s)) := Lib.hid (by rw [hW0]; exact RowC.new w (sgV s) 30)
  have HW := Lib.hid hW0
  have HOK := Lib.hid (Sg.ok_l hs)
  clear hW0 hs
  go_enter Tryz.func104, Tryz.ntmps104
  go_upto_region 1 with (fail)
  rw [← HW.out]
  go_wp2_with fail
  go_loop [3] (fun i => ∃ k : Nat, k ≤ 6 ∧ i = .int .i64 k ∧ (s.l.take k).all (fun x => decide (x ≤ 4)) = true) (fun i => 6 - (intOf i).toNat)
  case atStart => exact ⟨0, by omega, by first | rfl | go_num, rfl⟩
  case round =>
    obtain ⟨k, hk, rfl, ha⟩ := hrel
    have HA := Lib.hid ha
    clear ha
    by_cases hlt : k < 6
    · obtain ⟨x, hx⟩ := sg_six s hlt
      have q := (R0.out k _ (sgV_at hx)).1
      have lq := cell_lt q
      have hb := HOK.out x (List.mem_of_getElem? hx)
      obtain ⟨hb0, hb1⟩ := hb
      have HX := Lib.hid hx
      clear hx
      by_cases h4 : x ≤ 4
      · go_wp2_with fail
        go_round
        case rel => exact ⟨k + 1, by omega, by go_num, take_all HX.out HA.out (by simpa using h4)⟩
        case measure => simp [intOf]; omega
      · have h5 : 4 < x := by omega
        go_wp2_with fail
        go_ret
        exact ⟨ret_bool (all_no (s := s) HX.out (by simpa using h5)).symm, K0.out⟩
    · obtain rfl : k = 6 := by omega
      go_wp2_with fail
      go_ret
      exact ⟨ret_bool (by have := HA.out; rw [List.take_of_length_le (by simp [Sg.l])] at this; exact this.symm), K0.out⟩
set_option maxRecDepth 100000 in
theorem risSight_any (s : Sg) (hs : s.ok) (w : World) : Calls Tryz.prog 93 #[.agg #[.int .u8 s.s0, .int .u8 s.s1, .int .u8 s.s2, .int .u8 s.s3, .int .u8 s.s4, .int .u8 s.s5]] w fun e w' => e = .returned (.bool (sightB s)) ∧ Kept w w' := by
  obtain ⟨W0, hW0⟩ : ∃ W0, W0 = w.alloc (.cells #[.int .u8 s.s0, .int .u8 s.s1, .int .u8 s.s2, .int .u8 s.s3, .int .u8 s.s4, .int .u8 s.s5] 39) := ⟨_, rfl⟩
  have K0 : RowKit.Hid (Kept w W0) := Lib.hid (by rw [hW0]; exact (Kept.refl _).alloc _)
  have R0 : RowKit.Hid (RowC W0 w.heap.size (sgV s)) := Lib.hid (by rw [hW0]; exact RowC.new w (sgV s) 39)
  have HW := Lib.hid hW0
  have HOK := Lib.hid (Sg.ok_l hs)
  have HSB : RowKit.Hid (sightB s = s.l.all fun x => !badB x) := Lib.hid (by unfold sightB; rw [List.not_any_eq_all_not])
  clear hW0 hs
  go_enter Tryz.func93, Tryz.ntmps93
  go_upto_region 1 with (fail)
  rw [← HW.out]
  go_wp2_with fail
  go_loop [3] (fun i => ∃ k : Nat, k ≤ 6 ∧ i = .int .i64 k ∧ (s.l.take k).all (fun x => !badB x) = true) (fun i => 6 - (intOf i).toNat)
  case atStart => exact ⟨0, by omega, by first | rfl | go_num, rfl⟩
  case round =>
    obtain ⟨k, hk, rfl, ha⟩ := hrel
    have HA := Lib.hid ha
    clear ha
    by_cases hlt : k < 6
    · obtain ⟨x, hx⟩ := sg_six s hlt
      have q := (R0.out k _ (sgV_at hx)).1
      have lq := cell_lt q
      have hb := HOK.out x (List.mem_of_getElem? hx)
      obtain ⟨hb0, hb1⟩ := hb
      have HX := Lib.hid hx
      clear hx
      by_cases h4 : x ≤ 4
      · go_wp2_with fail
        go_round
        case rel => exact ⟨k + 1, by omega, by go_num, take_all HX.out HA.out (by unfold badB; simp; omega)⟩
        case measure => simp [intOf]; omega
      · have h5 : 4 < x := by omega
        by_cases h9 : x = 9
        · subst h9
          go_wp2_with fail
          go_round
          case rel => exact ⟨k + 1, by omega, by go_num, take_all HX.out HA.out rfl⟩
          case measure => simp [intOf]; omega
        · have h9' : (x != 9) = true := by simpa using h9
          go_wp2_with fail
          go_ret
          exact ⟨ret_bool (by rw [HSB.out]; exact (all_no (s := s) HX.out (by unfold badB; rw [h9']; simp; exact h5)).symm), K0.out⟩
    · obtain rfl : k = 6 := by omega
      go_wp2_with fail
      go_ret
      exact ⟨ret_bool (by have := HA.out; rw [List.take_of_length_le (by simp [Sg.l])] at this; rw [HSB.out]; exact this.symm), K0.out⟩
def rmarkB (m : Mk) : Bool := inB m.own 1 40 && inB m.frm 0 100000 && inB m.unt m.frm 100000 && clearB m.sg
theorem rmark_eq (m : Mk) : rmarkB m = markB m := by
  unfold rmarkB markB inB
  rw [Bool.eq_iff_iff]
  simp only [Bool.and_eq_true, decide_eq_true_eq]
  constructor
  · rintro ⟨⟨⟨h1, h2⟩, h3⟩, h4⟩; refine ⟨⟨⟨⟨h1, h2⟩, ?_⟩, ?_⟩, h4⟩ <;> omega
  · rintro ⟨⟨⟨⟨h1, h2⟩, h3⟩, h4⟩, h5⟩; refine ⟨⟨⟨h1, h2⟩, ?_⟩, h5⟩; omega
set_option maxRecDepth 100000 in
set_option maxHeartbeats 3200000 in
theorem risMark_any (m : Mk) (hm : m.ok) (w : World) : Calls Tryz.prog 87 #[.agg #[.int .i64 m.own, .int .i64 m.frm, .int .i64 m.unt, .int .u8 m.sg.s0, .int .u8 m.sg.s1, .int .u8 m.sg.s2, .int .u8 m.sg.s3, .int .u8 m.sg.s4, .int .u8 m.sg.s5]] w fun e w' => e = .returned (.bool (markB m)) ∧ Kept w w' := by
  obtain ⟨W0, hW0⟩ : ∃ W0, W0 = w.alloc (.cells #[.int .i64 m.own, .int .i64 m.frm, .int .i64 m.unt, .int .u8 m.sg.s0, .int .u8 m.sg.s1, .int .u8 m.sg.s2, .int .u8 m.sg.s3, .int .u8 m.sg.s4, .int .u8 m.sg.s5] 32) := ⟨_, rfl⟩
  have K0 : RowKit.Hid (Kept w W0) := Lib.hid (by rw [hW0]; exact (Kept.refl _).alloc _)
  have R0 : RowKit.Hid (RowC W0 w.heap.size (mkC m)) := Lib.hid (by rw [hW0]; exact RowC.new w (mkC m) 32)
  have HW := Lib.hid hW0
  obtain ⟨b1, hb1⟩ : ∃ b, inB m.own 1 40 = b := ⟨_, rfl⟩
  obtain ⟨b2, hb2⟩ : ∃ b, inB m.frm 0 100000 = b := ⟨_, rfl⟩
  obtain ⟨b3, hb3⟩ : ∃ b, inB m.unt m.frm 100000 = b := ⟨_, rfl⟩
  obtain ⟨b4, hb4⟩ : ∃ b, clearB m.sg = b := ⟨_, rfl⟩
  have HB : RowKit.Hid (markB m = (b1 && b2 && b3 && b4)) := Lib.hid (by rw [← rmark_eq]; unfold rmarkB; rw [hb1, hb2, hb3, hb4])
  have H1 : RowKit.Hid (∀ W, Calls Tryz.prog 150 #[.int .i64 m.own, .int .i64 1, .int .i64 40] W fun e w' => e = .returned (.bool b1) ∧ W = w') := Lib.hid (fun W => by rw [← hb1]; exact rwithin_any _ _ _ W)
  have H2 : RowKit.Hid (∀ W, Calls Tryz.prog 150 #[.int .i64 m.frm, .int .i64 0, .int .i64 100000] W fun e w' => e = .returned (.bool b2) ∧ W = w') := Lib.hid (fun W => by rw [← hb2]; exact rwithin_any _ _ _ W)
  have H3 : RowKit.Hid (∀ W, Calls Tryz.prog 150 #[.int .i64 m.unt, .int .i64 m.frm, .int .i64 100000] W fun e w' => e = .returned (.bool b3) ∧ W = w') := Lib.hid (fun W => by rw [← hb3]; exact rwithin_any _ _ _ W)
  have H4 : RowKit.Hid (∀ W, Calls Tryz.prog 104 #[.agg #[.int .u8 m.sg.s0, .int .u8 m.sg.s1, .int .u8 m.sg.s2, .int .u8 m.sg.s3, .int .u8 m.sg.s4, .int .u8 m.sg.s5]] W fun e w' => e = .returned (.bool b4) ∧ Kept W w') := Lib.hid (fun W => by rw [← hb4]; exact rsigns_any m.sg hm.2.2.2 W)
  have a0 := (R0.out 0 _ rfl).1
  have a1 := (R0.out 1 _ rfl).1
  have a2 := (R0.out 2 _ rfl).1
  have a3 := (R0.out 3 _ rfl).1
  have a4 := (R0.out 4 _ rfl).1
  have a5 := (R0.out 5 _ rfl).1
  have a6 := (R0.out 6 _ rfl).1
  have a7 := (R0.out 7 _ rfl).1
  have a8 := (R0.out 8 _ rfl).1
  have la := cell_lt a0
  clear hW0 hb1 hb2 hb3 hb4 hm
  cases b1
  · go_enter Tryz.func87, Tryz.ntmps87
    go_upto_region 1 with (fail)
    rw [← HW.out]
    go_wp2_with fail
    refine (H1.out _).mono ?_
    rintro e w1 ⟨rfl, rfl⟩
    go_wp2
    go_ret
    exact ⟨ret_bool (by rw [HB.out]; rfl), K0.out⟩
  cases b2
  · go_enter Tryz.func87, Tryz.ntmps87
    go_upto_region 1 with (fail)
    rw [← HW.out]
    go_wp2_with fail
    refine (H1.out _).mono ?_
    rintro e w1 ⟨rfl, rfl⟩
    go_wp2_with fail
    refine (H2.out _).mono ?_
    rintro e w1 ⟨rfl, rfl⟩
    go_wp2
    go_ret
    exact ⟨ret_bool (by rw [HB.out]; rfl), K0.out⟩
  cases b3
  · go_enter Tryz.func87, Tryz.ntmps87
    go_upto_region 1 with (fail)
    rw [← HW.out]
    go_wp2_with fail
    refine (H1.out _).mono ?_
    rintro e w1 ⟨rfl, rfl⟩
    go_wp2_with fail
    refine (H2.out _).mono ?_
    rintro e w1 ⟨rfl, rfl⟩
    go_wp2_with fail
    refine (H3.out _).mono ?_
    rintro e w1 ⟨rfl, rfl⟩
    go_wp2
    go_ret
    exact ⟨ret_bool (by rw [HB.out]; rfl), K0.out⟩
  · go_enter Tryz.func87, Tryz.ntmps87
    go_upto_region 1 with (fail)
    rw [← HW.out]
    go_wp2_with fail
    refine (H1.out _).mono ?_
    rintro e w1 ⟨rfl, rfl⟩
    go_wp2_with fail
    refine (H2.out _).mono ?_
    rintro e w1 ⟨rfl, rfl⟩
    go_wp2_with fail
    refine (H3.out _).mono ?_
    rintro e w1 ⟨rfl, rfl⟩
    go_wp2_with fail
    refine (H4.out _).mono ?_
    rintro e w1 ⟨rfl, hk⟩
    have HK := Lib.hid (K0.out.trans hk)
    clear hk
    go_wp2_with fail
    go_ret
    exact ⟨ret_bool (by rw [HB.out]; rfl), HK.out⟩
set_option maxRecDepth 100000 in
theorem rtogether_any (x y : Mk) (w : World) : Calls Tryz.prog 88 #[.agg (mkC x).toArray, .agg (mkC y).toArray] w fun e w' => e = .returned (.bool (meetsB x y)) ∧ Kept w w' := by
  obtain ⟨W0, hW0⟩ : ∃ W0, W0 = (w.alloc (.cells (mkC x).toArray 32)).alloc (.cells (mkC y).toArray 32) := ⟨_, rfl⟩
  have K0 : RowKit.Hid (Kept w W0) := Lib.hid (by rw [hW0]; exact ((Kept.refl _).alloc _).alloc _)
  have R0 : RowKit.Hid (RowC W0 w.heap.size (mkC x)) := Lib.hid (by rw [hW0]; exact (RowC.new w (mkC x) 32).kept ((Kept.refl _).alloc _))
  have R1 : RowKit.Hid (RowC W0 (w.heap.size + 1) (mkC y)) := Lib.hid (by rw [hW0]; have h := RowC.new (w.alloc (.cells (mkC x).toArray 32)) (mkC y) 32; rwa [World.size_alloc] at h)
  have HW := Lib.hid hW0
  have a1 := (R0.out 1 _ rfl).1
  have a2 := (R0.out 2 _ rfl).1
  have la := cell_lt a1
  have b1 := (R1.out 1 _ rfl).1
  have b2 := (R1.out 2 _ rfl).1
  have lb := cell_lt b1
  clear hW0
  by_cases h1 : x.frm ≤ y.unt
  · by_cases h2 : y.frm ≤ x.unt
    · have hb : RowKit.Hid (meetsB x y = true) := Lib.hid (by unfold meetsB; simp [h1, h2])
      go_enter Tryz.func88, Tryz.ntmps88
      go_upto_region 1 with (fail)
      rw [← HW.out]
      go_wp2_with fail
      go_ret
      exact ⟨ret_bool hb.out.symm, K0.out⟩
    · have hb : RowKit.Hid (meetsB x y = false) := Lib.hid (by unfold meetsB; simp [h2])
      have h3 : x.unt < y.frm := by omega
      go_enter Tryz.func88, Tryz.ntmps88
      go_upto_region 1 with (fail)
      rw [← HW.out]
      go_wp2_with fail
      go_ret
      exact ⟨ret_bool hb.out.symm, K0.out⟩
  · have hb : RowKit.Hid (meetsB x y = false) := Lib.hid (by unfold meetsB; simp [h1])
    have h3 : y.unt < x.frm := by omega
    go_enter Tryz.func88, Tryz.ntmps88
    go_upto_region 1 with (fail)
    rw [← HW.out]
    go_wp2_with fail
    go_ret
    exact ⟨ret_bool hb.out.symm, K0.out⟩
end Go.Proofs.YtologmoanaccpaaGreatDoor

namespace Go.Proofs.YtologmoanaccpaaGreatDoor
set_option linter.all false
open Go.RowKit

theorem all_of {α : Type} {p : α → Bool} {xs : List α} {n : Nat} (hn : xs.length = n) (h : ∀ (j : Nat) (x : α), j < n → xs[j]? = some x → p x = true) : xs.all p = true := by
  rw [List.all_eq_true]
  intro x hx
  obtain ⟨j, hj⟩ := List.getElem?_of_mem hx
  refine h j x ?_ hj
  rcases Nat.lt_or_ge j xs.length with h1 | h1
  · omega
  · rw [List.getElem?_eq_none h1] at hj; cases hj
theorem all_nof {α : Type} {p : α → Bool} {xs : List α} {k : Nat} {x : α} (h : xs[k]? = some x) (hx : p x = false) : xs.all p = false := by
  cases e : xs.all p
  · rfl
  · rw [List.all_eq_true] at e
    rw [e x (List.mem_of_getElem? h)] at hx
    cases hx
theorem step_of {α : Type} {q : Nat → α → Prop} {xs : List α} {k : Nat} {x : α} (h : ∀ (j : Nat) (y : α), j < k → xs[j]? = some y → q j y) (hx : xs[k]? = some x) (hq : q k x) : ∀ (j : Nat) (y : α), j < k + 1 → xs[j]? = some y → q j y := fun j y hj hy => by
  rcases Nat.lt_or_eq_of_le (Nat.le_of_lt_succ hj) with h1 | h1
  · exact h j y h1 hy
  · subst h1
    rw [hx] at hy
    cases hy
    exact hq
set_option maxRecDepth 100000 in
theorem sg_eq (s t : Sg) (W : World) : (binOp BinOp.eql 30 (.agg #[.int .u8 s.s0, .int .u8 s.s1, .int .u8 s.s2, .int .u8 s.s3, .int .u8 s.s4, .int .u8 s.s5]) (.agg #[.int .u8 t.s0, .int .u8 t.s1, .int .u8 t.s2, .int .u8 t.s3, .int .u8 t.s4, .int .u8 t.s5])).run Tryz.prog W = .ok (.bool (decide (s = t))) W := by
  rw [run_eql_struct]
  have h := eql30 s.s0 s.s1 s.s2 s.s3 s.s4 s.s5 t.s0 t.s1 t.s2 t.s3 t.s4 t.s5 W
  rw [show Op.equal = Op.equalIn Op.maxDepth from rfl, show Op.maxDepth = 10000 from rfl] at h
  rw [h]
  simp only [Result.andThen_ok]
  congr 2
  rw [Bool.eq_iff_iff]
  obtain ⟨a0, a1, a2, a3, a4, a5⟩ := s
  obtain ⟨b0, b1, b2, b3, b4, b5⟩ := t
  simp
def pairB (x y : Mk) : Bool := meetsB x y && (decide (x.own = y.own) || decide (x.sg = y.sg))
theorem clash_pair (pre : List Mk) (m : Mk) : clashL pre m = pre.any fun o => pairB m o := by
  unfold clashL pairB
  congr 1
  funext o
  have e1 : decide (o.own = m.own) = decide (m.own = o.own) := by simp [eq_comm]
  have e2 : decide (o.sg = m.sg) = decide (m.sg = o.sg) := by simp [eq_comm]
  rw [e1, e2, Bool.and_comm]
theorem rclash_no {ms : List Mk} {i : Nat} {x : Mk} (h : ∀ (j : Nat) (y : Mk), j < i → ms[j]? = some y → pairB x y = false) : clashL (ms.take i) x = false := by
  rw [clash_pair, List.any_eq_false]
  intro y hy
  obtain ⟨j, hj⟩ := List.getElem?_of_mem hy
  rw [List.getElem?_take] at hj
  split at hj
  · rename_i hlt
    rw [h j y hlt hj]; simp
  · cases hj
theorem rclash_yes {ms : List Mk} {i j : Nat} {x y : Mk} (hx : ms[i]? = some x) (hy : ms[j]? = some y) (hj : j < i) (h : pairB x y = true) : clashB ms = true := by
  unfold clashB
  rw [List.any_eq_true]
  refine ⟨i, List.mem_range.2 (List.getElem?_eq_some_iff.1 hx).1, ?_⟩
  rw [hx]
  dsimp only
  rw [clash_pair, List.any_eq_true]
  exact ⟨y, List.mem_of_getElem? (i := j) (by rw [List.getElem?_take, if_pos hj]; exact hy), h⟩
theorem rclash_none {ms : List Mk} {n : Nat} (hn : ms.length = n) (h : ∀ (i : Nat) (x : Mk), i < n → ms[i]? = some x → clashL (ms.take i) x = false) : clashB ms = false := by
  unfold clashB
  rw [List.any_eq_false]
  intro i hi
  rw [List.mem_range, hn] at hi
  cases e : ms[i]? with
  | none => simp
  | some x => dsimp only; rw [h i x hi e]; simp
theorem rrep_yes {fs : List Fd} {i j : Nat} {x : Fd} (hx : fs[i]? = some x) (hy : fs[j]? = some x) (hj : j < i) : repB fs = true := by
  unfold repB
  rw [decide_eq_true_eq]
  intro hn
  obtain ⟨h1, e1⟩ := List.getElem?_eq_some_iff.1 hx
  obtain ⟨h2, e2⟩ := List.getElem?_eq_some_iff.1 hy
  have := List.pairwise_iff_getElem.1 hn j i h2 h1 hj
  rw [e1, e2] at this
  exact this rfl
theorem rrep_none {fs : List Fd} {n : Nat} (hn : fs.length = n) (h : ∀ (i : Nat) (x : Fd), i < n → fs[i]? = some x → ∀ (j : Nat) (y : Fd), j < i → fs[j]? = some y → x ≠ y) : repB fs = false := by
  unfold repB
  rw [decide_eq_false_iff_not]
  intro hh
  refine hh (List.pairwise_iff_getElem.2 fun j i h2 h1 hj => ?_)
  exact fun e => h i _ (by omega) (List.getElem?_eq_getElem h1) j _ hj (List.getElem?_eq_getElem h2) e.symm
set_option maxRecDepth 100000 in
set_option maxHeartbeats 6400000 in
theorem rcheckSmits_any (A B : Option Addr) (n c m d : Nat) (ms : List Mk) (fs : List Fd) (w : World) (hs : SmA w A n c ms B m d fs) :
    Calls Tryz.prog 26 #[.agg #[.slice A n c, .slice B m d]] w fun e w' => e = .returned (.int .i64 (smE ms fs)) ∧ Kept w w' := by
  obtain ⟨W0, hW0⟩ : ∃ W0, W0 = w.alloc (.cells #[.slice A n c, .slice B m d] 25) := ⟨_, rfl⟩
  have K0 : RowKit.Hid (Kept w W0) := Lib.hid (by rw [hW0]; exact (Kept.refl _).alloc _)
  have R0 : RowKit.Hid (RowC W0 w.heap.size [.slice A n c, .slice B m d]) := Lib.hid (by rw [hW0]; exact RowC.new w [.slice A n c, .slice B m d] 25)
  have HW := Lib.hid hW0
  have HSA := Lib.hid (hs.kept K0.out).1
  have HSB := Lib.hid (hs.kept K0.out).2
  have hnl := hs.1.1
  have hml := hs.2.1
  have hnc := hs.1.2.1
  have hcm := hs.1.2.2.1
  have hmc := hs.2.2.1
  have hdm := hs.2.2.2.1
  have a0 := (R0.out 0 _ rfl).1
  have a1 := (R0.out 1 _ rfl).1
  have la := cell_lt a0
  have HNL := Lib.hid hnl
  have HML := Lib.hid hml
  clear hW0 hs hnl hml
  go_enter Tryz.func26, Tryz.ntmps26
  go_upto_region 1 with (fail)
  rw [← HW.out]
  by_cases g1 : 100 < n
  · go_wp2_with fail
    go_ret
    exact ⟨ret_int (by unfold smE; rw [if_pos (.inl (by rw [HNL.out]; exact g1))]), K0.out⟩
  by_cases g2 : 20 < m
  · go_wp2_with fail
    go_ret
    exact ⟨ret_int (by unfold smE; rw [if_pos (.inr (by rw [HML.out]; exact g2))]), K0.out⟩
  have HE : RowKit.Hid (smE ms fs = if (ms.all markB && fs.all fadeB) = true then (if (repB fs || clashB ms) = true then 6 else 0) else 1) := Lib.hid (by unfold smE; rw [if_neg (by rw [HNL.out, HML.out]; omega)])
  go_wp2_with fail
  go_loopw [3] (fun i wr => ∃ k : Nat, k ≤ n ∧ i = .int .i64 k ∧ (∀ (j : Nat) (x : Mk), j < k → ms[j]? = some x → markB x = true) ∧ Kept W0 wr) (fun i _ => n - (intOf i).toNat)
  case atStart => exact ⟨0, by omega, by first | rfl | go_num, fun j x hj => by omega, Kept.refl _⟩
  case round =>
    obtain ⟨k, hk, rfl, ho, hkr⟩ := hrel
    have Ho := Lib.hid ho
    have HKR := Lib.hid hkr
    clear ho hkr a0 a1 la
    have a0 := ((R0.out.kept HKR.out) 0 _ rfl).1
    have a1 := ((R0.out.kept HKR.out) 1 _ rfl).1
    have la := cell_lt a0
    by_cases hlt : k < n
    · obtain ⟨x, hx⟩ : ∃ x, ms[k]? = some x := ⟨_, List.getElem?_eq_getElem (by rw [HNL.out]; exact hlt)⟩
      obtain ⟨b, off, hA, ht⟩ := HSA.out.2.2.2.2 (by omega)
      subst hA
      have hcc := fun j v hv => (HKR.out.cells _ _ (cell_lt (ht k x hx j v hv))).trans (ht k x hx j v hv)
      have c0 := hcc 0 _ rfl
      have c1 := hcc 1 _ rfl
      have c2 := hcc 2 _ rfl
      have c3 := hcc 3 _ rfl
      have c4 := hcc 4 _ rfl
      have c5 := hcc 5 _ rfl
      have c6 := hcc 6 _ rfl
      have c7 := hcc 7 _ rfl
      have c8 := hcc 8 _ rfl
      simp only [Nat.add_zero] at c0
      have HC := Lib.hid (risMark_any x (HSA.out.2.2.2.1 x (List.mem_of_getElem? hx)) wr)
      have Hx := Lib.hid hx
      clear hx ht hcc
      obtain ⟨q, hq⟩ : ∃ q, markB x = q := ⟨_, rfl⟩
      rw [hq] at HC
      have HQ := Lib.hid hq
      clear hq
      go_wp2_with fail
      refine HC.out.mono ?_
      rintro e w1 ⟨rfl, hk1⟩
      have HK1 := Lib.hid (HKR.out.trans hk1)
      clear hk1
      cases q
      · go_wp2_with fail
        go_ret
        exact ⟨ret_int (by rw [HE.out, all_nof Hx.out HQ.out]; rfl), K0.out.trans HK1.out⟩
      · go_wp2_with fail
        go_roundw
        case rel => exact ⟨k + 1, by omega, by go_num, step_of (q := fun _ x => markB x = true) Ho.out Hx.out HQ.out, HK1.out⟩
        case measure => simp [intOf]; omega
    · obtain rfl : k = n := by omega
      have HMA : RowKit.Hid (ms.all markB = true) := Lib.hid (all_of HNL.out Ho.out)
      obtain ⟨W1, hW1⟩ : ∃ W1, W1 = wr := ⟨_, rfl⟩
      rw [← hW1] at HKR a0 a1 la ⊢
      clear hW1 Ho hlt
      go_wp2_with fail
      go_loopw [4] (fun i wr => ∃ q : Nat, q ≤ m ∧ i = .int .i64 q ∧ (∀ (j : Nat) (x : Fd), j < q → fs[j]? = some x → fadeB x = true) ∧ Kept W0 wr) (fun i _ => m - (intOf i).toNat)
      case atStart => exact ⟨0, by omega, by first | rfl | go_num, fun j x hj => by omega, HKR.out⟩
      case round =>
        obtain ⟨q, hq, rfl, ho, hkr⟩ := hrel
        have Ho := Lib.hid ho
        have HKQ := Lib.hid hkr
        clear ho hkr a0 a1 la
        have a0 := ((R0.out.kept HKQ.out) 0 _ rfl).1
        have a1 := ((R0.out.kept HKQ.out) 1 _ rfl).1
        have la := cell_lt a0
        by_cases hlt : q < m
        · obtain ⟨x, hx⟩ : ∃ x, fs[q]? = some x := ⟨_, List.getElem?_eq_getElem (by rw [HML.out]; exact hlt)⟩
          obtain ⟨b, off, hB, ht⟩ := HSB.out.2.2.2.2 (by omega)
          subst hB
          have hcc := fun j v hv => (HKQ.out.cells _ _ (cell_lt (ht q x hx j v hv))).trans (ht q x hx j v hv)
          have c0 := hcc 0 _ rfl
          have c1 := hcc 1 _ rfl
          simp only [Nat.add_zero] at c0
          obtain ⟨⟨o1, o2⟩, o3, o4⟩ := HSB.out.2.2.2.1 x (List.mem_of_getElem? hx)
          have Hx := Lib.hid hx
          have HK1 : RowKit.Hid (∀ v, Kept W0 (wr.alloc v)) := Lib.hid (fun v => HKQ.out.alloc v)
          clear hx ht hcc
          by_cases f1 : x.sign < 1
          · have HF : RowKit.Hid (fadeB x = false) := Lib.hid (by unfold fadeB inB; simp; omega)
            go_wp2_with fail
            go_ret
            exact ⟨ret_int (by rw [HE.out, HMA.out, all_nof Hx.out HF.out]; rfl), K0.out.trans (HK1.out _)⟩
          by_cases f2 : 4 < x.sign
          · have HF : RowKit.Hid (fadeB x = false) := Lib.hid (by unfold fadeB inB; simp; omega)
            go_wp2_with fail
            go_ret
            exact ⟨ret_int (by rw [HE.out, HMA.out, all_nof Hx.out HF.out]; rfl), K0.out.trans (HK1.out _)⟩
          by_cases f3 : 4 < x.seen
          · have HF : RowKit.Hid (fadeB x = false) := Lib.hid (by unfold fadeB inB; simp; omega)
            go_wp2_with fail
            go_ret
            exact ⟨ret_int (by rw [HE.out, HMA.out, all_nof Hx.out HF.out]; rfl), K0.out.trans (HK1.out _)⟩
          by_cases f4 : x.seen = x.sign
          · have HF : RowKit.Hid (fadeB x = false) := Lib.hid (by unfold fadeB inB; simp [f4])
            have f5 : (x.seen == x.sign) = true := by simpa using f4
            clear f4
            go_wp2_with fail
            go_ret
            exact ⟨ret_int (by rw [HE.out, HMA.out, all_nof Hx.out HF.out]; rfl), K0.out.trans (HK1.out _)⟩
          have HF : RowKit.Hid (fadeB x = true) := Lib.hid (by unfold fadeB inB; simp [f4]; omega)
          have f5 : (x.seen == x.sign) = false := by simpa using f4
          clear f4
          go_wp2_with fail
          go_roundw
          case rel => exact ⟨q + 1, by omega, by go_num, step_of (q := fun _ x => fadeB x = true) Ho.out Hx.out HF.out, HK1.out _⟩
          case measure => simp [intOf]; omega
        · obtain rfl : q = m := by omega
          have HFA : RowKit.Hid (fs.all fadeB = true) := Lib.hid (all_of HML.out Ho.out)
          have HE2 : RowKit.Hid (smE ms fs = if (repB fs || clashB ms) = true then 6 else 0) := Lib.hid (by rw [HE.out, HMA.out, HFA.out]; rfl)
          obtain ⟨W2, hW2⟩ : ∃ W2, W2 = wr := ⟨_, rfl⟩
          rw [← hW2] at HKQ a0 a1 la ⊢
          clear hW2 Ho hlt HE HMA HFA HKR
          go_wp2_with fail
          go_loopw [6] (fun i wr => ∃ z : Nat, z ≤ q ∧ i = .int .i64 z ∧ (∀ (i : Nat) (x : Fd), i < z → fs[i]? = some x → ∀ (j : Nat) (y : Fd), j < i → fs[j]? = some y → x ≠ y) ∧ Kept W0 wr) (fun i _ => q - (intOf i).toNat)
          case atStart => exact ⟨0, by omega, by first | rfl | go_num, fun j x hj => by omega, HKQ.out⟩
          case round =>
            obtain ⟨q2, hq2, rfl, ho, hkr⟩ := hrel
            have Ho := Lib.hid ho
            have HKR := Lib.hid hkr
            clear ho hkr a0 a1 la
            have a0 := ((R0.out.kept HKR.out) 0 _ rfl).1
            have a1 := ((R0.out.kept HKR.out) 1 _ rfl).1
            have la := cell_lt a0
            by_cases hlt : q2 < q
            · obtain ⟨x, hx⟩ : ∃ x, fs[q2]? = some x := ⟨_, List.getElem?_eq_getElem (by rw [HML.out]; exact hlt)⟩
              obtain ⟨b, off, hB, ht⟩ := HSB.out.2.2.2.2 (by omega)
              subst hB
              have HT := Lib.hid ht
              have Hx := Lib.hid hx
              clear ht hx
              obtain ⟨W3, hW3⟩ : ∃ W3, W3 = wr := ⟨_, rfl⟩
              rw [← hW3] at HKR a0 a1 la ⊢
              clear hW3
              go_wp2_with fail
              go_loopw [7] (fun i wr => ∃ r : Nat, r ≤ q2 ∧ i = .int .i64 r ∧ (∀ (j : Nat) (y : Fd), j < r → fs[j]? = some y → x ≠ y) ∧ Kept W3 wr) (fun i _ => q2 - (intOf i).toNat)
              case atStart => exact ⟨0, by omega, by first | rfl | go_num, fun j x hj => by omega, Kept.refl _⟩
              case round =>
                obtain ⟨r, hr, rfl, hp, hkr2⟩ := hrel
                have Hp := Lib.hid hp
                have HKS := Lib.hid (HKR.out.trans hkr2)
                have HK3 := Lib.hid hkr2
                clear hp hkr2 a0 a1 la
                have a0 := ((R0.out.kept HKS.out) 0 _ rfl).1
                have a1 := ((R0.out.kept HKS.out) 1 _ rfl).1
                have la := cell_lt a0
                by_cases hrl : r < q2
                · obtain ⟨y, hy⟩ : ∃ y, fs[r]? = some y := ⟨_, List.getElem?_eq_getElem (by rw [HML.out]; omega)⟩
                  have hcc := fun j v hv => (HKS.out.cells _ _ (cell_lt (HT.out q2 x Hx.out j v hv))).trans (HT.out q2 x Hx.out j v hv)
                  have hdd := fun j v hv => (HKS.out.cells _ _ (cell_lt (HT.out r y hy j v hv))).trans (HT.out r y hy j v hv)
                  have c0 := hcc 0 _ rfl
                  have c1 := hcc 1 _ rfl
                  have d0 := hdd 0 _ rfl
                  have d1 := hdd 1 _ rfl
                  simp only [Nat.add_zero] at c0 d0
                  have Hy := Lib.hid hy
                  clear hcc hdd hy
                  have hi0 : (0 : Int) ≤ (q2 : Int) := by omega
                  have hi1 : (q2 : Int) < (q : Int) := by omega
                  have hj0 : (0 : Int) ≤ (r : Int) := by omega
                  have hj1 : (r : Int) < (q : Int) := by omega
                  by_cases he : x = y
                  · subst he
                    go_wp2_with fail
                    go_quiet (fail)
                    go_wp2_with fail
                    go_ret
                    exact ⟨ret_int (by rw [HE2.out, rrep_yes Hx.out Hy.out hrl]; rfl), by first | exact K0.out.trans HKS.out | exact (K0.out.trans HKS.out).drewN _ | exact (K0.out.trans HKS.out).drew⟩
                  · have HNE := Lib.hid he
                    have hne : ((x.sign == y.sign) && (x.seen == y.seen)) = false := by
                      cases e1 : (x.sign == y.sign && x.seen == y.seen)
                      · rfl
                      · simp only [Bool.and_eq_true, beq_iff_eq] at e1
                        exact absurd (by cases x; cases y; simp_all) he
                    clear he
                    by_cases e1 : x.sign = y.sign
                    · have e2 : x.seen ≠ y.seen := fun h => HNE.out (by cases x; cases y; simp_all)
                      have e3 : (x.seen == y.seen) = false := by simpa using e2
                      have e4 : (x.sign == y.sign) = true := by simpa using e1
                      clear e1 e2 hne
                      go_wp2_with fail
                      go_quiet (fail)
                      go_wp2_with fail
                      go_roundw
                      case rel => exact ⟨r + 1, by omega, by go_num, step_of (q := fun _ y => x ≠ y) Hp.out Hy.out HNE.out, by first | exact HK3.out | exact HK3.out.drewN _ | exact HK3.out.drew⟩
                      case measure => simp [intOf]; omega
                    · have e4 : (x.sign == y.sign) = false := by simpa using e1
                      clear e1 hne
                      go_wp2_with fail
                      go_quiet (fail)
                      go_wp2_with fail
                      go_roundw
                      case rel => exact ⟨r + 1, by omega, by go_num, step_of (q := fun _ y => x ≠ y) Hp.out Hy.out HNE.out, by first | exact HK3.out | exact HK3.out.drewN _ | exact HK3.out.drew⟩
                      case measure => simp [intOf]; omega
                · obtain rfl : r = q2 := by omega
                  go_wp2_with fail
                  go_roundw
                  case rel => exact ⟨r + 1, by omega, by go_num, step_of (q := fun i x => ∀ (j : Nat) (y : Fd), j < i → fs[j]? = some y → x ≠ y) Ho.out Hx.out Hp.out, HKS.out⟩
                  case measure => simp [intOf]; omega
            · obtain rfl : q2 = q := by omega
              have HRB : RowKit.Hid (repB fs = false) := Lib.hid (rrep_none HML.out Ho.out)
              have HE3 : RowKit.Hid (smE ms fs = if clashB ms = true then 6 else 0) := Lib.hid (by rw [HE2.out, HRB.out]; rfl)
              obtain ⟨W4, hW4⟩ : ∃ W4, W4 = wr := ⟨_, rfl⟩
              rw [← hW4] at HKR a0 a1 la ⊢
              clear hW4 Ho hlt HE2 HRB HKQ
              go_wp2_with fail
              go_loopw [8] (fun i wr => ∃ q : Nat, q ≤ k ∧ i = .int .i64 q ∧ (∀ (i : Nat) (x : Mk), i < q → ms[i]? = some x → clashL (ms.take i) x = false) ∧ Kept W0 wr) (fun i _ => k - (intOf i).toNat)
              case atStart => exact ⟨0, by omega, by first | rfl | go_num, fun j x hj => by omega, HKR.out⟩
              case round =>
                obtain ⟨q5, hq5, rfl, ho, hkr⟩ := hrel
                have Ho := Lib.hid ho
                have HK5 := Lib.hid hkr
                clear ho hkr a0 a1 la
                have a0 := ((R0.out.kept HK5.out) 0 _ rfl).1
                have a1 := ((R0.out.kept HK5.out) 1 _ rfl).1
                have la := cell_lt a0
                by_cases hlt : q5 < k
                · obtain ⟨x, hx⟩ : ∃ x, ms[q5]? = some x := ⟨_, List.getElem?_eq_getElem (by rw [HNL.out]; exact hlt)⟩
                  obtain ⟨b, off, hA, ht⟩ := HSA.out.2.2.2.2 (by omega)
                  subst hA
                  have HT := Lib.hid ht
                  have Hx := Lib.hid hx
                  clear ht hx
                  obtain ⟨W5, hW5⟩ : ∃ W5, W5 = wr := ⟨_, rfl⟩
                  rw [← hW5] at HK5 a0 a1 la ⊢
                  clear hW5
                  go_wp2_with fail
                  go_loopw [9] (fun i wr => ∃ r : Nat, r ≤ q5 ∧ i = .int .i64 r ∧ (∀ (j : Nat) (y : Mk), j < r → ms[j]? = some y → pairB x y = false) ∧ Kept W5 wr) (fun i _ => q5 - (intOf i).toNat)
                  case atStart => exact ⟨0, by omega, by first | rfl | go_num, fun j x hj => by omega, Kept.refl _⟩
                  case round =>
                    obtain ⟨r, hr, rfl, hp, hkr2⟩ := hrel
                    have Hp := Lib.hid hp
                    have HKS := Lib.hid (HK5.out.trans hkr2)
                    have HK3 := Lib.hid hkr2
                    clear hp hkr2 a0 a1 la
                    have a0 := ((R0.out.kept HKS.out) 0 _ rfl).1
                    have a1 := ((R0.out.kept HKS.out) 1 _ rfl).1
                    have la := cell_lt a0
                    by_cases hrl : r < q5
                    · obtain ⟨y, hy⟩ : ∃ y, ms[r]? = some y := ⟨_, List.getElem?_eq_getElem (by rw [HNL.out]; omega)⟩
                      have hcc := fun j v hv => (HKS.out.cells _ _ (cell_lt (HT.out q5 x Hx.out j v hv))).trans (HT.out q5 x Hx.out j v hv)
                      have hdd := fun j v hv => (HKS.out.cells _ _ (cell_lt (HT.out r y hy j v hv))).trans (HT.out r y hy j v hv)
                      have c0 := hcc 0 _ rfl
                      have c1 := hcc 1 _ rfl
                      have c2 := hcc 2 _ rfl
                      have c3 := hcc 3 _ rfl
                      have c4 := hcc 4 _ rfl
                      have c5 := hcc 5 _ rfl
                      have c6 := hcc 6 _ rfl
                      have c7 := hcc 7 _ rfl
                      have c8 := hcc 8 _ rfl
                      have d0 := hdd 0 _ rfl
                      have d1 := hdd 1 _ rfl
                      have d2 := hdd 2 _ rfl
                      have d3 := hdd 3 _ rfl
                      have d4 := hdd 4 _ rfl
                      have d5 := hdd 5 _ rfl
                      have d6 := hdd 6 _ rfl
                      have d7 := hdd 7 _ rfl
                      have d8 := hdd 8 _ rfl
                      simp only [Nat.add_zero] at c0 d0
                      have lc := cell_lt c0
                      have Hy := Lib.hid hy
                      clear hcc hdd hy
                      have hi0 : (0 : Int) ≤ (q5 : Int) := by omega
                      have hi1 : (q5 : Int) < (k : Int) := by omega
                      have hj0 : (0 : Int) ≤ (r : Int) := by omega
                      have hj1 : (r : Int) < (k : Int) := by omega
                      go_upto_region 30 with (fail)
                      obtain ⟨Wx, hWx⟩ : ∃ Wx, Wx = (wr.alloc (.cells #[.int .i64 x.own, .int .i64 x.frm, .int .i64 x.unt, .int .u8 x.sg.s0, .int .u8 x.sg.s1, .int .u8 x.sg.s2, .int .u8 x.sg.s3, .int .u8 x.sg.s4, .int .u8 x.sg.s5] 32)).alloc (.cells #[.int .i64 y.own, .int .i64 y.frm, .int .i64 y.unt, .int .u8 y.sg.s0, .int .u8 y.sg.s1, .int .u8 y.sg.s2, .int .u8 y.sg.s3, .int .u8 y.sg.s4, .int .u8 y.sg.s5] 32) := ⟨_, rfl⟩
                      have kx : Kept wr Wx := by rw [hWx]; exact ((Kept.refl _).alloc _).alloc _
                      have RX : RowC Wx wr.heap.size (mkC x) := by rw [hWx]; exact (RowC.new wr (mkC x) 32).kept ((Kept.refl _).alloc _)
                      have RY : RowC Wx (wr.heap.size + 1) (mkC y) := by rw [hWx]; have h := RowC.new (wr.alloc (.cells #[.int .i64 x.own, .int .i64 x.frm, .int .i64 x.unt, .int .u8 x.sg.s0, .int .u8 x.sg.s1, .int .u8 x.sg.s2, .int .u8 x.sg.s3, .int .u8 x.sg.s4, .int .u8 x.sg.s5] 32)) (mkC y) 32; rwa [World.size_alloc] at h
                      rw [← hWx]
                      clear hWx a0 a1 la c0 c1 c2 c3 c4 c5 c6 c7 c8 d0 d1 d2 d3 d4 d5 d6 d7 d8 lc
                      have HKX := Lib.hid kx
                      have HRX := Lib.hid RX
                      have HRY := Lib.hid RY
                      clear kx RX RY
                      have x0 := (HRX.out 0 _ rfl).1
                      have x1 := (HRX.out 1 _ rfl).1
                      have x2 := (HRX.out 2 _ rfl).1
                      have x3 := (HRX.out 3 _ rfl).1
                      have x4 := (HRX.out 4 _ rfl).1
                      have x5 := (HRX.out 5 _ rfl).1
                      have x6 := (HRX.out 6 _ rfl).1
                      have x7 := (HRX.out 7 _ rfl).1
                      have x8 := (HRX.out 8 _ rfl).1
                      have y0 := (HRY.out 0 _ rfl).1
                      have y1 := (HRY.out 1 _ rfl).1
                      have y2 := (HRY.out 2 _ rfl).1
                      have y3 := (HRY.out 3 _ rfl).1
                      have y4 := (HRY.out 4 _ rfl).1
                      have y5 := (HRY.out 5 _ rfl).1
                      have y6 := (HRY.out 6 _ rfl).1
                      have y7 := (HRY.out 7 _ rfl).1
                      have y8 := (HRY.out 8 _ rfl).1
                      have lx := cell_lt y0
                      have HTG : RowKit.Hid (Calls Tryz.prog 88 #[.agg #[.int .i64 x.own, .int .i64 x.frm, .int .i64 x.unt, .int .u8 x.sg.s0, .int .u8 x.sg.s1, .int .u8 x.sg.s2, .int .u8 x.sg.s3, .int .u8 x.sg.s4, .int .u8 x.sg.s5], .agg #[.int .i64 y.own, .int .i64 y.frm, .int .i64 y.unt, .int .u8 y.sg.s0, .int .u8 y.sg.s1, .int .u8 y.sg.s2, .int .u8 y.sg.s3, .int .u8 y.sg.s4, .int .u8 y.sg.s5]] Wx fun e w' => e = .returned (.bool (meetsB x y)) ∧ Kept Wx w') := Lib.hid (rtogether_any x y Wx)
                      have HSG : RowKit.Hid (∀ W, (binOp BinOp.eql 30 (.agg #[.int .u8 x.sg.s0, .int .u8 x.sg.s1, .int .u8 x.sg.s2, .int .u8 x.sg.s3, .int .u8 x.sg.s4, .int .u8 x.sg.s5]) (.agg #[.int .u8 y.sg.s0, .int .u8 y.sg.s1, .int .u8 y.sg.s2, .int .u8 y.sg.s3, .int .u8 y.sg.s4, .int .u8 y.sg.s5])).run Tryz.prog W = .ok (.bool (decide (x.sg = y.sg))) W) := Lib.hid (fun W => sg_eq x.sg y.sg W)
                      have HPB : RowKit.Hid (pairB x y = (meetsB x y && (decide (x.own = y.own) || decide (x.sg = y.sg)))) := Lib.hid rfl
                      obtain ⟨bm, hbm⟩ : ∃ b, meetsB x y = b := ⟨_, rfl⟩
                      rw [hbm] at HTG HPB
                      clear hbm
                      obtain ⟨bs, hbs⟩ : ∃ b, decide (x.sg = y.sg) = b := ⟨_, rfl⟩
                      rw [hbs] at HSG HPB
                      clear hbs
                      go_wp2_with fail
                      refine HTG.out.mono ?_
                      rintro e w7 ⟨rfl, hk7⟩
                      have HK7 := Lib.hid (HKX.out.trans hk7)
                      have r7 := HRX.out.kept hk7
                      have s7 := HRY.out.kept hk7
                      clear hk7 x0 x1 x2 x3 x4 x5 x6 x7 x8 y0 y1 y2 y3 y4 y5 y6 y7 y8 lx
                      have x0 := (r7 0 _ rfl).1
                      have x3 := (r7 3 _ rfl).1
                      have x4 := (r7 4 _ rfl).1
                      have x5 := (r7 5 _ rfl).1
                      have x6 := (r7 6 _ rfl).1
                      have x7 := (r7 7 _ rfl).1
                      have x8 := (r7 8 _ rfl).1
                      have y0 := (s7 0 _ rfl).1
                      have y3 := (s7 3 _ rfl).1
                      have y4 := (s7 4 _ rfl).1
                      have y5 := (s7 5 _ rfl).1
                      have y6 := (s7 6 _ rfl).1
                      have y7 := (s7 7 _ rfl).1
                      have y8 := (s7 8 _ rfl).1
                      have lx := cell_lt y0
                      clear r7 s7
                      cases bm with
                      | false =>
                        go_wp2_with fail
                        go_roundw
                        case rel => exact ⟨r + 1, by omega, by go_num, step_of (q := fun _ y => pairB x y = false) Hp.out Hy.out (by rw [HPB.out]; rfl), HK3.out.trans HK7.out⟩
                        case measure => simp [intOf]; omega
                      | true =>
                        by_cases ho : x.own = y.own
                        · have ho1 : (x.own == y.own) = true := by simpa using ho
                          have HO := Lib.hid ho
                          clear ho
                          go_wp2_with fail
                          go_ret
                          exact ⟨ret_int (by rw [HE3.out, rclash_yes Hx.out Hy.out hrl (by rw [HPB.out, HO.out]; simp)]; rfl), K0.out.trans (HKS.out.trans HK7.out)⟩
                        · have ho1 : (x.own == y.own) = false := by simpa using ho
                          have HO := Lib.hid ho
                          clear ho
                          have hsg := HSG.out
                          cases bs with
                          | true =>
                            go_wp2_with fail
                            go_ret
                            exact ⟨ret_int (by rw [HE3.out, rclash_yes Hx.out Hy.out hrl (by rw [HPB.out]; simp)]; rfl), K0.out.trans (HKS.out.trans HK7.out)⟩
                          | false =>
                            go_wp2_with fail
                            go_roundw
                            case rel => exact ⟨r + 1, by omega, by go_num, step_of (q := fun _ y => pairB x y = false) Hp.out Hy.out (by rw [HPB.out]; simp; exact HO.out), HK3.out.trans HK7.out⟩
                            case measure => simp [intOf]; omega
                    · obtain rfl : r = q5 := by omega
                      go_wp2_with fail
                      go_roundw
                      case rel => exact ⟨r + 1, by omega, by go_num, step_of (q := fun i x => clashL (ms.take i) x = false) Ho.out Hx.out (rclash_no Hp.out), HKS.out⟩
                      case measure => simp [intOf]; omega
                · obtain rfl : q5 = k := by omega
                  go_wp2_with fail
                  go_ret
                  exact ⟨ret_int (by rw [HE3.out, rclash_none HNL.out Ho.out]; rfl), K0.out.trans HK5.out⟩
end Go.Proofs.YtologmoanaccpaaGreatDoor

namespace Go.Proofs.YtologmoanaccpaaGreatDoor
set_option linter.all false
open Go.RowKit

def stE (ms : List Mk) (fs : List Fd) (day : Int) (ows : List Int) : Int := fstE [smE ms fs, errB (inB day 0 100000), errB (ows.all fun o => inB o 1 40)]
set_option maxRecDepth 100000 in
set_option maxHeartbeats 1600000 in
theorem rstart_any (A B G : Option Addr) (n c m d x y : Nat) (ms : List Mk) (fs : List Fd) (day : Int) (ows : List Int) (w : World) (hs : SmA w A n c ms B m d fs) (how : IntA w G x y ows) (hx : x ≤ 1000) :
    Calls Tryz.prog 77 #[.agg #[.slice A n c, .slice B m d], .int .i64 day, .slice G x y] w fun e w' => e = .returned (.int .i64 (stE ms fs day ows)) ∧ Kept w w' := by
  obtain ⟨W0, hW0⟩ : ∃ W0, W0 = w.alloc (.cells #[.slice A n c, .slice B m d] 25) := ⟨_, rfl⟩
  have K0 : RowKit.Hid (Kept w W0) := Lib.hid (by rw [hW0]; exact (Kept.refl _).alloc _)
  have R0 : RowKit.Hid (RowC W0 w.heap.size [.slice A n c, .slice B m d]) := Lib.hid (by rw [hW0]; exact RowC.new w [.slice A n c, .slice B m d] 25)
  have HW := Lib.hid hW0
  have HC1 := Lib.hid (rcheckSmits_any A B n c m d ms fs W0 (hs.kept K0.out))
  have HO := Lib.hid (how.kept K0.out)
  have a0 := (R0.out 0 _ rfl).1
  have a1 := (R0.out 1 _ rfl).1
  have la := cell_lt a0
  obtain ⟨E, hE⟩ : ∃ E, smE ms fs = E := ⟨_, rfl⟩
  rw [hE] at HC1
  have HE := Lib.hid hE
  clear hW0 hs how hE
  go_enter Tryz.func77, Tryz.ntmps77
  go_upto_region 1 with (fail)
  rw [← HW.out]
  go_wp2_with fail
  refine HC1.out.mono ?_
  rintro e w1 ⟨rfl, hk1⟩
  have K1 := Lib.hid (K0.out.trans hk1)
  have HO1 := Lib.hid (HO.out.kept hk1)
  clear hk1 a0 a1 la
  by_cases h0 : E = 0
  rotate_left
  · have h1 : (E == 0) = false := by simpa using h0
    have H0 := Lib.hid h0
    clear h0
    go_wp2_with fail
    go_ret
    refine ⟨ret_int ?_, K1.out⟩
    unfold stE
    rw [HE.out]
    unfold fstE
    rw [if_neg H0.out]
  subst h0
  have HD := Lib.hid (rwithin_any day 0 100000)
  obtain ⟨bd, hbd⟩ : ∃ b, inB day 0 100000 = b := ⟨_, rfl⟩
  rw [hbd] at HD
  have HBD := Lib.hid hbd
  clear hbd
  have HST : RowKit.Hid (stE ms fs day ows = fstE [errB bd, errB (ows.all fun o => inB o 1 40)]) := Lib.hid (by unfold stE; rw [HE.out, HBD.out]; rfl)
  cases bd with
  | false =>
    go_wp2_with fail
    refine (HD.out _).mono ?_
    rintro e w2 ⟨rfl, rfl⟩
    go_wp2_with fail
    go_ret
    exact ⟨ret_int (by rw [HST.out]; rfl), K1.out⟩
  | true =>
    go_wp2_with fail
    refine (HD.out _).mono ?_
    rintro e w2 ⟨rfl, rfl⟩
    go_wp2_with fail
    go_loop [8] (fun i => ∃ k : Nat, k ≤ x ∧ i = .int .i64 k ∧ (∀ (j : Nat) (o : Int), j < k → ows[j]? = some o → inB o 1 40 = true)) (fun i => x - (intOf i).toNat)
    case atStart => exact ⟨0, by omega, by first | rfl | go_num, fun j o h => by omega⟩
    case round =>
      obtain ⟨k, hk, rfl, ho⟩ := hrel
      have Ho := Lib.hid ho
      clear ho
      by_cases hlt : k < x
      · obtain ⟨b, off, hG, hc⟩ := HO1.out.2.2.2 (by omega)
        subst hG
        obtain ⟨o, hox⟩ : ∃ o, ows[k]? = some o := ⟨_, List.getElem?_eq_getElem (by rw [HO1.out.1]; exact hlt)⟩
        have q1 := hc k o hox
        have lq := cell_lt q1
        have HX := Lib.hid hox
        have HW1 := Lib.hid (rwithin_any o 1 40)
        obtain ⟨bo, hbo⟩ : ∃ b, inB o 1 40 = b := ⟨_, rfl⟩
        rw [hbo] at HW1
        have HBO := Lib.hid hbo
        clear hc hox hbo
        have hi0 : (0 : Int) ≤ (k : Int) := by omega
        have hi1 : (k : Int) < (x : Int) := by omega
        cases bo with
        | false =>
          go_wp2_with fail
          refine (HW1.out _).mono ?_
          rintro e w2 ⟨rfl, rfl⟩
          go_wp2_with fail
          go_ret
          exact ⟨ret_int (by rw [HST.out, all_nof (p := fun o => inB o 1 40) HX.out HBO.out]; rfl), K1.out⟩
        | true =>
          go_wp2_with fail
          refine (HW1.out _).mono ?_
          rintro e w2 ⟨rfl, rfl⟩
          go_wp2_with fail
          go_round
          case rel => exact ⟨k + 1, by omega, by go_num, step_of (q := fun _ o => inB o 1 40 = true) Ho.out HX.out HBO.out⟩
          case measure => simp [intOf]; omega
      · obtain rfl : k = x := by omega
        go_wp2_with fail
        go_ret
        exact ⟨ret_int (by rw [HST.out, all_of (p := fun o => inB o 1 40) HO1.out.1 Ho.out]; rfl), K1.out⟩
/-- the mark of an owner -/
def mkAt (ms : List Mk) (day o : Int) : Option Mk := ms.find? fun m => decide (m.own = o) && inB day m.frm m.unt
def zero9 : List Value := [.int .i64 0, .int .i64 0, .int .i64 0, .int .u8 0, .int .u8 0, .int .u8 0, .int .u8 0, .int .u8 0, .int .u8 0]
def mk0 : Mk := ⟨0, 0, 0, ⟨0, 0, 0, 0, 0, 0⟩⟩
def set9 (W : World) (b : Nat) (m : Mk) : World := (((((((((W.setCell ⟨b, 0, none⟩ (.int .i64 m.own)).setCell ⟨b, 1, none⟩ (.int .i64 m.frm)).setCell ⟨b, 2, none⟩ (.int .i64 m.unt)).setCell ⟨b, 3, none⟩ (.int .u8 m.sg.s0)).setCell ⟨b, 4, none⟩ (.int .u8 m.sg.s1)).setCell ⟨b, 5, none⟩ (.int .u8 m.sg.s2)).setCell ⟨b, 6, none⟩ (.int .u8 m.sg.s3)).setCell ⟨b, 7, none⟩ (.int .u8 m.sg.s4)).setCell ⟨b, 8, none⟩ (.int .u8 m.sg.s5))
theorem set9_ok {w W : World} {b : Nat} {m : Mk} (h1 : RowC W b zero9) (hk : Kept w W) (hb : w.heap.size ≤ b) : RowC (set9 W b m) b (mkC m) ∧ Kept w (set9 W b m) := by
  unfold set9
  exact ⟨(((((((((h1.put (j := 0) (by simp [zero9]) _).put (j := 1) (by simp [zero9]) _).put (j := 2) (by simp [zero9]) _).put (j := 3) (by simp [zero9]) _).put (j := 4) (by simp [zero9]) _).put (j := 5) (by simp [zero9]) _).put (j := 6) (by simp [zero9]) _).put (j := 7) (by simp [zero9]) _).put (j := 8) (by simp [zero9]) _), (((((((((hk.setCell (p := ⟨b, 0, none⟩) hb _).setCell (p := ⟨b, 1, none⟩) hb _).setCell (p := ⟨b, 2, none⟩) hb _).setCell (p := ⟨b, 3, none⟩) hb _).setCell (p := ⟨b, 4, none⟩) hb _).setCell (p := ⟨b, 5, none⟩) hb _).setCell (p := ⟨b, 6, none⟩) hb _).setCell (p := ⟨b, 7, none⟩) hb _).setCell (p := ⟨b, 8, none⟩) hb _)⟩
theorem find_snoc {α : Type} {p : α → Bool} {xs : List α} {k : Nat} {x : α} (hx : xs[k]? = some x) (hp : p x = true) (ho : ∀ (j : Nat) (y : α), j < k → xs[j]? = some y → p y = false) : xs.find? p = some x := by
  obtain ⟨hk, e⟩ := List.getElem?_eq_some_iff.1 hx
  rw [List.find?_eq_some_iff_getElem]
  exact ⟨hp, k, hk, e, fun j hj => by rw [ho j _ hj (List.getElem?_eq_getElem (by omega))]; rfl⟩
theorem find_none {α : Type} {p : α → Bool} {xs : List α} {n : Nat} (hn : xs.length = n) (ho : ∀ (j : Nat) (y : α), j < n → xs[j]? = some y → p y = false) : xs.find? p = none := by
  rw [List.find?_eq_none]
  intro x hx
  obtain ⟨j, hj⟩ := List.getElem?_of_mem hx
  rw [ho j x (by rw [← hn]; exact (List.getElem?_eq_some_iff.1 hj).1) hj]
  simp
def MkP (w : World) (ms : List Mk) (day o : Int) (e : Ending) (w' : World) : Prop :=
  e = .returned (.tuple #[.agg (mkC ((mkAt ms day o).getD mk0)).toArray, .bool (mkAt ms day o).isSome]) ∧ Kept w w'
set_option maxRecDepth 100000 in
set_option maxHeartbeats 3200000 in
theorem rmark_any (A B : Option Addr) (n c m d : Nat) (ms : List Mk) (fs : List Fd) (day o : Int) (w : World) (hs : SmA w A n c ms B m d fs) :
    Calls Tryz.prog 78 #[.agg #[.slice A n c, .slice B m d], .int .i64 day, .int .i64 o] w (MkP w ms day o) := by
  obtain ⟨W0, hW0⟩ : ∃ W0, W0 = (w.alloc (.cells #[.slice A n c, .slice B m d] 25)).alloc (.cells #[.int .i64 0, .int .i64 0, .int .i64 0, .int .u8 0, .int .u8 0, .int .u8 0, .int .u8 0, .int .u8 0, .int .u8 0] 32) := ⟨_, rfl⟩
  have K0 : RowKit.Hid (Kept w W0) := Lib.hid (by rw [hW0]; exact ((Kept.refl _).alloc _).alloc _)
  have R0 : RowKit.Hid (RowC W0 w.heap.size [.slice A n c, .slice B m d]) := Lib.hid (by rw [hW0]; exact (RowC.new w [.slice A n c, .slice B m d] 25).kept ((Kept.refl _).alloc _))
  have R1 : RowKit.Hid (RowC W0 (w.heap.size + 1) zero9) := Lib.hid (by rw [hW0]; have h := RowC.new (w.alloc (.cells #[.slice A n c, .slice B m d] 25)) zero9 32; rwa [World.size_alloc] at h)
  have HW := Lib.hid hW0
  have HSA := Lib.hid (hs.kept K0.out).1
  have hnl := hs.1.1
  have hnc := hs.1.2.1
  have hcm := hs.1.2.2.1
  have HNL := Lib.hid hnl
  have a0 := (R0.out 0 _ rfl).1
  have a1 := (R0.out 1 _ rfl).1
  have la := cell_lt a0
  clear hW0 hs hnl
  go_enter Tryz.func78, Tryz.ntmps78
  go_upto_region 1 with (fail)
  rw [← HW.out]
  go_wp2_with fail
  go_loopw [8] (fun i wr => ∃ k : Nat, k ≤ n ∧ i = .int .i64 k ∧ (∀ (j : Nat) (x : Mk), j < k → ms[j]? = some x → (decide (x.own = o) && inB day x.frm x.unt) = false) ∧ Kept W0 wr) (fun i _ => n - (intOf i).toNat)
  case atStart => exact ⟨0, by omega, by first | rfl | go_num, fun j x hj => by omega, Kept.refl _⟩
  case round =>
    obtain ⟨k, hk, rfl, ho, hkr⟩ := hrel
    have Ho := Lib.hid ho
    have HKR := Lib.hid hkr
    have r1 := R1.out.kept hkr
    have HR1 := Lib.hid r1
    clear ho hkr a0 a1 la r1
    have a0 := ((R0.out.kept HKR.out) 0 _ rfl).1
    have a1 := ((R0.out.kept HKR.out) 1 _ rfl).1
    have la := cell_lt a0
    by_cases hlt : k < n
    · obtain ⟨x, hx⟩ : ∃ x, ms[k]? = some x := ⟨_, List.getElem?_eq_getElem (by rw [HNL.out]; exact hlt)⟩
      obtain ⟨b, off, hA, ht⟩ := HSA.out.2.2.2.2 (by omega)
      subst hA
      have hcc := fun j v hv => (HKR.out.cells _ _ (cell_lt (ht k x hx j v hv))).trans (ht k x hx j v hv)
      have c0 := hcc 0 _ rfl
      have c1 := hcc 1 _ rfl
      have c2 := hcc 2 _ rfl
      have c3 := hcc 3 _ rfl
      have c4 := hcc 4 _ rfl
      have c5 := hcc 5 _ rfl
      have c6 := hcc 6 _ rfl
      have c7 := hcc 7 _ rfl
      have c8 := hcc 8 _ rfl
      simp only [Nat.add_zero] at c0
      have lc := cell_lt c0
      have Hx := Lib.hid hx
      clear hx ht hcc
      have hi0 : (0 : Int) ≤ (k : Int) := by omega
      have hi1 : (k : Int) < (n : Int) := by omega
      go_upto_region 5 with (fail)
      obtain ⟨Wx, hWx⟩ : ∃ Wx, Wx = wr.alloc (.cells #[.int .i64 x.own, .int .i64 x.frm, .int .i64 x.unt, .int .u8 x.sg.s0, .int .u8 x.sg.s1, .int .u8 x.sg.s2, .int .u8 x.sg.s3, .int .u8 x.sg.s4, .int .u8 x.sg.s5] 32) := ⟨_, rfl⟩
      have kx : Kept wr Wx := by rw [hWx]; exact (Kept.refl _).alloc _
      have RX : RowC Wx wr.heap.size (mkC x) := by rw [hWx]; exact RowC.new wr (mkC x) 32
      rw [← hWx]
      clear hWx a0 a1 la c0 c1 c2 c3 c4 c5 c6 c7 c8 lc
      have HKX := Lib.hid (HKR.out.trans kx)
      have HRX := Lib.hid RX
      have RZ := Lib.hid (HR1.out.kept kx)
      have lw : w.heap.size + 1 < wr.heap.size := cell_lt (HR1.out 0 _ rfl).1
      clear kx RX
      have x0 := (HRX.out 0 _ rfl).1
      have x1 := (HRX.out 1 _ rfl).1
      have x2 := (HRX.out 2 _ rfl).1
      have x3 := (HRX.out 3 _ rfl).1
      have x4 := (HRX.out 4 _ rfl).1
      have x5 := (HRX.out 5 _ rfl).1
      have x6 := (HRX.out 6 _ rfl).1
      have x7 := (HRX.out 7 _ rfl).1
      have x8 := (HRX.out 8 _ rfl).1
      have lx := cell_lt x0
      have HWI := Lib.hid (rwithin_any day x.frm x.unt)
      obtain ⟨bi, hbi⟩ : ∃ b, inB day x.frm x.unt = b := ⟨_, rfl⟩
      rw [hbi] at HWI
      have HBI := Lib.hid hbi
      clear hbi
      by_cases ho : x.own = o
      rotate_left
      · have ho1 : (x.own == o) = false := by simpa using ho
        have HO := Lib.hid ho
        clear ho
        go_wp2_with fail
        go_roundw
        case rel => exact ⟨k + 1, by omega, by go_num, step_of (q := fun _ x => (decide (x.own = o) && inB day x.frm x.unt) = false) Ho.out Hx.out (by simp [HO.out]), HKX.out⟩
        case measure => simp [intOf]; omega
      · have ho1 : (x.own == o) = true := by simpa using ho
        have HO := Lib.hid ho
        clear ho
        cases bi with
        | false =>
          go_wp2_with fail
          refine (HWI.out _).mono ?_
          rintro e w2 ⟨rfl, rfl⟩
          go_wp2_with fail
          go_roundw
          case rel => exact ⟨k + 1, by omega, by go_num, step_of (q := fun _ x => (decide (x.own = o) && inB day x.frm x.unt) = false) Ho.out Hx.out (by rw [HBI.out, Bool.and_false]), HKX.out⟩
          case measure => simp [intOf]; omega
        | true =>
          have HF : RowKit.Hid (mkAt ms day o = some x) := Lib.hid (find_snoc Hx.out (by rw [HBI.out, HO.out]; simp) Ho.out)
          have HS9 : RowKit.Hid (RowC (set9 Wx (w.heap.size + 1) x) (w.heap.size + 1) (mkC x) ∧ Kept w (set9 Wx (w.heap.size + 1) x)) := Lib.hid (set9_ok RZ.out (K0.out.trans HKX.out) (by omega))
          have z0 := (RZ.out 0 _ rfl).1
          have f0 := (RZ.out 0 _ rfl).2
          have z1 := (RZ.out 1 _ rfl).1
          have f1 := (RZ.out 1 _ rfl).2
          have z2 := (RZ.out 2 _ rfl).1
          have f2 := (RZ.out 2 _ rfl).2
          have z3 := (RZ.out 3 _ rfl).1
          have f3 := (RZ.out 3 _ rfl).2
          have z4 := (RZ.out 4 _ rfl).1
          have f4 := (RZ.out 4 _ rfl).2
          have z5 := (RZ.out 5 _ rfl).1
          have f5 := (RZ.out 5 _ rfl).2
          have z6 := (RZ.out 6 _ rfl).1
          have f6 := (RZ.out 6 _ rfl).2
          have z7 := (RZ.out 7 _ rfl).1
          have f7 := (RZ.out 7 _ rfl).2
          have z8 := (RZ.out 8 _ rfl).1
          have f8 := (RZ.out 8 _ rfl).2
          have lz := cell_lt z0
          go_wp2_with fail
          refine (HWI.out _).mono ?_
          rintro e w2 ⟨rfl, rfl⟩
          go_wp2_with fail
          obtain ⟨hs9, hk9⟩ := HS9.out
          unfold set9 at hs9 hk9
          have e0 := (hs9 0 _ rfl).1
          have e1 := (hs9 1 _ rfl).1
          have e2 := (hs9 2 _ rfl).1
          have e3 := (hs9 3 _ rfl).1
          have e4 := (hs9 4 _ rfl).1
          have e5 := (hs9 5 _ rfl).1
          have e6 := (hs9 6 _ rfl).1
          have e7 := (hs9 7 _ rfl).1
          have e8 := (hs9 8 _ rfl).1
          refine bodyPost_ret (v := .tuple #[.agg #[.int .i64 x.own, .int .i64 x.frm, .int .i64 x.unt, .int .u8 x.sg.s0, .int .u8 x.sg.s1, .int .u8 x.sg.s2, .int .u8 x.sg.s3, .int .u8 x.sg.s4, .int .u8 x.sg.s5], .bool true]) (by simp [results, Tryz.results78, go_sem, e0, e1, e2, e3, e4, e5, e6, e7, e8]) rfl ⟨?_, hk9⟩
          rw [HF.out]
          rfl
    · obtain rfl : k = n := by omega
      have HF : RowKit.Hid (mkAt ms day o = none) := Lib.hid (find_none HNL.out Ho.out)
      have HS9 : RowKit.Hid (RowC (set9 wr (w.heap.size + 1) mk0) (w.heap.size + 1) (mkC mk0) ∧ Kept w (set9 wr (w.heap.size + 1) mk0)) := Lib.hid (set9_ok HR1.out (K0.out.trans HKR.out) (by omega))
      have z0 := (HR1.out 0 _ rfl).1
      have f0 := (HR1.out 0 _ rfl).2
      have z1 := (HR1.out 1 _ rfl).1
      have f1 := (HR1.out 1 _ rfl).2
      have z2 := (HR1.out 2 _ rfl).1
      have f2 := (HR1.out 2 _ rfl).2
      have z3 := (HR1.out 3 _ rfl).1
      have f3 := (HR1.out 3 _ rfl).2
      have z4 := (HR1.out 4 _ rfl).1
      have f4 := (HR1.out 4 _ rfl).2
      have z5 := (HR1.out 5 _ rfl).1
      have f5 := (HR1.out 5 _ rfl).2
      have z6 := (HR1.out 6 _ rfl).1
      have f6 := (HR1.out 6 _ rfl).2
      have z7 := (HR1.out 7 _ rfl).1
      have f7 := (HR1.out 7 _ rfl).2
      have z8 := (HR1.out 8 _ rfl).1
      have f8 := (HR1.out 8 _ rfl).2
      have lz := cell_lt z0
      go_wp2_with fail
      obtain ⟨hs9, hk9⟩ := HS9.out
      unfold set9 mk0 at hs9 hk9
      have e0 := (hs9 0 _ rfl).1
      have e1 := (hs9 1 _ rfl).1
      have e2 := (hs9 2 _ rfl).1
      have e3 := (hs9 3 _ rfl).1
      have e4 := (hs9 4 _ rfl).1
      have e5 := (hs9 5 _ rfl).1
      have e6 := (hs9 6 _ rfl).1
      have e7 := (hs9 7 _ rfl).1
      have e8 := (hs9 8 _ rfl).1
      refine bodyPost_ret (v := .tuple #[.agg #[.int .i64 0, .int .i64 0, .int .i64 0, .int .u8 0, .int .u8 0, .int .u8 0, .int .u8 0, .int .u8 0, .int .u8 0], .bool false]) (by simp [results, Tryz.results78, go_sem, e0, e1, e2, e3, e4, e5, e6, e7, e8]) rfl ⟨?_, hk9⟩
      rw [HF.out]
      rfl
end Go.Proofs.YtologmoanaccpaaGreatDoor
