/-
  claims: whether all hold, whether an owner comes twice
-/
import Derived.Test.YtologmoanaccpaaGreatDoorNx
namespace Go.Proofs.YtologmoanaccpaaGreatDoor
set_option linter.all false
open Go.RowKit Go.Shelf

def claimB (x : Cl) : Bool := inB x.own 1 40 && inB x.num 0 60
set_option maxRecDepth 100000 in
theorem isClaim_any (x : Cl) (w : World) : Calls Tryz.prog 180 #[.agg #[.int .i64 x.own, .int .i64 x.num]] w fun e w' => e = .returned (.bool (claimB x)) ∧ Kept w w' := by
  obtain ⟨W0, hW0⟩ : ∃ W0, W0 = w.alloc (.cells #[.int .i64 x.own, .int .i64 x.num] 94) := ⟨_, rfl⟩
  have K0 : RowKit.Hid (Kept w W0) := Lib.hid (by rw [hW0]; exact (Kept.refl _).alloc _)
  have R0 : RowKit.Hid (RowC W0 w.heap.size (clC x)) := Lib.hid (by rw [hW0]; exact RowC.new w (clC x) 94)
  have HW := Lib.hid hW0
  obtain ⟨b1, hb1⟩ : ∃ b, inB x.own 1 40 = b := ⟨_, rfl⟩
  obtain ⟨b2, hb2⟩ : ∃ b, inB x.num 0 60 = b := ⟨_, rfl⟩
  have HB : RowKit.Hid (claimB x = (b1 && b2)) := Lib.hid (by unfold claimB; rw [hb1, hb2])
  have H1 : RowKit.Hid (∀ W, Calls Tryz.prog 79 #[.int .i64 x.own] W fun e w' => e = .returned (.bool b1) ∧ W = w') := Lib.hid (fun W => by rw [← hb1]; exact isOwner_any _ W)
  have H2 : RowKit.Hid (∀ W, Calls Tryz.prog 147 #[.int .i64 x.num, .int .i64 0, .int .i64 60] W fun e w' => e = .returned (.bool b2) ∧ W = w') := Lib.hid (fun W => by rw [← hb2]; exact within_any _ _ _ W)
  have a0 := (R0.out 0 _ rfl).1
  have a1 := (R0.out 1 _ rfl).1
  have la := cell_lt a0
  clear hW0 hb1 hb2
  cases b1
  · go_enter Tryz.func180, Tryz.ntmps180
    go_upto_region 1 with (fail)
    rw [← HW.out]
    go_wp2_with fail
    refine (H1.out _).mono ?_
    rintro e w1 ⟨rfl, rfl⟩
    go_wp2
    go_ret
    exact ⟨ret_bool (by rw [HB.out]; rfl), K0.out⟩
  · go_enter Tryz.func180, Tryz.ntmps180
    go_upto_region 1 with (fail)
    rw [← HW.out]
    go_wp2_with fail
    refine (H1.out _).mono ?_
    rintro e w1 ⟨rfl, rfl⟩
    go_wp2_with fail
    refine (H2.out _).mono ?_
    rintro e w1 ⟨rfl, rfl⟩
    go_wp2
    go_ret
    exact ⟨ret_bool (by rw [HB.out]; rfl), K0.out⟩
set_option maxRecDepth 100000 in
theorem every_cl (g : Nat) (lb : Array Value) (p : Cl → Bool) (eg : ∀ args w, (callFunc g args).run Tryz.prog w = .ok (.enter g args) w) (A : Option Addr) (n c : Nat) (xs : List Cl) (w : World) (hs : SlA clC 2 Cl.ok w A n c xs) (hp : PredG clC Cl.ok g lb p w) :
    Calls Tryz.prog 179 #[.slice A n c, .func (.func g) #[] lb] w fun e w' => e = .returned (.bool (xs.all p)) ∧ Kept w w' := by
  have HS := Lib.hid hs
  have HP := Lib.hid hp
  have hnc := hs.2.1
  have hcm := hs.2.2.1
  clear hs hp
  go_enter Tryz.func179, Tryz.ntmps179
  go_wp2_with fail
  go_loopw [9] (fun i wr => ∃ k : Nat, k ≤ n ∧ i = .int .i64 k ∧ (∀ j x, j < k → xs[j]? = some x → p x = true) ∧ Kept w wr) (fun i _ => n - (intOf i).toNat)
  case atStart => exact ⟨0, by omega, by first | rfl | go_num, fun j x hj => by omega, Kept.refl _⟩
  case round =>
    obtain ⟨k, hk, rfl, ho, hkr⟩ := hrel
    have Ho := Lib.hid ho
    have HKR := Lib.hid hkr
    clear ho hkr
    by_cases hlt : k < n
    · obtain ⟨x, hx⟩ : ∃ x, xs[k]? = some x := ⟨_, List.getElem?_eq_getElem (by rw [HS.out.1]; exact hlt)⟩
      have hok := Lib.hid (HS.out.2.2.2.1 x (List.mem_of_getElem? hx))
      obtain ⟨b, off, hA, ht⟩ := HS.out.2.2.2.2 (by omega)
      subst hA
      have hcc := fun j v hv => (HKR.out.cells _ _ (cell_lt (ht k x hx j v hv))).trans (ht k x hx j v hv)
      have c0 := hcc 0 _ rfl
      have c1 := hcc 1 _ rfl
      simp only [Nat.add_zero] at c0
      have Hx := Lib.hid hx
      clear hx ht hcc
      obtain ⟨q, hq⟩ : ∃ q, p x = q := ⟨_, rfl⟩
      have HQ := Lib.hid hq
      have HC : RowKit.Hid (∀ W, Kept w W → Calls Tryz.prog g (#[.agg (clC x).toArray] ++ lb) W fun e w' => e = .returned (.bool q) ∧ Kept W w') := Lib.hid (fun W hW => by rw [← hq]; exact HP.out W x hok.out hW)
      unfold clC at HC
      clear hq
      go_wp2_with fail
      refine (HC.out _ (HKR.out.alloc _)).mono ?_
      rintro e w1 ⟨rfl, hk1⟩
      have HK1 := Lib.hid ((HKR.out.alloc _).trans hk1)
      clear hk1
      cases q
      · go_wp2
        go_ret
        exact ⟨ret_bool (all_false Hx.out HQ.out).symm, HK1.out⟩
      · go_wp2
        go_roundw
        case rel =>
          refine ⟨k + 1, by omega, by go_num, fun j y hj hy => ?_, HK1.out⟩
          rcases Nat.lt_or_eq_of_le (Nat.le_of_lt_succ hj) with h | h
          · exact Ho.out j y h hy
          · subst h
            have := Hx.out
            rw [hy] at this
            cases this
            exact HQ.out
        case measure => simp [intOf]; omega
    · obtain rfl : k = n := by omega
      go_wp2
      go_ret
      exact ⟨ret_bool (all_true HS.out.1 Ho.out).symm, HKR.out⟩

theorem e81 : ∀ args w, (callFunc 180 args).run Tryz.prog w = .ok (.enter 180 args) w := enters_of Tryz.func180 (by kernel_rfl) rfl
theorem pred81 (w : World) : PredG clC Cl.ok 180 #[] claimB w := fun W x hx _ => isClaim_any x W
set_option maxRecDepth 100000 in
set_option maxHeartbeats 3200000 in
theorem repeats_in (A : Option Addr) (n c : Nat) (xs : List Int) (w : World) (hs : SlA inC 1 i64 w A n c xs) :
    Calls Tryz.prog 181 #[.slice A n c] w fun e w' => e = .returned (.bool (repB xs)) ∧ Kept w w' := by
  have HS := Lib.hid hs
  have hnc := hs.2.1
  have hcm := hs.2.2.1
  have hmm := @run_makeMap Tryz.prog
  have m0 := Lib.hid (MapG.new k3 w)
  clear hs
  go_enter Tryz.func181, Tryz.ntmps181
  go_wp2_with fail
  go_loopw [9] (fun i wr => ∃ k : Nat, k ≤ n ∧ i = .int .i64 k ∧ (xs.take k).Nodup ∧ MapG k3 wr w.heap.size (seenF (xs.take k)) ∧ Kept w wr) (fun i _ => n - (intOf i).toNat)
  case atStart => exact ⟨0, by omega, by first | rfl | go_num, by simp, MapG.congr k3 m0.out (fun k => by simp [seenF]), (Kept.refl _).alloc _⟩
  case round =>
    obtain ⟨k, hk, rfl, ho, hmap, hkr⟩ := hrel
    have Ho := Lib.hid ho
    have HKR := Lib.hid hkr
    have hsz := hkr.size
    clear ho hkr
    by_cases hlt : k < n
    · obtain ⟨x, hx⟩ : ∃ x, xs[k]? = some x := ⟨_, List.getElem?_eq_getElem (by rw [HS.out.1]; exact hlt)⟩
      obtain ⟨b, off, hA, ht⟩ := HS.out.2.2.2.2 (by omega)
      subst hA
      have hcc := fun j v hv => (HKR.out.cells _ _ (cell_lt (ht k x hx j v hv))).trans (ht k x hx j v hv)
      have c0 := hcc 0 _ rfl
      simp only [Nat.add_zero, Nat.mul_one] at c0
      have Hx := Lib.hid hx
      have m2 := hmap
      clear hx ht hcc hmap
      by_cases hin : x ∈ xs.take k
      · have r2 := run_lookup_some k3 (T := 248) Tryz.underlying248 m2 (k := x) (v := .bool true) (by unfold seenF; rw [if_pos hin])
        simp only [k3, intKeys] at r2
        have HIN := Lib.hid hin
        clear hin m2
        go_wp2
        go_ret
        exact ⟨ret_bool (rep_yes Hx.out HIN.out).symm, HKR.out⟩
      · have r2 := run_lookup_none k3 (T := 248) Tryz.underlying248 (z := .bool false) zeroValue4 m2 (k := x) (by unfold seenF; rw [if_neg hin])
        obtain ⟨w2, r3, m3, b3⟩ := run_mapUpdate_is k3 (T := 248) Tryz.underlying248 m2 x (.bool true)
        have M3 := Lib.hid (MapG.congr k3 m3 (seenF_snoc (xs.take k) x))
        have K3 := Lib.hid (Kept.only HKR.out b3 (Nat.le_refl _))
        simp only [k3, intKeys] at r2 r3
        have HIN := Lib.hid hin
        clear hin m2 m3 b3
        go_wp2
        go_roundw
        case rel => exact ⟨k + 1, by omega, by go_num, by rw [take_snoc' Hx.out]; exact nodup_snoc Ho.out HIN.out, by rw [take_snoc' Hx.out]; exact M3.out, K3.out⟩
        case measure => simp [intOf]; omega
    · obtain rfl : k = n := by omega
      have hT : xs.take k = xs := List.take_of_length_le (by rw [HS.out.1]; exact Nat.le_refl _)
      have ho := Ho.out
      rw [hT] at ho
      have HO := Lib.hid ho
      clear hT ho
      go_wp2
      go_ret
      exact ⟨ret_bool (rep_no HO.out).symm, HKR.out⟩
end Go.Proofs.YtologmoanaccpaaGreatDoor
