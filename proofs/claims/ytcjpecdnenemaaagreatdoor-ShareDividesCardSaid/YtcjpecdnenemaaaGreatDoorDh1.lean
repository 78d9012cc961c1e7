/- the reference's SameFracs 74; its Divide 71 where it refuses -/
import Derived.Test.YtcjpecdnenemaaaGreatDoorPt1
import Derived.Test.YtcjpecdnenemaaaGreatDoorSm1
import Derived.Test.YtcjpecdnenemaaaGreatDoorHr3
import Derived.BigQuiet
import Derived.Deep.DeepCutAuto
import Derived.Deep.RegionHeld3
namespace Go.Proofs.YtcjpecdnenemaaaGreatDoor
set_option linter.all false
open Go.RowKit Go.Shelf

set_option maxRecDepth 100000 in
set_option maxHeartbeats 3200000 in
theorem sameFracs_any (A B : Option Addr) (n c d : Nat) (es : List (Int × Int)) (w : World) (h1 : FracsA w A n c es) (h2 : FracsA w B n d es) :
    Calls Tryz.prog 74 #[.slice A n c, .slice B n d] w fun e w' => e = .returned (.bool true) ∧ Kept w w' := by
  have H1 := Lib.hid h1
  have H2 := Lib.hid h2
  have hnc := h1.2.1
  have hcm := h1.2.2.1
  have hnd := h2.2.1
  have hdm := h2.2.2.1
  clear h1 h2
  have hnn : ((n : Int) != (n : Int)) = false := by simp
  go_enter Tryz.func74, Tryz.ntmps74
  go_wp2_with fail
  go_loopw [5] (fun i wr => ∃ k : Nat, k ≤ n ∧ i = .int .i64 k ∧ Kept w wr) (fun i _ => n - (intOf i).toNat)
  case atStart => exact ⟨0, by omega, by first | rfl | go_num, Kept.refl _⟩
  case round =>
    obtain ⟨k, hk, rfl, hkr⟩ := hrel
    have HKR := Lib.hid hkr
    clear hkr
    by_cases hlt : k < n
    · obtain ⟨b, off, hA, hcc⟩ := H1.out.2.2.2 (by omega)
      obtain ⟨b2, off2, hB, hcc2⟩ := H2.out.2.2.2 (by omega)
      subst hA
      subst hB
      have hxl : k < es.length := by rw [H1.out.1]; exact hlt
      obtain ⟨x, hx⟩ : ∃ x, es[k]? = some x := ⟨es[k]'hxl, List.getElem?_eq_getElem hxl⟩
      have q0 := (HKR.out.cells _ _ (cell_lt (hcc k x hx).1)).trans (hcc k x hx).1
      have q1 := (HKR.out.cells _ _ (cell_lt (hcc k x hx).2)).trans (hcc k x hx).2
      have p0 := (HKR.out.cells _ _ (cell_lt (hcc2 k x hx).1)).trans (hcc2 k x hx).1
      have p1 := (HKR.out.cells _ _ (cell_lt (hcc2 k x hx).2)).trans (hcc2 k x hx).2
      have i0 : (0 : Int) ≤ (k : Int) := by omega
      have i1 : (k : Int) < (n : Int) := by omega
      have it : (k : Int).toNat = k := by omega
      clear hcc hcc2 hx
      go_upto_region 6 with (fail)
      go_cut [25] (fun s25 wx => s25 = .bool false ∧ Kept wr wx)
      case first =>
        go_quiet (fail)
        go_wp2
        go_meet
        exact ⟨by first | rfl | (simp; done), by first | exact Kept.refl _ | exact (Kept.refl _).drewN _ | exact (Kept.refl _).drew⟩
      obtain ⟨rfl, kx⟩ := hcut
      have KX := Lib.hid (HKR.out.trans kx)
      clear kx q0 q1 p0 p1
      go_wp2
      go_roundw
      case rel => exact ⟨k + 1, by omega, by go_num, KX.out⟩
      case measure => simp [intOf]; omega
    · obtain rfl : k = n := by omega
      go_wp2
      go_ret
      exact ⟨rfl, HKR.out⟩

set_option maxRecDepth 100000 in
set_option maxHeartbeats 3200000 in
theorem rdivide_err (A : Option Addr) (n c : Nat) (zs : List Int) (sn sd E : Int) (w : World) (h : IntsA w A n c zs) (he : (sumOfS zs (vld sn sd && decide (0 ≤ sn))).2 = E) (hE : E ≠ 0) :
    Calls Tryz.prog 71 #[.agg #[.int .i64 sn, .int .i64 sd], .slice A n c] w fun e w' => e = .returned (.tuple #[.slice none 0 0, .int .i64 E]) ∧ Kept w w' := by
  obtain ⟨W0, hW0⟩ : ∃ W0, W0 = w.alloc (.cells #[.int .i64 sn, .int .i64 sd] 23) := ⟨_, rfl⟩
  have K0 : RowKit.Hid (Kept w W0) := Lib.hid (by rw [hW0]; exact (Kept.refl _).alloc _)
  have R0 : RowKit.Hid (RowC W0 w.heap.size [.int .i64 sn, .int .i64 sd]) := Lib.hid (by rw [hW0]; exact RowC.new w [.int .i64 sn, .int .i64 sd] 23)
  have HW := Lib.hid hW0
  have HI := Lib.hid (h.kept K0.out)
  have a0 := (R0.out 0 _ rfl).1
  have a1 := (R0.out 1 _ rfl).1
  have la := cell_lt a0
  clear hW0 h
  have hE1 : (E != 0) = true := by simpa using hE
  clear hE
  have C135 : RowKit.Hid (∀ W, Kept W0 W → Calls Tryz.prog 135 #[.slice A n c, .bool (vld sn sd && decide (0 ≤ sn))] W fun e w' => e = .returned (.int .i64 E) ∧ Kept W w') := Lib.hid (fun W hW => by rw [← he]; exact parted_any A n c zs _ W (HI.out.kept hW))
  clear he
  obtain ⟨vb, hvb⟩ : ∃ vb, vld sn sd = vb := ⟨_, rfl⟩
  have HV1 : RowKit.Hid (∀ W, Calls Tryz.prog 91 #[.agg #[.int .i64 sn, .int .i64 sd]] W fun e w' => e = .returned (.bool vb) ∧ Kept W w') := Lib.hid (fun W => by rw [← hvb]; exact rvalid_any sn sd W)
  rw [hvb] at C135
  clear hvb
  cases vb
  · rw [Bool.false_and] at C135
    go_enter Tryz.func71, Tryz.ntmps71
    go_upto_region 1 with (fail)
    rw [← HW.out]
    go_wp2_with fail
    refine (HV1.out _).mono ?_
    rintro e w1 ⟨rfl, hk1⟩
    have K1 := Lib.hid hk1
    clear hk1 a0 a1 la
    go_wp2_with fail
    refine (C135.out _ K1.out).mono ?_
    rintro e w2 ⟨rfl, hk2⟩
    go_wp2
    go_ret2
    exact ⟨rfl, K0.out.trans (K1.out.trans hk2)⟩
  · rw [Bool.true_and] at C135
    obtain ⟨db, hdb⟩ : ∃ db, decide (0 ≤ sn) = db := ⟨_, rfl⟩
    rw [hdb] at C135
    go_enter Tryz.func71, Tryz.ntmps71
    go_upto_region 1 with (fail)
    rw [← HW.out]
    go_wp2_with fail
    refine (HV1.out _).mono ?_
    rintro e w1 ⟨rfl, hk1⟩
    have K1 := Lib.hid hk1
    have b0 := (R0.out.kept hk1 0 _ rfl).1
    have lb := cell_lt b0
    clear hk1 a0 a1 la
    go_wp2_with fail
    refine (C135.out _ K1.out).mono ?_
    rintro e w2 ⟨rfl, hk2⟩
    go_wp2
    go_ret2
    exact ⟨rfl, K0.out.trans (K1.out.trans hk2)⟩
end Go.Proofs.YtcjpecdnenemaaaGreatDoor
