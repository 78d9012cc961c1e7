/-
  inForce, of the reference.
-/
import Derived.Test.YtcjpecdnenemaaaGreatDoorRn5
namespace Go.Proofs.YtcjpecdnenemaaaGreatDoor
set_option linter.all false
open Go.RowKit Go.Shelf

def rst (xs : List Eqv) (sort : ByteArray) (day known : Int) (b x : Eqv) : Eqv :=
  if rcntB xs known x = true ∧ fitB sort day x = true ∧ (b.id = 0 ∨ b.frm < x.frm ∨ (x.frm = b.frm ∧ b.id < x.id)) then x else b
def rinS (xs : List Eqv) (sort : ByteArray) (day known : Int) (k : Nat) : Eqv := (xs.take k).foldl (rst xs sort day known) zeroE
theorem rinS_snoc {xs : List Eqv} {sort : ByteArray} {day known : Int} {k : Nat} {x : Eqv} (h : xs[k]? = some x) : rinS xs sort day known (k + 1) = rst xs sort day known (rinS xs sort day known k) x := by
  unfold rinS
  rw [take_snoc' h, List.foldl_append]; rfl
def rfoV (b : Eqv) : Value := .tuple #[eqV b, .bool (decide (0 < b.id))]
set_option maxRecDepth 100000 in
set_option maxHeartbeats 3200000 in
theorem rinForce_any (A : Option Addr) (n c : Nat) (xs : List Eqv) (sort : ByteArray) (day known : Int) (w : World) (hT : TabA w A n c xs) :
    Calls Tryz.prog 116 #[.slice A n c, .string sort, .int .i64 day, .int .i64 known] w fun e w' => e = .returned (rfoV (rinS xs sort day known xs.length)) ∧ Kept w w' := by
  have hlen := hT.1
  have hnc := hT.2.1
  have hcm := hT.2.2.1
  have HT := Lib.hid hT
  obtain ⟨W0, hW0⟩ : ∃ W0 : World, W0 = (w.alloc (boxX zeroE)).alloc (boxX zeroE) := ⟨_, rfl⟩
  have K0 : Kept w W0 := by rw [hW0]; exact ((Kept.refl w).alloc _).alloc _
  have R8 : RowC W0 w.heap.size (eqCells zeroE) := by rw [hW0]; exact (RowC.new w (eqCells zeroE) 37).kept ((Kept.refl _).alloc _)
  have R10 : RowC W0 (w.heap.size + 1) (eqCells zeroE) := by
    have := RowC.new (w.alloc (boxX zeroE)) (eqCells zeroE) 37
    rw [World.size_alloc] at this
    rw [hW0]; exact this
  simp only [boxX, zeroE] at hW0
  have HW0 := Lib.hid hW0
  have HK0 := Lib.hid K0
  have HR8 := Lib.hid R8
  have HR10 := Lib.hid R10
  clear hT hW0 K0 R8 R10
  go_enter Tryz.func116, Tryz.ntmps116
  go_wp2_with fail
  rw [← HW0.out]
  go_loopw [11] (fun i wr => ∃ k : Nat, k ≤ n ∧ i = .int .i64 k ∧ RowC wr w.heap.size (eqCells zeroE) ∧ RowC wr (w.heap.size + 1) (eqCells (rinS xs sort day known k)) ∧ Kept w wr) (fun i _ => n - (intOf i).toNat)
  case atStart => exact ⟨0, by omega, by first | rfl | go_num, HR8.out, HR10.out, HK0.out⟩
  case round =>
    obtain ⟨k, hk, rfl, hr8, hr10, hkr⟩ := hrel
    have kz : (0 : Int) ≤ (k : Int) := by omega
    by_cases hkn : k < n
    · obtain ⟨x, hx⟩ : ∃ x, xs[k]? = some x := ⟨xs[k]'(by omega), List.getElem?_eq_getElem (by omega)⟩
      have HS := Lib.hid (rinS_snoc (sort := sort) (day := day) (known := known) hx)
      obtain ⟨b, hb⟩ : ∃ b, rinS xs sort day known k = b := ⟨_, rfl⟩
      rw [hb] at HS hr10
      obtain ⟨bb, of, hB, hcc⟩ := HT.out.2.2.2.2 (by omega)
      subst hB
      obtain ⟨c0, c1, c2, c3, c4, c5, c6⟩ := (hcc k x hx).kept hkr
      have k1 : (k : Int) < (n : Int) := by omega
      have kt : (k : Int).toNat = k := by omega
      have HKr := Lib.hid hkr
      have H8 := Lib.hid hr8
      have H10 := Lib.hid hr10
      have C := Lib.hid (rcounts_any (some ⟨bb, of, none⟩) n c xs x k known hx _ (HT.out.kept (hkr.alloc (boxX x))))
      unfold boxX at C
      clear hb hx hcc hr8 hr10 hkr
      go_wp2_with fail
      refine C.out.mono ?_
      rintro e wc ⟨rfl, hkc⟩
      have KC := Lib.hid ((HKr.out.alloc _).trans hkc)
      have S8 := Lib.hid ((H8.out.kept ((Kept.refl wr).alloc _)).kept hkc)
      have S10 := Lib.hid ((H10.out.kept ((Kept.refl wr).alloc _)).kept hkc)
      have X := Lib.hid ((RowC.new wr (eqCells x) 37).kept hkc)
      have x0 := (X.out 0 _ rfl).1
      have x1 := (X.out 1 _ rfl).1
      have x3 := (X.out 3 _ rfl).1
      have t0 := (S10.out 0 _ rfl).1
      have t1 := (S10.out 1 _ rfl).1
      clear c0 c1 c2 c3 c4 c5 c6 hkc
      rcases hc : rcntB xs known x with _ | _
      · have HB := Lib.hid (show rst xs sort day known b x = b by unfold rst; rw [if_neg (by rw [hc]; simp)])
        go_wp2
        go_roundw
        case rel => exact ⟨k + 1, by omega, by go_num, S8.out, by rw [HS.out, HB.out]; exact S10.out, KC.out⟩
        case measure => simp [intOf]; omega
      · rcases hs : (x.sort.toList == sort.toList) with _ | _
        · have hs2 : (x.sort.toList != sort.toList) = true := by simp [bne, hs]
          have HB := Lib.hid (show rst xs sort day known b x = b by unfold rst; rw [if_neg (by unfold fitB; rw [hs]; simp)])
          go_wp2
          go_roundw
          case rel => exact ⟨k + 1, by omega, by go_num, S8.out, by rw [HS.out, HB.out]; exact S10.out, KC.out⟩
          case measure => simp [intOf]; omega
        · have hs2 : (x.sort.toList != sort.toList) = false := by simp [bne, hs]
          by_cases hd : day < x.frm
          · have HB := Lib.hid (show rst xs sort day known b x = b by unfold rst; rw [if_neg (by unfold fitB; simp; omega)])
            go_wp2
            go_roundw
            case rel => exact ⟨k + 1, by omega, by go_num, S8.out, by rw [HS.out, HB.out]; exact S10.out, KC.out⟩
            case measure => simp [intOf]; omega
          · have HF := Lib.hid (show fitB sort day x = true by unfold fitB; rw [hs]; simp; omega)
            have HC := Lib.hid hc
            rcases b0 : (b.id == 0) with _ | _
            · have HI := Lib.hid (show ¬ b.id = 0 by simpa using b0)
              by_cases f1 : b.frm < x.frm
              · have HB := Lib.hid (show rst xs sort day known b x = x by unfold rst; rw [if_pos ⟨HC.out, HF.out, .inr (.inl f1)⟩])
                have z0 := (S10.out 0 _ rfl).2
                have z1 := (S10.out 1 _ rfl).2
                have x2 := (X.out 2 _ rfl).1
                have t2 := (S10.out 2 _ rfl).1
                have z2 := (S10.out 2 _ rfl).2
                have t3 := (S10.out 3 _ rfl).1
                have z3 := (S10.out 3 _ rfl).2
                have x4 := (X.out 4 _ rfl).1
                have t4 := (S10.out 4 _ rfl).1
                have z4 := (S10.out 4 _ rfl).2
                have x5 := (X.out 5 _ rfl).1
                have t5 := (S10.out 5 _ rfl).1
                have z5 := (S10.out 5 _ rfl).2
                have x6 := (X.out 6 _ rfl).1
                have t6 := (S10.out 6 _ rfl).1
                have z6 := (S10.out 6 _ rfl).2
                go_wp2
                go_roundw
                case rel => exact ⟨k + 1, by omega, by go_num, (show RowC (put7 wc (w.heap.size + 1) x) _ _ from put7_far x S8.out (by omega)), by rw [HS.out, HB.out]; exact (show RowC (put7 wc (w.heap.size + 1) x) _ _ from put7_same x S10.out), (show Kept w (put7 wc (w.heap.size + 1) x) from put7_below (b := w.heap.size + 1) x KC.out.below (by omega))⟩
                case measure => simp [intOf]; omega
              · rcases f2 : (x.frm == b.frm) with _ | _
                · have HE := Lib.hid (show ¬ x.frm = b.frm by simpa using f2)
                  have HB := Lib.hid (show rst xs sort day known b x = b by unfold rst; rw [if_neg (fun h => h.2.2.elim HI.out (fun h => h.elim f1 (fun h => HE.out h.1)))])
                  go_wp2
                  go_roundw
                  case rel => exact ⟨k + 1, by omega, by go_num, S8.out, by rw [HS.out, HB.out]; exact S10.out, KC.out⟩
                  case measure => simp [intOf]; omega
                · have HE := Lib.hid (show x.frm = b.frm by simpa using f2)
                  by_cases f3 : b.id < x.id
                  · have HB := Lib.hid (show rst xs sort day known b x = x by unfold rst; rw [if_pos ⟨HC.out, HF.out, .inr (.inr ⟨HE.out, f3⟩)⟩])
                    have z0 := (S10.out 0 _ rfl).2
                    have z1 := (S10.out 1 _ rfl).2
                    have x2 := (X.out 2 _ rfl).1
                    have t2 := (S10.out 2 _ rfl).1
                    have z2 := (S10.out 2 _ rfl).2
                    have t3 := (S10.out 3 _ rfl).1
                    have z3 := (S10.out 3 _ rfl).2
                    have x4 := (X.out 4 _ rfl).1
                    have t4 := (S10.out 4 _ rfl).1
                    have z4 := (S10.out 4 _ rfl).2
                    have x5 := (X.out 5 _ rfl).1
                    have t5 := (S10.out 5 _ rfl).1
                    have z5 := (S10.out 5 _ rfl).2
                    have x6 := (X.out 6 _ rfl).1
                    have t6 := (S10.out 6 _ rfl).1
                    have z6 := (S10.out 6 _ rfl).2
                    go_wp2
                    go_roundw
                    case rel => exact ⟨k + 1, by omega, by go_num, (show RowC (put7 wc (w.heap.size + 1) x) _ _ from put7_far x S8.out (by omega)), by rw [HS.out, HB.out]; exact (show RowC (put7 wc (w.heap.size + 1) x) _ _ from put7_same x S10.out), (show Kept w (put7 wc (w.heap.size + 1) x) from put7_below (b := w.heap.size + 1) x KC.out.below (by omega))⟩
                    case measure => simp [intOf]; omega
                  · have HB := Lib.hid (show rst xs sort day known b x = b by unfold rst; rw [if_neg (fun h => h.2.2.elim HI.out (fun h => h.elim f1 (fun h => f3 h.2)))])
                    go_wp2
                    go_roundw
                    case rel => exact ⟨k + 1, by omega, by go_num, S8.out, by rw [HS.out, HB.out]; exact S10.out, KC.out⟩
                    case measure => simp [intOf]; omega
            · have HI := Lib.hid (show b.id = 0 by simpa using b0)
              have HB := Lib.hid (show rst xs sort day known b x = x by unfold rst; rw [if_pos ⟨HC.out, HF.out, .inl HI.out⟩])
              have z0 := (S10.out 0 _ rfl).2
              have z1 := (S10.out 1 _ rfl).2
              have x2 := (X.out 2 _ rfl).1
              have t2 := (S10.out 2 _ rfl).1
              have z2 := (S10.out 2 _ rfl).2
              have t3 := (S10.out 3 _ rfl).1
              have z3 := (S10.out 3 _ rfl).2
              have x4 := (X.out 4 _ rfl).1
              have t4 := (S10.out 4 _ rfl).1
              have z4 := (S10.out 4 _ rfl).2
              have x5 := (X.out 5 _ rfl).1
              have t5 := (S10.out 5 _ rfl).1
              have z5 := (S10.out 5 _ rfl).2
              have x6 := (X.out 6 _ rfl).1
              have t6 := (S10.out 6 _ rfl).1
              have z6 := (S10.out 6 _ rfl).2
              go_wp2
              go_roundw
              case rel => exact ⟨k + 1, by omega, by go_num, (show RowC (put7 wc (w.heap.size + 1) x) _ _ from put7_far x S8.out (by omega)), by rw [HS.out, HB.out]; exact (show RowC (put7 wc (w.heap.size + 1) x) _ _ from put7_same x S10.out), (show Kept w (put7 wc (w.heap.size + 1) x) from put7_below (b := w.heap.size + 1) x KC.out.below (by omega))⟩
              case measure => simp [intOf]; omega
    · obtain rfl : k = n := by omega
      have HR := Lib.hid (show rinS xs sort day known xs.length = rinS xs sort day known k by rw [hlen])
      obtain ⟨b, hb⟩ : ∃ b, rinS xs sort day known k = b := ⟨_, rfl⟩
      rw [hb] at HR hr10
      have t0 := (hr10 0 _ rfl).1
      have t1 := (hr10 1 _ rfl).1
      have t2 := (hr10 2 _ rfl).1
      have t3 := (hr10 3 _ rfl).1
      have t4 := (hr10 4 _ rfl).1
      have t5 := (hr10 5 _ rfl).1
      have t6 := (hr10 6 _ rfl).1
      have s0 := (hr8 0 _ rfl).1
      have s1 := (hr8 1 _ rfl).1
      have s2 := (hr8 2 _ rfl).1
      have s3 := (hr8 3 _ rfl).1
      have s4 := (hr8 4 _ rfl).1
      have s5 := (hr8 5 _ rfl).1
      have s6 := (hr8 6 _ rfl).1
      have y0 := (hr8 0 _ rfl).2
      have y1 := (hr8 1 _ rfl).2
      have y2 := (hr8 2 _ rfl).2
      have y3 := (hr8 3 _ rfl).2
      have y4 := (hr8 4 _ rfl).2
      have y5 := (hr8 5 _ rfl).2
      have y6 := (hr8 6 _ rfl).2
      dsimp only [zeroE] at s0 s1 s2 s3 s4 s5 s6
      have HKr := Lib.hid hkr
      have H8 := Lib.hid hr8
      clear hb hr8 hr10 hkr
      go_wp2_with fail
      go_region
      all_goals
        go_wp2
        have hzq : w.heap.size < wr.heap.size := cell_lt s0
        refine bodyPost_ret (v := rfoV b) (by simp [results, Tryz.results116, go_sem, hzq, s0, s1, s2, s3, s4, s5, s6, rfoV, eqV]) rfl ⟨by rw [HR.out], ?_⟩
        exact (show Kept w (put7 wr w.heap.size b) from put7_below (b := w.heap.size) b HKr.out.below (by omega)).drew
end Go.Proofs.YtcjpecdnenemaaaGreatDoor
