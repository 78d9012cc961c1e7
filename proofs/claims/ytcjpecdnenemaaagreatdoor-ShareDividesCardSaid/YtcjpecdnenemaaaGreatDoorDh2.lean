/- the reference's Divide 71 where it divides -/
import Derived.Test.YtcjpecdnenemaaaGreatDoorDh1
import Derived.Test.YtcjpecdnenemaaaGreatDoorOw
import Derived.Deep.RegionHeld3
import Derived.IntWalk
import Derived.Deep.DeepCutAuto
namespace Go.Proofs.YtcjpecdnenemaaaGreatDoor
set_option linter.all false
open Go.RowKit Go.Shelf

theorem SHeld_of {W w' : World} {b1 o1 b2 o2 b3 o3 : Nat} {v1 v2 v3 : Value} (h1 : W.cell? ⟨b1, o1, none⟩ = some v1) (h2 : W.cell? ⟨b2, o2, none⟩ = some v2) (h3 : W.cell? ⟨b3, o3, none⟩ = some v3) (hk : Kept W w') :
    w'.cell? ⟨b1, o1, none⟩ = some v1 ∧ w'.cell? ⟨b2, o2, none⟩ = some v2 ∧ w'.cell? ⟨b3, o3, none⟩ = some v3 ∧ Kept W w' :=
  ⟨(hk.cells _ _ (cell_lt h1)).trans h1, (hk.cells _ _ (cell_lt h2)).trans h2, (hk.cells _ _ (cell_lt h3)).trans h3, hk⟩
/-- what the reference's Divide returns -/
def RDiv (w : World) (n : Nat) (sn sd s : Int) (zs : List Int) (e : Ending) (w' : World) : Prop :=
  ((shareE sn sd s zs ≠ 0 ∧ e = .returned (.tuple #[.slice none 0 0, .int .i64 (shareE sn sd s zs)])) ∨ (shareE sn sd s zs = 0 ∧ ∃ B d, e = .returned (.tuple #[.slice B n d, .int .i64 0]) ∧ FracsA w' B n d (shareL sn sd s zs))) ∧ Kept w w'
theorem shareE_at2 {sn sd s : Int} {zs : List Int} {k : Nat} {z : Int} (hz : zs[k]? = some z) (hE : (shareS sn sd s z).2.2 ≠ 0) (ho : ∀ j p, j < k → zs[j]? = some p → (shareS sn sd s p).2.2 = 0) : shareE sn sd s zs = (shareS sn sd s z).2.2 := shareE_at hz hE ho

set_option maxRecDepth 100000 in
set_option maxHeartbeats 6400000 in
theorem rdivide_go (A : Option Addr) (n c : Nat) (zs : List Int) (sn sd s : Int) (w : World) (h : IntsA w A n c zs) (hv : vld sn sd = true) (hn0 : 0 ≤ sn) (he : (sumOfS zs true).2 = 0) (hs : zs.sum = s) :
    Calls Tryz.prog 71 #[.agg #[.int .i64 sn, .int .i64 sd], .slice A n c] w (RDiv w n sn sd s zs) := by
  obtain ⟨i0, hi0, hz0, hz1, hz2⟩ := info_parts info23D
  obtain ⟨_, hp, h40, _, hpos, hsb⟩ := sumOf_ok he
  rw [hs] at hpos hsb
  obtain ⟨W0, hW0⟩ : ∃ W0, W0 = w.alloc (.cells #[.int .i64 sn, .int .i64 sd] 23) := ⟨_, rfl⟩
  have K0 : RowKit.Hid (Kept w W0) := Lib.hid (by rw [hW0]; exact (Kept.refl _).alloc _)
  have R0 : RowKit.Hid (RowC W0 w.heap.size [.int .i64 sn, .int .i64 sd]) := Lib.hid (by rw [hW0]; exact RowC.new w [.int .i64 sn, .int .i64 sd] 23)
  have HW := Lib.hid hW0
  have HI := Lib.hid (h.kept K0.out)
  have HP := Lib.hid hp
  have hn40 : n ≤ 40 := by rw [← h.1]; exact h40
  have hnc := h.2.1
  have hcm := h.2.2.1
  have hd1 := vld_pos hv
  have hb := vld_bd hv
  obtain ⟨hb1, hb2⟩ : -1000000000000 ≤ sn ∧ sn ≤ 1000000000000 := by unfold vld inB at hv; simp at hv; omega
  have hb4 : sd ≤ 1000000 := by unfold vld inB at hv; simp at hv; omega
  clear hb
  have HV1 : RowKit.Hid (∀ W, Calls Tryz.prog 91 #[.agg #[.int .i64 sn, .int .i64 sd]] W fun e w' => e = .returned (.bool true) ∧ Kept W w') := Lib.hid (fun W => by rw [← hv]; exact rvalid_any sn sd W)
  have C135 : RowKit.Hid (∀ W, Kept W0 W → Calls Tryz.prog 135 #[.slice A n c, .bool true] W fun e w' => e = .returned (.int .i64 0) ∧ Kept W w') := Lib.hid (fun W hW => by have := parted_any A n c zs true W (HI.out.kept hW); rw [he] at this; exact this)
  have C136 : RowKit.Hid (∀ W, Kept W0 W → Calls Tryz.prog 136 #[.slice A n c] W fun e w' => e = .returned (.int .i64 s) ∧ Kept W w') := Lib.hid (fun W hW => by rw [← hs]; exact rsumI_any A n c zs (parts_BdI HP.out) (by omega) W (HI.out.kept hW))
  have a0 := (R0.out 0 _ rfl).1
  have a1 := (R0.out 1 _ rfl).1
  have la := cell_lt a0
  have hdb : decide (0 ≤ sn) = true := decide_eq_true hn0
  clear hW0 h he hp h40 hs hv
  go_enter Tryz.func71, Tryz.ntmps71
  go_upto_region 1 with (fail)
  rw [← HW.out]
  go_wp2_with fail
  refine (HV1.out _).mono ?_
  rintro e w1 ⟨rfl, hk1⟩
  have K1 := Lib.hid hk1
  have b0 := (R0.out.kept hk1 0 _ rfl).1
  have lb := cell_lt b0
  clear hk1 a0 a1 la
  go_wp2_with fail
  refine (C135.out _ K1.out).mono ?_
  rintro e w2 ⟨rfl, hk2⟩
  have K2 := Lib.hid (K1.out.trans hk2)
  clear hk2 b0 lb
  go_wp2_with fail
  go_loopw [8, 9] (fun v i wr => ∃ k : Nat, k ≤ n ∧ i = .int .i64 k ∧ (∀ j p, j < k → zs[j]? = some p → (shareS sn sd s p).2.2 = 0) ∧ wr.ownsRow W0.heap.size 23 2 v k (fl2 (shareL sn sd s (zs.take k))) ∧ Kept W0 wr) (fun _ i _ => n - (intOf i).toNat)
  case atStart => exact ⟨0, by omega, by first | rfl | go_num, fun j p hj => by omega, ⟨by simp [shareL, fl2], .inl ⟨rfl, rfl⟩⟩, K2.out⟩
  case round =>
    obtain ⟨k, hk, rfl, ho, hown, hkr⟩ := hrel
    have HO := Lib.hid ho
    have HOW := Lib.hid hown
    have HKR := Lib.hid hkr
    clear ho hown
    by_cases hlt : k < n
    · obtain ⟨b, off, hA, hc⟩ := HI.out.2.2.2.2 (by omega)
      subst hA
      have hxl : k < zs.length := by rw [HI.out.1]; exact hlt
      obtain ⟨z, hz⟩ : ∃ z, zs[k]? = some z := ⟨zs[k]'hxl, List.getElem?_eq_getElem hxl⟩
      obtain ⟨z0, z1⟩ := part_in HP.out hz
      obtain ⟨m11, m12⟩ := mul_bd (n := sn) (d := z) 1000000000000 1000 (by omega) (by omega) z0 z1 (by omega)
      obtain ⟨m21, m22⟩ := mul_bd (n := sd) (d := s) 1000000 40000 (by omega) (by omega) (by omega) hsb (by omega)
      have m23 : 1 ≤ sd * s := Int.add_one_le_iff.2 (pm hd1 (by omega))
      obtain ⟨⟨x, y, E⟩, hr⟩ : ∃ r, shareS sn sd s z = r := ⟨_, rfl⟩
      have HR := Lib.hid hr
      have CL : RowKit.Hid (∀ W, Calls Tryz.prog 87 #[.int .i64 (sn * z), .int .i64 (sd * s)] W fun e w' => e = .returned (.tuple #[.agg #[.int .i64 x, .int .i64 y], .int .i64 E]) ∧ Kept W w') := Lib.hid (fun W => by
        have := rlowest_any (sn * z) (sd * s) (by omega) (by omega) m23 (by omega) W
        have e : shareS sn sd s z = okL (lowF (sn * z) (sd * s)) := by
          unfold shareS normS
          rw [if_neg (by simp [inB]; omega)]
        rw [← e, hr] at this
        exact this)
      have HZ := Lib.hid hz
      have c0 := ((HKR.out).cells _ _ (cell_lt (hc k z hz))).trans (hc k z hz)
      have r0 := (R0.out.kept HKR.out 0 _ rfl).1
      have r1 := (R0.out.kept HKR.out 1 _ rfl).1
      have C0 := Lib.hid c0
      have RR0 := Lib.hid r0
      have RR1 := Lib.hid r1
      have SB := Lib.hid (fun (W : World) (hW : Kept wr W) => SHeld_of RR0.out RR1.out C0.out hW)
      have hi0' : (0 : Int) ≤ (k : Int) := by omega
      have hi1' : (k : Int) < (n : Int) := by omega
      have it : (k : Int).toNat = k := by omega
      clear hz hc hr hkr c0 r0 r1
      go_upto_region 9 with (fail)
      go_cut [10, 11] (fun q e wx => ∃ bx, q = .pointer (some ⟨bx, 0, none⟩) ∧ e = .int .i64 E ∧ wr.heap.size ≤ bx ∧ RowC wx bx [.int .i64 x, .int .i64 y] ∧ Kept wr wx)
      case first =>
        have hw1 : IntKind.i64.wrap (sn * z) = sn * z := IntWalk.i64_in _ (by omega)
        have hw2 : IntKind.i64.wrap (sd * s) = sd * s := IntWalk.i64_in _ (by omega)
        have kd : Kept wr wr.drew := (Kept.refl wr).drew
        have kda : Kept wr ((wr.alloc (.cells #[.int .i64 0, .int .i64 0] 23)).drew) := ((Kept.refl wr).alloc _).drew
        have SD := Lib.hid (SB.out _ kd)
        have SDA := Lib.hid (SB.out _ kda)
        go_region_held3 (fun w' => w'.cell? ⟨w.heap.size, 0, none⟩ = some (.int .i64 sn) ∧ w'.cell? ⟨w.heap.size, 1, none⟩ = some (.int .i64 sd) ∧ w'.cell? ⟨b, off + k, none⟩ = some (.int .i64 z) ∧ Kept wr w')
          (first
            | (with_reducible exact SD.out)
            | (with_reducible exact SDA.out)
            | (with_reducible exact SB.out _ kk5)
            | (with_reducible exact SB.out _ (kk5.alloc _))
            | (with_reducible exact SB.out _ kk6)
            | (with_reducible exact SB.out _ (kk6.alloc _))
            | (with_reducible exact SB.out _ ((kk6.setCell (Nat.le_refl _) _).setCell (Nat.le_refl _) _))
            | (with_reducible exact SB.out _ ((kk6.setCell kk5.size _).setCell kk5.size _))
            | (with_reducible exact SB.out _ (((kk6.alloc _).setCell kk6.size _).setCell kk6.size _))
            | fail)
          (first
            | (go_at_call 136; (with_reducible refine (C136.out _ (HKR.out.trans kd)).mono ?_); rintro e w5 ⟨rfl, hk5⟩; have kk5 : Kept wr w5 := (by with_reducible exact kd.trans hk5))
            | (go_at_call 136; (with_reducible refine (C136.out _ (HKR.out.trans kda)).mono ?_); rintro e w5 ⟨rfl, hk5⟩; have kk5 : Kept wr w5 := (by with_reducible exact kda.trans hk5); have rz := ((RowC.new wr [.int .i64 0, .int .i64 0] 23).drew).kept hk5)
            | (go_at_call 87; (with_reducible refine (CL.out _).mono ?_); rintro e w6 ⟨rfl, hk6⟩; have kk6 : Kept wr w6 := (by with_reducible exact kk5.trans hk6); have rz6 := rz.kept hk6; have z0 := (rz6 0 _ rfl).1; have z1 := (rz6 1 _ rfl).1; have y0 := (rz6 0 _ rfl).2; have y1 := (rz6 1 _ rfl).2; have lz := cell_lt z0)
            | (go_at_call 87; (with_reducible refine (CL.out _).mono ?_); rintro e w6 ⟨rfl, hk6⟩; have kk6 : Kept wr w6 := (by with_reducible exact kk5.trans hk6))
            | (go_at_call 87; (with_reducible refine (CL.out _).mono ?_); rintro e w6 ⟨rfl, hk6⟩; have kk6 : Kept wr w6 := (by with_reducible exact (kk5.alloc _).trans hk6); have rz6 := (RowC.new w5 [.int .i64 0, .int .i64 0] 23).kept hk6; have z0 := (rz6 0 _ rfl).1; have z1 := (rz6 1 _ rfl).1; have y0 := (rz6 0 _ rfl).2; have y1 := (rz6 1 _ rfl).2; have lz := cell_lt z0)
            | fail)
        all_goals go_wp2
        all_goals go_meet
        all_goals first
          | exact ⟨w6.heap.size, rfl, rfl, kk6.size, RowC.new w6 [.int .i64 x, .int .i64 y] 23, kk6.alloc _⟩
          | exact ⟨w5.heap.size, rfl, rfl, kk5.size, by simpa using (rz6.put (j := 0) (by simp) (.int .i64 x)).put (j := 1) (by simp) (.int .i64 y), (kk6.setCell kk5.size _).setCell kk5.size _⟩
          | exact ⟨wr.heap.size, rfl, rfl, Nat.le_refl _, by simpa using (rz6.put (j := 0) (by simp) (.int .i64 x)).put (j := 1) (by simp) (.int .i64 y), (kk6.setCell (Nat.le_refl _) _).setCell (Nat.le_refl _) _⟩
      case rest =>
        obtain ⟨bx, rfl, rfl, hbx, rx, kx⟩ := hcut
        obtain ⟨wd, rfl⟩ : ∃ wd, wd = wc := ⟨_, rfl⟩
        have HXW := Lib.hid (own_kept HOW.out kx)
        have HKX := Lib.hid (HKR.out.trans kx)
        have x0 := (rx 0 _ rfl).1
        have x1 := (rx 1 _ rfl).1
        have lx := cell_lt x0
        have HN1 := Lib.hid (news_of (W := wd) (cs := [.int .i64 x, .int .i64 y]) (t := 23) (m := wd.heap.size) rfl)
        have H2 := Lib.hid (one2 x y)
        have HA3 : RowKit.Hid (k + 1 ≤ maxLen) := Lib.hid (by unfold maxLen; omega)
        have HA4 : RowKit.Hid ((k + 1) * 16 ≤ 140737488355328) := Lib.hid (by omega)
        have HB1 : RowKit.Hid (W0.heap.size ≤ (wd.alloc (.cells #[.int .i64 x, .int .i64 y] 23)).heap.size) := Lib.hid (by have := HKX.out.size; simp; omega)
        clear rx kx
        by_cases hE0 : E = 0
        · subst hE0
          go_wp2_with (at_builtin; refine wpList_append_lies _ rfl (.tmp 50) (.tmp 52) 32 rfl W0.heap.size 23 i0 _ 2 16 Tryz.underlying32 hi0 hz0 hz1 hz2 rfl (by decide) _ k _ rfl (own_kept HXW.out ((Kept.refl _).alloc _)) ⟨wd.heap.size, 0, none⟩ 1 1 [.int .i64 x, .int .i64 y] rfl rfl HN1.out H2.out (by decide) HA3.out HA4.out HB1.out _ rfl ?_; intro g cap w6 hown6 hgrow6 hat6 hlt6)
          have HO6 := Lib.hid hown6
          have HK6 := Lib.hid ((HKX.out.alloc _).grown hgrow6 (fun r hr => (HXW.out.lt r hr).1))
          clear hown6 hgrow6 hat6 hlt6
          go_roundw
          case rel =>
            refine ⟨k + 1, by omega, by go_num, fun j p hj hp => ?_, ?_, HK6.out⟩
            · rcases Nat.lt_or_eq_of_le (Nat.le_of_lt_succ hj) with h | h
              · exact HO.out j p h hp
              · subst h
                have h3 := HZ.out
                rw [hp] at h3
                injection h3 with h3
                subst h3
                rw [HR.out]
            · have e1 : shareL sn sd s (zs.take (k + 1)) = shareL sn sd s (zs.take k) ++ [(x, y)] := by
                rw [take_snoc' HZ.out]; unfold shareL; rw [List.map_append, List.map_cons, List.map_nil, HR.out]
              rw [e1, fl2_snoc]; exact HO6.out
          case measure => simp [intOf]; omega
        · have hE1 : (E != 0) = true := by simpa using hE0
          have hS := shareE_at HZ.out (by rw [HR.out]; exact hE0) HO.out
          rw [HR.out] at hS
          have HS := Lib.hid hS
          have HE0 := Lib.hid hE0
          clear hS hE0
          go_wp2
          go_ret2
          refine ⟨.inl ⟨?_, ?_⟩, K0.out.trans HKX.out⟩
          · rw [HS.out]; exact HE0.out
          · rw [HS.out]; rfl
    · obtain rfl : k = n := by omega
      have hE0 := Lib.hid (shareE_none (sn := sn) (sd := sd) (s := s) (fun j p hp => HO.out j p (by rw [← HI.out.1]; exact (List.getElem?_eq_some_iff.1 hp).1) hp))
      have hT : zs.take k = zs := List.take_of_length_le (by rw [HI.out.1]; exact Nat.le_refl _)
      have HOW2 := HOW.out
      rw [hT] at HOW2
      have hln : (shareL sn sd s zs).length = k := by unfold shareL; rw [List.length_map, HI.out.1]
      rw [← hln] at HOW2
      obtain ⟨A', c', rfl, hF⟩ := fracs_ownD HOW2
      rw [hln] at hF
      rw [hln]
      have HF := Lib.hid hF
      clear HOW2 hT hF hln
      go_wp2
      go_ret2
      exact ⟨.inr ⟨hE0.out, A', c', rfl, HF.out⟩, K0.out.trans HKR.out⟩
end Go.Proofs.YtcjpecdnenemaaaGreatDoor
