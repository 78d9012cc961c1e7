/-
  pairs of marks that can be mistaken: Mistaken
-/
import Derived.Test.YtologmoanaccpaaGreatDoorQa
import Derived.Test.YtologmoanaccpaaGreatDoorOg
import Derived.Test.YtologmoanaccpaaGreatDoorMs
import Derived.Test.YtologmoanaccpaaGreatDoorOf
namespace Go.Proofs.YtologmoanaccpaaGreatDoor
set_option linter.all false
open Go.RowKit Go.Shelf

structure Pr where
  (a b : Int)
deriving DecidableEq
def prC (x : Pr) : List Value := [.int .i64 x.a, .int .i64 x.b]
def mis1 (fs : List Fd) (x : Mk) (t : List Mk) : List Pr := (t.filter fun y => apK fs x.sg y.sg 6 == 0).map fun y => ⟨x.own, y.own⟩
def misK (fs : List Fd) (l : List Mk) (k : Nat) : List Pr := (List.range k).flatMap fun i => match l[i]? with | some x => mis1 fs x (l.drop (i + 1)) | none => []
def misL (fs : List Fd) (l : List Mk) : List Pr := misK fs l l.length
theorem misK_succ {fs : List Fd} {l : List Mk} {k : Nat} {x : Mk} (h : l[k]? = some x) : misK fs l (k + 1) = misK fs l k ++ mis1 fs x (l.drop (k + 1)) := by
  unfold misK
  rw [List.range_succ, List.flatMap_append]
  simp [h]
theorem mis1_snoc {fs : List Fd} {x : Mk} {t : List Mk} {j : Nat} {y : Mk} (h : t[j]? = some y) : mis1 fs x (t.take (j + 1)) = if (apK fs x.sg y.sg 6 == 0) = true then mis1 fs x (t.take j) ++ [⟨x.own, y.own⟩] else mis1 fs x (t.take j) := by
  unfold mis1
  rw [take_snoc' h, List.filter_append, List.map_append]
  by_cases hb : (apK fs x.sg y.sg 6 == 0) = true
  · simp [hb]
  · simp [hb]
theorem mis1_len (fs : List Fd) (x : Mk) (t : List Mk) : (mis1 fs x t).length ≤ t.length := by
  unfold mis1
  rw [List.length_map]
  exact List.length_filter_le _ _
theorem misK_len (fs : List Fd) (l : List Mk) : ∀ k, (misK fs l k).length ≤ k * l.length
  | 0 => by simp [misK]
  | k + 1 => by
    have ih := misK_len fs l k
    cases h : l[k]? with
    | none =>
      have : misK fs l (k + 1) = misK fs l k := by unfold misK; rw [List.range_succ, List.flatMap_append]; simp [h]
      rw [this, Nat.succ_mul]
      omega
    | some x =>
      rw [misK_succ h, List.length_append, Nat.succ_mul]
      have := mis1_len fs x (l.drop (k + 1))
      rw [List.length_drop] at this
      omega
theorem mk_sg {m : Mk} (h : m.ok) : m.sg.ok := h.2.2.2
theorem mark_clear {m : Mk} (h : markB m = true) : clearB m.sg = true := by
  unfold markB at h
  simp only [Bool.and_eq_true] at h
  exact h.2
def inE (ms : List Mk) (fs : List Fd) (day : Int) : Int := fstE [smE ms fs, errB (inB day 0 100000)]
theorem fstE_two {a b : Int} (h : fstE [a, b] = 0) : a = 0 ∧ b = 0 := by
  unfold fstE at h
  by_cases ha : a = 0
  · rw [if_pos ha] at h
    unfold fstE at h
    by_cases hb : b = 0
    · exact ⟨ha, hb⟩
    · rw [if_neg hb] at h; exact absurd h hb
  · rw [if_neg ha] at h; exact absurd h ha
theorem info90 : (Tryz.prog.info? 90).map (fun i => (i.zero, i.size, i.bytes)) = some (some (.agg #[.int .i64 0, .int .i64 0]), 2, 16) := by kernel_rfl
def MisP (w : World) (ms : List Mk) (fs : List Fd) (day : Int) (e : Ending) (w' : World) : Prop :=
  ((inE ms fs day ≠ 0 ∧ e = .returned (.tuple #[.slice none 0 0, .int .i64 (inE ms fs day)])) ∨
   (inE ms fs day = 0 ∧ ∃ l v, e = .returned (.tuple #[v, .int .i64 0]) ∧ l.Perm (frcL ms day) ∧ l.Pairwise (fun a b => a.own ≤ b.own) ∧ w'.ownsRow w.heap.size 90 2 v (misL fs l).length ((misL fs l).flatMap prC))) ∧ Kept w w'
set_option maxRecDepth 100000 in
set_option maxHeartbeats 6400000 in
theorem mistaken_any (A B : Option Addr) (n c m d : Nat) (ms : List Mk) (fs : List Fd) (day : Int) (w : World) (hs : SmA w A n c ms B m d fs) :
    Calls Tryz.prog 37 #[.agg #[.slice A n c, .slice B m d], .int .i64 day] w (MisP w ms fs day) := by
  obtain ⟨W0, hW0⟩ : ∃ W0, W0 = w.alloc (.cells #[.slice A n c, .slice B m d] 25) := ⟨_, rfl⟩
  have K0 : RowKit.Hid (Kept w W0) := Lib.hid (by rw [hW0]; exact (Kept.refl _).alloc _)
  have R0 : RowKit.Hid (RowC W0 w.heap.size [.slice A n c, .slice B m d]) := Lib.hid (by rw [hW0]; exact RowC.new w [.slice A n c, .slice B m d] 25)
  have HW := Lib.hid hW0
  have HS := Lib.hid (hs.kept K0.out)
  obtain ⟨E1, hE1⟩ : ∃ E, smE ms fs = E := ⟨_, rfl⟩
  obtain ⟨b2, hb2⟩ : ∃ b, inB day 0 100000 = b := ⟨_, rfl⟩
  obtain ⟨v2, hv2⟩ : ∃ v, errB b2 = v := ⟨_, rfl⟩
  obtain ⟨E, hE⟩ : ∃ E, fstE [E1, v2] = E := ⟨_, rfl⟩
  have HE : RowKit.Hid (inE ms fs day = E) := Lib.hid (by unfold inE; rw [hE1, hb2, hv2, hE])
  have H25 : RowKit.Hid (∀ W, Kept W0 W → Calls Tryz.prog 25 #[.agg #[.slice A n c, .slice B m d]] W fun e w' => e = .returned (.int .i64 E1) ∧ Kept W w') := Lib.hid (fun W hW => by rw [← hE1]; exact checkSmits_any A B n c m d ms fs W (HS.out.kept hW))
  have H75 : RowKit.Hid (∀ W, Calls Tryz.prog 75 #[.int .i64 day] W fun e w' => e = .returned (.bool b2) ∧ W = w') := Lib.hid (fun W => by rw [← hb2]; exact isDay_any _ W)
  have HV2 : RowKit.Hid (∀ W, Calls Tryz.prog 74 #[.bool b2] W fun e w' => e = .returned (.int .i64 v2) ∧ W = w') := Lib.hid (fun W => by rw [← hv2]; exact valid_any b2 W)
  have H73 : RowKit.Hid (∀ W g, RowC W g [.int .i64 E1, .int .i64 v2] → Calls Tryz.prog 73 #[.slice (some ⟨g, 0, none⟩) 2 2] W fun e w' => e = .returned (.int .i64 E) ∧ W = w') := Lib.hid (fun W g hr => by
    rw [← hE]
    exact firstError_any g 0 2 2 [E1, v2] rfl (by omega) W (intsR hr))
  have a0 := (R0.out 0 _ rfl).1
  have a1 := (R0.out 1 _ rfl).1
  have la := cell_lt a0
  clear hW0 hs hE1 hb2 hv2 hE
  go_enter Tryz.func37, Tryz.ntmps37
  go_upto_region 1 with (fail)
  rw [← HW.out]
  go_wp2_with fail
  refine (H25.out _ (Kept.refl _)).mono ?_
  rintro e w1 ⟨rfl, hk1⟩
  have K1 := Lib.hid hk1
  have R1 := Lib.hid (R0.out.kept hk1)
  clear hk1 a0 a1 la
  go_wp2_with fail
  refine (H75.out _).mono ?_
  rintro e w2 ⟨rfl, rfl⟩
  go_wp2_with fail
  refine (HV2.out _).mono ?_
  rintro e w2 ⟨rfl, rfl⟩
  go_wp2_with fail
  refine (H73.out _ _ (RowC.new _ _ _)).mono ?_
  rintro e w3 ⟨rfl, rfl⟩
  obtain ⟨w3, hw3⟩ : ∃ w3, w3 = w1.alloc (.cells #[.int .i64 E1, .int .i64 v2] 27) := ⟨_, rfl⟩
  have K3 := Lib.hid (show Kept W0 w3 by rw [hw3]; exact K1.out.alloc _)
  have R3 := Lib.hid (R0.out.kept K3.out)
  rw [← hw3]
  have HW3 := Lib.hid hw3
  clear hw3
  by_cases h0 : E = 0
  rotate_left
  · have h1 : (E == 0) = false := by simpa using h0
    have H0 := Lib.hid h0
    clear h0
    go_wp2_with fail
    go_ret2
    exact ⟨.inl ⟨by rw [HE.out]; exact H0.out, by rw [HE.out]; rfl⟩, K0.out.trans K3.out⟩
  · subst h0
    obtain ⟨e1, e2⟩ := fstE_two HE.out
    obtain ⟨hm1, hm2, hmv, hfv, _, _⟩ := sm_ok e1
    have HMV := Lib.hid hmv
    have HFV := Lib.hid hfv
    have hn100 : n ≤ 1000 := by rw [← HS.out.1.1]; omega
    have hl100 := hm1
    have HVW := Lib.hid (viewOf2_any A B n c m d ms fs day w3 (HS.out.kept K3.out) hn100 hmv hfv)
    have hi7 : (Tryz.prog.info? 122).map (·.size) = some 31 := by kernel_rfl
    have hi2 : (Tryz.prog.info? 120).map (·.size) = some 30 := by kernel_rfl
    have a0 := (R3.out 0 _ rfl).1
    have a1 := (R3.out 1 _ rfl).1
    have la := cell_lt a0
    clear e1 e2 hm1 hm2 hmv hfv
    go_wp2_with fail
    refine HVW.out.mono ?_
    rintro e w4 ⟨A5, c5, l5, rfl, p1, p2, sl5, fr5, hk4⟩
    have HP1 := Lib.hid p1
    have HP2 := Lib.hid p2
    have SL5 := Lib.hid sl5
    have K4 := Lib.hid (K3.out.trans hk4)
    have hlen : l5.length ≤ 100 := by
      have h1 := p1.length_eq
      have h2 : (frcL ms day).length ≤ ms.length := List.length_filter_le _ _
      omega
    clear hk4 p1 p2 sl5 fr5 a0 a1 la
    go_upto_region 5 with (refine wpList_store_row rfl 122 (.tmp 7) (.tmp 25) rfl w4.heap.size (Value.slice A5 l5.length c5 :: lkL (lkX fs)).toArray rfl rfl 122 zero31.toArray (heap_alloc_new w4 _) (by rw [hi7]; simp [lkL_len]) (by simp [zero31, lkL_len]) (by simp [lkL, Value.oneCell']) ?_)
    obtain ⟨Wv, hWv⟩ : ∃ Wv, Wv = (w4.alloc (.cells zero31.toArray 122)).setRow w4.heap.size (Value.slice A5 l5.length c5 :: lkL (lkX fs)).toArray := ⟨_, rfl⟩
    have hbb : Wv.heap[w4.heap.size]? = some (.cells (Value.slice A5 l5.length c5 :: lkL (lkX fs)).toArray 122 (0, 0)) := by rw [hWv]; exact setRow_heap _ _ _ _ _ _ (heap_alloc_new w4 _)
    have RB := Lib.hid (show RowC Wv w4.heap.size (Value.slice A5 l5.length c5 :: lkL (lkX fs)) from fun j v hv => ⟨by rw [cell_of_row _ _ _ _ _ _ hbb]; simpa using hv, frozen_of_row _ _ _ _ _ hbb⟩)
    have hkv : Kept w4 Wv := by rw [hWv]; exact ((Kept.refl w4).alloc _).setRow (Nat.le_refl _) _
    have HZZ : RowKit.Hid (Wv = (w4.alloc (.cells #[.slice none 0 0, .int .u8 0, .int .u8 0, .int .u8 0, .int .u8 0, .int .u8 0, .int .u8 0, .int .u8 0, .int .u8 0, .int .u8 0, .int .u8 0, .int .u8 0, .int .u8 0, .int .u8 0, .int .u8 0, .int .u8 0, .int .u8 0, .int .u8 0, .int .u8 0, .int .u8 0, .int .u8 0, .int .u8 0, .int .u8 0, .int .u8 0, .int .u8 0, .int .u8 0, .int .u8 0, .int .u8 0, .int .u8 0, .int .u8 0, .int .u8 0] 122)).setRow w4.heap.size (Value.slice A5 l5.length c5 :: lkL (lkX fs)).toArray) := Lib.hid (by rw [hWv]; rfl)
    have KV := Lib.hid hkv
    have SLV := Lib.hid (SL5.out.kept hkv)
    have HKW := Lib.hid (K4.out.trans hkv)
    have r0 := (RB.out 0 _ rfl).1
    have lr := cell_lt r0
    have hnc5 := SL5.out.2.1
    have hcm5 := SL5.out.2.2.1
    obtain ⟨N, hN⟩ : ∃ N, l5.length = N := ⟨_, rfl⟩
    have HN := Lib.hid hN
    rw [hN] at r0 hnc5 hlen HZZ
    rw [← hN] at HZZ
    rw [← HZZ.out]
    rw [hN] at HZZ ⊢
    clear hWv hbb hkv hN
    obtain ⟨i0, hi0, hz0, hz1, hz2⟩ := info_parts info90
    have HQ4 : RowKit.Hid (w4.heap.size < Wv.heap.size) := Lib.hid lr
    go_wp2_with fail
    go_loopw [8, 29] (fun v i wr => ∃ k : Nat, k ≤ N ∧ i = .int .i64 k ∧ wr.ownsRow Wv.heap.size 90 2 v (misK fs l5 k).length ((misK fs l5 k).flatMap prC) ∧ Kept Wv wr) (fun _ i _ => N - (intOf i).toNat)
    case atStart => exact ⟨0, by omega, by first | rfl | go_num, World.ownsRow_nil _ _ _ _, Kept.refl _⟩
    case round =>
      obtain ⟨k, hk, rfl, hown, hkr⟩ := hrel
      obtain ⟨wo, rfl⟩ : ∃ wo, wo = wr := ⟨_, rfl⟩
      have HO := Lib.hid hown
      have HKR := Lib.hid hkr
      clear hown hkr
      by_cases hlt : k < N
      · obtain ⟨x, hx⟩ : ∃ x, l5[k]? = some x := ⟨_, List.getElem?_eq_getElem (by rw [HN.out]; exact hlt)⟩
        have hne : 0 < l5.length := by rw [HN.out]; omega
        obtain ⟨b, off, hA, ht⟩ := SLV.out.2.2.2.2 hne
        subst hA
        have CX : RowKit.Hid (∀ (q : Nat) (z : Mk), l5[q]? = some z → ∀ W, Kept Wv W → ∀ j v, (mkC z)[j]? = some v → W.cell? ⟨b, off + q * 9 + j, none⟩ = some v) := Lib.hid (fun q z hz W hW j v hv => (hW.cells _ _ (cell_lt (ht q z hz j v hv))).trans (ht q z hz j v hv))
        have HX := Lib.hid hx
        have hcc := CX.out k x hx wo HKR.out
        have c0 := hcc 0 _ rfl
        have c1 := hcc 1 _ rfl
        have c2 := hcc 2 _ rfl
        have c3 := hcc 3 _ rfl
        have c4 := hcc 4 _ rfl
        have c5' := hcc 5 _ rfl
        have c6 := hcc 6 _ rfl
        have c7 := hcc 7 _ rfl
        have c8 := hcc 8 _ rfl
        rw [Nat.add_zero] at c0
        have lc := cell_lt c0
        obtain ⟨Wa, hWa⟩ : ∃ Wa, Wa = wo.alloc (.cells (mkC x).toArray 32) := ⟨_, rfl⟩
        have ka : Kept wo Wa := by rw [hWa]; exact (Kept.refl _).alloc _
        have RX := Lib.hid (show RowC Wa wo.heap.size (mkC x) by rw [hWa]; exact RowC.new wo (mkC x) 32)
        have KA := Lib.hid (HKR.out.trans ka)
        have HOA := Lib.hid (own_kept HO.out ka)
        have HWA : RowKit.Hid (wo.alloc (.cells #[.int .i64 x.own, .int .i64 x.frm, .int .i64 x.unt, .int .u8 x.sg.s0, .int .u8 x.sg.s1, .int .u8 x.sg.s2, .int .u8 x.sg.s3, .int .u8 x.sg.s4, .int .u8 x.sg.s5] 32) = Wa) := Lib.hid (by rw [hWa]; rfl)
        have r0a := (RB.out.kept KA.out 0 _ rfl).1
        rw [HN.out] at r0a
        have lra := cell_lt r0a
        have hza : Wa.heap.size = wo.heap.size + 1 := by rw [hWa]; simp
        clear ht hcc hx hWa ka r0 lr
        go_upto_region 9 with (fail)
        rw [HWA.out]
        clear c0 c1 c2 c3 c4 c5' c6 c7 c8 lc
        have hkN : (k : Int) + 1 ≤ (N : Int) := by omega
        have hkc : (k : Int) + 1 ≤ (c5 : Int) := by omega
        by_cases hce : c5 = k + 1
        · obtain rfl : N = k + 1 := by omega
          have hm := misK_succ (fs := fs) HX.out
          have hdr : l5.drop (k + 1) = [] := List.drop_eq_nil_of_le (by rw [HN.out]; exact Nat.le_refl _)
          have HO3 : RowKit.Hid (Wa.ownsRow Wv.heap.size 90 2 u8 (misK fs l5 (k + 1)).length ((misK fs l5 (k + 1)).flatMap prC)) := Lib.hid (by
            have h := HOA.out
            rw [hm, hdr]
            simpa [mis1] using h)
          have hz0 : ((k + 1 - (k + 1) : Nat) : Int) = 0 := by omega
          clear hm hdr
          go_wp2_with fail
          go_loopw [8, 40] (fun v i wr => v = u8 ∧ i = .int .i64 0 ∧ wr = Wa) (fun _ _ _ => 0)
          case atStart => exact ⟨rfl, by first | rfl | go_num, rfl⟩
          case round =>
            obtain ⟨rfl, rfl, rfl⟩ := hrel
            go_wp2_with fail
            go_roundw
            case rel => exact ⟨k + 1, by omega, by go_num, HO3.out, KA.out⟩
            case measure => first | (simp [intOf]; done) | (simp [intOf]; omega)
        go_wp2_with fail
        go_loopw [8, 40] (fun v i wr => ∃ j : Nat, j ≤ N - (k + 1) ∧ i = .int .i64 j ∧ wr.ownsRow Wv.heap.size 90 2 v (misK fs l5 k ++ mis1 fs x ((l5.drop (k + 1)).take j)).length ((misK fs l5 k ++ mis1 fs x ((l5.drop (k + 1)).take j)).flatMap prC) ∧ Kept Wv wr ∧ RowC wr wo.heap.size (mkC x) ∧ (∀ g, v.ownBlock = some g → g ≠ wo.heap.size)) (fun _ i _ => (N - (k + 1)) - (intOf i).toNat)
        case atStart => exact ⟨0, by omega, by first | rfl | go_num, by simpa [mis1] using HOA.out, KA.out, RX.out, fun g hg => by have := own_lt HO.out hg; omega⟩
        case round =>
          obtain ⟨j, hj, rfl, hown, hkr, hrx, hnb⟩ := hrel
          have HO2 := Lib.hid hown
          have HKR2 := Lib.hid hkr
          have RXR := Lib.hid hrx
          have HNB := Lib.hid hnb
          have hzr := cell_lt (hrx 0 _ rfl).1
          clear hown hkr hrx hnb
          by_cases hlt2 : j < N - (k + 1)
          · obtain ⟨y, hy⟩ : ∃ y, l5[k + 1 + j]? = some y := ⟨_, List.getElem?_eq_getElem (by rw [HN.out]; omega)⟩
            have hyd : (l5.drop (k + 1))[j]? = some y := by rw [List.getElem?_drop]; exact hy
            have HY := Lib.hid hy
            have KR := Lib.hid HKR2.out
            have hcc : ∀ j' v, (mkC y)[j']? = some v → wr.cell? ⟨b, off + (k + 1) * 9 + j * 9 + j', none⟩ = some v := fun j' v hv => by
              have h := CX.out (k + 1 + j) y hy wr KR.out j' v hv
              rw [show off + (k + 1 + j) * 9 + j' = off + (k + 1) * 9 + j * 9 + j' by omega] at h
              exact h
            have c0 := hcc 0 _ rfl
            have c1 := hcc 1 _ rfl
            have c2 := hcc 2 _ rfl
            have c3 := hcc 3 _ rfl
            have c4 := hcc 4 _ rfl
            have c5' := hcc 5 _ rfl
            have c6 := hcc 6 _ rfl
            have c7 := hcc 7 _ rfl
            have c8 := hcc 8 _ rfl
            rw [Nat.add_zero] at c0
            have lc := cell_lt c0
            obtain ⟨Wb, hWb⟩ : ∃ Wb, Wb = wr.alloc (.cells (mkC y).toArray 32) := ⟨_, rfl⟩
            have kb : Kept wr Wb := by rw [hWb]; exact (Kept.refl _).alloc _
            have RY := Lib.hid (show RowC Wb wr.heap.size (mkC y) by rw [hWb]; exact RowC.new wr (mkC y) 32)
            have KB := Lib.hid (HKR2.out.trans kb)
            have HOB := Lib.hid (own_kept HO2.out kb)
            have HWB : RowKit.Hid (wr.alloc (.cells #[.int .i64 y.own, .int .i64 y.frm, .int .i64 y.unt, .int .u8 y.sg.s0, .int .u8 y.sg.s1, .int .u8 y.sg.s2, .int .u8 y.sg.s3, .int .u8 y.sg.s4, .int .u8 y.sg.s5] 32) = Wb) := Lib.hid (by rw [hWb]; rfl)
            have RXb := Lib.hid (RXR.out.kept kb)
            have hzb : wr.heap.size + 1 = Wb.heap.size := by rw [hWb]; simp
            have HM := Lib.hid (mis1_snoc (fs := fs) (x := x) hyd)
            have HRG : RowKit.Hid (∀ W, Kept Wb W → W.rangeAt w4.heap.size 1 (lkL (lkX fs))) := Lib.hid (fun W hW j' v hv => by
              have h := (RB.out.kept (KB.out.trans hW) (1 + j') v (by rw [Nat.add_comm]; simpa using hv)).1
              exact h)
            have hmx := HMV.out x (List.mem_filter.1 (HP1.out.mem_iff.1 (List.mem_of_getElem? HX.out))).1
            have hmy := HMV.out y (List.mem_filter.1 (HP1.out.mem_iff.1 (List.mem_of_getElem? hy))).1
            have hxs := SL5.out.2.2.2.1 x (List.mem_of_getElem? HX.out)
            have hys := SL5.out.2.2.2.1 y (List.mem_of_getElem? hy)
            have HAP := Lib.hid (apart_any fs x.sg y.sg (fade4 HFV.out) (mk_sg hxs) (mk_sg hys) (mark_clear hmx) (mark_clear hmy))
            obtain ⟨M, hM⟩ : ∃ M, apK fs x.sg y.sg 6 = M := ⟨_, rfl⟩
            rw [hM] at HAP HM
            have d0 := (RXb.out 0 _ rfl).1
            have d3 := (RXb.out 3 _ rfl).1
            have d4 := (RXb.out 4 _ rfl).1
            have d5 := (RXb.out 5 _ rfl).1
            have d6 := (RXb.out 6 _ rfl).1
            have d7 := (RXb.out 7 _ rfl).1
            have d8 := (RXb.out 8 _ rfl).1
            have g0 := (RY.out 0 _ rfl).1
            have g3 := (RY.out 3 _ rfl).1
            have g4 := (RY.out 4 _ rfl).1
            have g5 := (RY.out 5 _ rfl).1
            have g6 := (RY.out 6 _ rfl).1
            have g7 := (RY.out 7 _ rfl).1
            have g8 := (RY.out 8 _ rfl).1
            have ld := cell_lt d0
            have lg := cell_lt g0
            have HRGb := HRG.out Wb (Kept.refl _)
            have HRGH := Lib.hid HRGb
            clear hcc hy hyd hWb kb hmx hmy hxs hys hM HRGb d0 d3 d4 d5 d6 d7 d8 g0 g3 g4 g5 g6 g7 g8 ld lg
            go_upto_region 12 with (fail)
            rw [HWB.out]
            clear c0 c1 c2 c3 c4 c5' c6 c7 c8 lc
            have d0 := (RXb.out 0 _ rfl).1
            have d3 := (RXb.out 3 _ rfl).1
            have d4 := (RXb.out 4 _ rfl).1
            have d5 := (RXb.out 5 _ rfl).1
            have d6 := (RXb.out 6 _ rfl).1
            have d7 := (RXb.out 7 _ rfl).1
            have d8 := (RXb.out 8 _ rfl).1
            have g0 := (RY.out 0 _ rfl).1
            have g3 := (RY.out 3 _ rfl).1
            have g4 := (RY.out 4 _ rfl).1
            have g5 := (RY.out 5 _ rfl).1
            have g6 := (RY.out 6 _ rfl).1
            have g7 := (RY.out 7 _ rfl).1
            have g8 := (RY.out 8 _ rfl).1
            have ld := cell_lt d0
            have lg := cell_lt g0
            go_wp2_with (first | (refine wpList_load_mid rfl 120 (.tmp 44) rfl w4.heap.size 1 rfl (lkL (lkX fs)) _ HRGH.out Tryz.underlying120 rfl (by rw [hi2]; simp [lkL_len]) ?_) | fail)
            refine (HAP.out _).mono ?_
            rintro e w5 ⟨rfl, hk5⟩
            have RX5 := Lib.hid (RXb.out.kept hk5)
            have RY5 := Lib.hid (RY.out.kept hk5)
            have HO5 := Lib.hid (own_kept HOB.out hk5)
            have K5 := Lib.hid (KB.out.trans hk5)
            have hz5 := hk5.size
            clear d0 d3 d4 d5 d6 d7 d8 g0 g3 g4 g5 g6 g7 g8 ld lg hk5
            have d0 := (RX5.out 0 _ rfl).1
            have g0 := (RY5.out 0 _ rfl).1
            have ld := cell_lt d0
            have lg := cell_lt g0
            by_cases hM0 : M = 0
            · subst hM0
              have HM0 : RowKit.Hid (mis1 fs x ((l5.drop (k + 1)).take (j + 1)) = mis1 fs x ((l5.drop (k + 1)).take j) ++ [⟨x.own, y.own⟩]) := Lib.hid (by rw [HM.out, if_pos (by simp)])
              obtain ⟨L, hL⟩ : ∃ L, misK fs l5 k ++ mis1 fs x ((l5.drop (k + 1)).take j) = L := ⟨_, rfl⟩
              have hLl : L.length ≤ 20000 := by
                rw [← hL, List.length_append]
                have h1 := misK_len fs l5 k
                have h2 := mis1_len fs x ((l5.drop (k + 1)).take j)
                have h3 : ((l5.drop (k + 1)).take j).length ≤ l5.length := Nat.le_trans (List.length_take_le' _ _) (by rw [List.length_drop]; omega)
                have h4 : k * l5.length ≤ 100 * 100 := Nat.mul_le_mul (by omega) (by rw [HN.out]; omega)
                rw [HN.out] at h3 h1
                rw [HN.out] at h4
                omega
              have HLN : RowKit.Hid (misK fs l5 k ++ mis1 fs x ((l5.drop (k + 1)).take (j + 1)) = L ++ [⟨x.own, y.own⟩]) := Lib.hid (by rw [HM0.out, ← List.append_assoc, hL])
              have HO6 := Lib.hid (show w5.ownsRow Wv.heap.size 90 2 u8 L.length (L.flatMap prC) by rw [← hL]; exact HO5.out)
              have HN1 := Lib.hid (news_of (W := w5) (cs := [.int .i64 x.own, .int .i64 y.own]) (t := 90) (m := w5.heap.size) rfl)
              have HV1 : RowKit.Hid (∀ z ∈ ([.int .i64 x.own, .int .i64 y.own] : List Value), z.oneCell' = true) := Lib.hid (fun z hz => by simp at hz; rcases hz with h | h <;> subst h <;> rfl)
              have HA3 : RowKit.Hid (L.length + 1 ≤ maxLen) := Lib.hid (by unfold maxLen; omega)
              have HA4 : RowKit.Hid ((L.length + 1) * 16 ≤ 140737488355328) := Lib.hid (by omega)
              have HB1 : RowKit.Hid (Wv.heap.size ≤ (w5.alloc (.cells #[.int .i64 x.own, .int .i64 y.own] 90)).heap.size) := Lib.hid (by have := K5.out.size; simp; omega)
              generalize hLg : L.length = Ln at HO6 HA3 HA4
              have HLG := Lib.hid hLg
              clear hL hLl hLg
              go_wp2_with (first
                | (at_builtin; refine wpList_append_lies _ rfl (.tmp 52) (.tmp 58) 52 rfl Wv.heap.size 90 i0 _ 2 16 Tryz.underlying52 hi0 hz0 hz1 hz2 rfl (by decide) _ Ln _ rfl (own_kept HO6.out ((Kept.refl _).alloc _)) ⟨w5.heap.size, 0, none⟩ 1 1 [.int .i64 x.own, .int .i64 y.own] rfl rfl HN1.out HV1.out (by decide) HA3.out HA4.out HB1.out _ rfl ?_; intro g' cap w6 hown6 hgrow6 hat6 hlt6
                   have HO7 := Lib.hid hown6
                   have HK7 := Lib.hid ((K5.out.alloc _).grown hgrow6 (fun r hr => (HO6.out.lt r hr).1))
                   have RX7 := Lib.hid (show RowC w6 wo.heap.size (mkC x) from fun j' v' hv' => by
                     have e : w6.heap[wo.heap.size]? = (w5.alloc (.cells #[.int .i64 x.own, .int .i64 y.own] 90)).heap[wo.heap.size]? := hgrow6.block _ (by simp; omega) (fun e => HNB.out _ e.symm rfl)
                     have h := ((RX5.out.kept ((Kept.refl w5).alloc (.cells #[.int .i64 x.own, .int .i64 y.own] 90))) j' v' hv')
                     exact ⟨(cell_heap e).trans h.1, (frozen_heap e).trans h.2⟩)
                   have NB7 : RowKit.Hid (g' ≠ wo.heap.size) := Lib.hid (by
                     rcases hat6 with h | h
                     · exact HNB.out _ h
                     · rw [h]; simp; omega)
                   clear hown6 hgrow6 hat6 hlt6)
                | fail)
              go_roundw
              case rel =>
                refine ⟨j + 1, by omega, by go_num, ?_, HK7.out, RX7.out, fun g hg => by simp [Value.ownBlock] at hg; rw [← hg]; exact NB7.out⟩
                rw [HLN.out, List.length_append, List.flatMap_append, HLG.out]
                simpa [prC] using HO7.out
              case measure => simp [intOf]; omega
            · have hM2 : ((M : Int) == 0) = false := by simp; omega
              have HM0 : RowKit.Hid (mis1 fs x ((l5.drop (k + 1)).take (j + 1)) = mis1 fs x ((l5.drop (k + 1)).take j)) := Lib.hid (by rw [HM.out, if_neg (by simp; omega)])
              go_wp2_with fail
              go_roundw
              case rel => exact ⟨j + 1, by omega, by go_num, by rw [HM0.out]; exact HO5.out, K5.out, RX5.out, HNB.out⟩
              case measure => simp [intOf]; omega
          · obtain rfl : j = N - (k + 1) := by omega
            have hm := misK_succ (fs := fs) HX.out
            have ht2 : (l5.drop (k + 1)).take (N - (k + 1)) = l5.drop (k + 1) := List.take_of_length_le (by rw [List.length_drop, HN.out]; exact Nat.le_refl _)
            have HO3 : RowKit.Hid (wr.ownsRow Wv.heap.size 90 2 u8 (misK fs l5 (k + 1)).length ((misK fs l5 (k + 1)).flatMap prC)) := Lib.hid (by
              have h := HO2.out
              rw [ht2, ← hm] at h
              exact h)
            have KR := Lib.hid HKR2.out
            clear hm ht2
            go_wp2_with fail
            go_roundw
            case rel => exact ⟨k + 1, by omega, by go_num, HO3.out, KR.out⟩
            case measure => simp [intOf]; omega
      · obtain rfl : k = N := by omega
        clear r0 lr
        go_wp2
        go_ret2
        refine ⟨.inr ⟨HE.out, l5, _, rfl, HP1.out, HP2.out, ?_⟩, K0.out.trans (HKW.out.trans HKR.out)⟩
        have h := HO.out
        rw [← HN.out] at h
        exact own_le h (by have := K0.out.size; have := HKW.out.size; omega)
end Go.Proofs.YtologmoanaccpaaGreatDoor
