/-
  the law MarkNobody
-/
import Derived.Test.YtologmoanaccpaaGreatDoorVG
import Derived.Test.YtologmoanaccpaaGreatDoorBN
import Derived.OneCell
namespace Go.Proofs.YtologmoanaccpaaGreatDoor
set_option linter.all false
open Go.RowKit Go.Shelf

theorem FreP.two {w w' : World} {ms : List Mk} {fs : List Fd} {day : Int} {e : Ending} (h : FreP w ms fs day e w') : (∃ E : Int, E ≠ 0 ∧ e = .returned (.tuple #[.agg #[.int .u8 0, .int .u8 0, .int .u8 0, .int .u8 0, .int .u8 0, .int .u8 0], .int .i64 E]) ∧ Kept w w') ∨
    (inE ms fs day = 0 ∧ ∃ (s : Sg) (l : List Mk), s.ok ∧ clearB s = true ∧ l.Perm (frcL ms day) ∧ l.Pairwise (fun a b => a.own ≤ b.own) ∧ (∀ m ∈ l, apK fs s m.sg 6 ≠ 0) ∧ e = .returned (.tuple #[.agg #[.int .u8 s.s0, .int .u8 s.s1, .int .u8 s.s2, .int .u8 s.s3, .int .u8 s.s4, .int .u8 s.s5], .int .i64 0]) ∧ Kept w w') := by
  obtain ⟨⟨h0, he⟩ | ⟨h0, l, hp, hs, ⟨n, _, hf, _, he⟩ | ⟨_, he⟩⟩, hk⟩ := h
  · exact .inl ⟨_, h0, he, hk⟩
  · refine .inr ⟨h0, sgN n, l, sgN_ok n, sgN_clear n, hp, hs, fun m hm => ?_, he, hk⟩
    unfold frB at hf
    rw [List.all_eq_true] at hf
    simpa using hf m hm
  · exact .inl ⟨5, by omega, he, hk⟩
set_option maxRecDepth 100000 in
set_option maxHeartbeats 25600000 in
theorem markNobody_any (A B : Option Addr) (n c m d : Nat) (ms : List Mk) (fs : List Fd) (day owner : Int) (w : World) (hs : SmA w A n c ms B m d fs) (hd64 : i64 day) (ho64 : i64 owner) (hE : EnvT w) (hM : EnvM w) :
    Calls Tryz.prog 15 #[.agg #[.slice A n c, .slice B m d], .int .i64 day, .int .i64 owner] w fun e w' => e = .returned (.bool true) ∧ Kept w w' := by
  obtain ⟨W0, hW0⟩ : ∃ W0, W0 = w.alloc (.cells #[.slice A n c, .slice B m d] 25) := ⟨_, rfl⟩
  have K0 : RowKit.Hid (Kept w W0) := Lib.hid (by rw [hW0]; exact (Kept.refl _).alloc _)
  have RA : RowKit.Hid (RowC W0 w.heap.size [.slice A n c, .slice B m d]) := Lib.hid (by rw [hW0]; exact RowC.new w [.slice A n c, .slice B m d] 25)
  have HW := Lib.hid hW0
  have HS := Lib.hid (hs.kept K0.out)
  have HMN := Lib.hid hs.1.1
  have HMO := Lib.hid hs.1.2.2.2.1
  have HD64 := Lib.hid hd64
  have HO64 := Lib.hid ho64
  have HMK : RowKit.Hid (∀ W, Kept W0 W → Calls Tryz.prog 19 #[] W fun e w' => e = .returned (.bool true) ∧ Kept W w') := Lib.hid (fun W hW => marked_any W (hE.kept (K0.out.trans hW)) (hM.kept (K0.out.trans hW)))
  have H42 : RowKit.Hid (∀ W, Kept W0 W → Calls Tryz.prog 42 #[.agg #[.slice A n c, .slice B m d], .int .i64 day] W (FreP W ms fs day)) := Lib.hid (fun W hW => free_any A B n c m d ms fs day W (HS.out.kept hW))
  have H20 : RowKit.Hid (∀ W, Kept W0 W → Calls Tryz.prog 20 #[.agg #[.slice A n c, .slice B m d], .int .i64 day] W (InP W ms fs day)) := Lib.hid (fun W hW => inForceX_any A B n c m d ms fs day W (HS.out.kept hW))
  have H37 : RowKit.Hid (∀ A B n c m d ms fs W, SmA W A n c ms B m d fs → Calls Tryz.prog 37 #[.agg #[.slice A n c, .slice B m d], .int .i64 day] W (MisP W ms fs day)) := Lib.hid (fun A B n c m d ms fs W h => mistaken_any A B n c m d ms fs day W h)
  have H39 : RowKit.Hid (∀ (a c' : Sg) W, Kept W0 W → a.ok → c'.ok → Calls Tryz.prog 39 #[.agg #[.slice A n c, .slice B m d], .agg #[.int .u8 a.s0, .int .u8 a.s1, .int .u8 a.s2, .int .u8 a.s3, .int .u8 a.s4, .int .u8 a.s5], .agg #[.int .u8 c'.s0, .int .u8 c'.s1, .int .u8 c'.s2, .int .u8 c'.s3, .int .u8 c'.s4, .int .u8 c'.s5]] W fun e w' => e = .returned (.tuple #[.int .i64 (apO ms fs a c'), .int .i64 (apE ms fs a c')]) ∧ Kept W w') := Lib.hid (fun a c' W hW h1 h2 => apartX_any A B n c m d ms fs a c' W (HS.out.kept hW) h1 h2)
  have hnc := hs.1.2.1
  have hcm := hs.1.2.2.1
  have hmd := hs.2.2.1
  have hdm := hs.2.2.2.1
  clear hW0 hs hE hM hd64 ho64
  have a0 := (RA.out 0 _ rfl).1
  have a1 := (RA.out 1 _ rfl).1
  have la := cell_lt a0
  go_enter Tryz.func15, Tryz.ntmps15
  go_upto_region 1 with (fail)
  rw [← HW.out]
  by_cases hn20 : 20 < n
  · go_wp2_with fail
    refine (HMK.out _ (Kept.refl _)).mono ?_
    rintro e w2 ⟨rfl, hk2⟩
    have K2 := Lib.hid (K0.out.trans hk2)
    clear hk2
    go_wp2_with fail
    go_ret
    exact ⟨rfl, K2.out⟩
  go_wp2_with fail
  refine (H42.out _ (Kept.refl _)).mono ?_
  rintro e w1 h1
  rcases h1.two with ⟨E, hE0, rfl, hk1⟩ | ⟨hI0, s, l, hso, hsc, hp, hsl, hfr, rfl, hk1⟩
  · have K1 := Lib.hid hk1
    have h1 : (E != 0) = true := by simpa using hE0
    have heq : ∀ W, (binOp BinOp.eql 39 (.agg #[.int .u8 0, .int .u8 0, .int .u8 0, .int .u8 0, .int .u8 0, .int .u8 0]) (.agg #[.int .u8 0, .int .u8 0, .int .u8 0, .int .u8 0, .int .u8 0, .int .u8 0])).run Tryz.prog W = .ok (.bool true) W := fun W => by kernel_rfl
    clear hk1 h1 a0 a1 la
    have h1 : (E != 0) = true := by simpa using hE0
    go_upto_region 4 with fail
    obtain ⟨W2, hW2⟩ : ∃ W2, W2 = w1.alloc (.cells #[.int .u8 0, .int .u8 0, .int .u8 0, .int .u8 0, .int .u8 0, .int .u8 0] 39) := ⟨_, rfl⟩
    rw [← hW2]
    have k2 : Kept w1 W2 := by rw [hW2]; exact (Kept.refl _).alloc _
    have R2 := Lib.hid (show RowC W2 w1.heap.size [.int .u8 0, .int .u8 0, .int .u8 0, .int .u8 0, .int .u8 0, .int .u8 0] by rw [hW2]; exact RowC.new w1 _ 39)
    have K2 := Lib.hid (K1.out.trans k2)
    clear hW2 k2
    go_wp2_with fail
    refine (HMK.out _ K2.out).mono ?_
    rintro e w3 ⟨rfl, hk3⟩
    have R3 := Lib.hid (R2.out.kept hk3)
    have K3 := Lib.hid (K0.out.trans (K2.out.trans hk3))
    clear hk3
    have b0 := (R3.out 0 _ rfl).1
    have b1 := (R3.out 1 _ rfl).1
    have b2 := (R3.out 2 _ rfl).1
    have b3 := (R3.out 3 _ rfl).1
    have b4 := (R3.out 4 _ rfl).1
    have b5 := (R3.out 5 _ rfl).1
    have lb := cell_lt b0
    go_wp2_with fail
    try rw [heq]
    try go_wp2_with fail
    go_ret
    exact ⟨rfl, K3.out⟩
  · have K1 := Lib.hid hk1
    have HI0 := Lib.hid hI0
    have HSO := Lib.hid hso
    have HSC := Lib.hid hsc
    have HP := Lib.hid hp
    have HSL := Lib.hid hsl
    have HFR := Lib.hid hfr
    obtain ⟨hsm, hday⟩ := fstE_two (show fstE [smE ms fs, errB (inB day 0 100000)] = 0 from hI0)
    have HSM := Lib.hid hsm
    obtain ⟨hm100, hf20, hmv, hfv, _, hcl⟩ := sm_ok hsm
    have HL : RowKit.Hid (l = rfL ms day 40) := Lib.hid (rf_eq hcl hmv hp hsl)
    have HMV := Lib.hid hmv
    rw [HMN.out] at hm100
    have hm20 : m ≤ 1000000 := by have := HS.out.2.1; omega
    clear hk1 hI0 hso hsc hp hsl hfr hsm hday hmv hfv hcl a0 a1 la h1
    go_upto_region 4 with fail
    obtain ⟨W2, hW2⟩ : ∃ W2, W2 = w1.alloc (.cells #[.int .u8 s.s0, .int .u8 s.s1, .int .u8 s.s2, .int .u8 s.s3, .int .u8 s.s4, .int .u8 s.s5] 39) := ⟨_, rfl⟩
    rw [← hW2]
    have k2 : Kept w1 W2 := by rw [hW2]; exact (Kept.refl _).alloc _
    have R2 := Lib.hid (show RowC W2 w1.heap.size (sgV s) by rw [hW2]; exact RowC.new w1 (sgV s) 39)
    have K2 := Lib.hid (K1.out.trans k2)
    clear hW2 k2
    have a0 := (RA.out.kept K2.out 0 _ rfl).1
    have a1 := (RA.out.kept K2.out 1 _ rfl).1
    have la := cell_lt a0
    go_wp2_with fail
    refine (H20.out _ K2.out).mono ?_
    rintro e w3 ⟨⟨hne, _⟩ | ⟨_, A3, n3, c3, rfl, hl3⟩, hk3⟩
    · exact absurd HI0.out hne
    have HL3 := Lib.hid hl3
    have R3 := Lib.hid (R2.out.kept hk3)
    have K3 := Lib.hid (K2.out.trans hk3)
    have hn3 := hl3.2.1
    have hc3 := hl3.2.2.1
    have HN3 := Lib.hid hl3.1
    clear hk3 hl3 a0 a1 la
    go_wp2_with fail
    go_loopw [11, 12, 13] (fun i _ _ wr => ∃ k : Nat, k ≤ n3 ∧ i = .int .i64 k ∧ Kept w3 wr) (fun i _ _ _ => n3 - (intOf i).toNat)
    case atStart => exact ⟨0, by omega, by first | rfl | go_num, Kept.refl _⟩
    case round =>
      obtain ⟨k, hk, rfl, hkr⟩ := hrel
      have HKR := Lib.hid hkr
      clear hkr
      by_cases hlt : k < n3
      · obtain ⟨x, hx⟩ : ∃ x, (rfL ms day 40)[k]? = some x := ⟨_, List.getElem?_eq_getElem (by rw [HN3.out]; exact hlt)⟩
        have hxl := List.mem_of_getElem? hx
        have hxm := (frcL_mem.1 (HP.out.mem_iff.1 (by rw [HL.out]; exact hxl))).1
        have HXO := Lib.hid (mk_sg (HMO.out x hxm))
        have HAE : RowKit.Hid (apE ms fs s x.sg = 0) := Lib.hid (by unfold apE; rw [HSM.out, HSC.out, mark_clear (HMV.out x hxm)]; rfl)
        have hao : apO ms fs s x.sg ≠ 0 := by
          unfold apO
          rw [if_neg (fun h => h HAE.out)]
          have := HFR.out x (by rw [HL.out]; exact hxl)
          omega
        obtain ⟨ao, hao2⟩ : ∃ z, apO ms fs s x.sg = z := ⟨_, rfl⟩
        have HC := Lib.hid (fun W hW => H39.out s x.sg W hW HSO.out HXO.out)
        rw [HAE.out, hao2] at HC
        rw [hao2] at hao
        have hz : (ao == 0) = false := by simpa using hao
        obtain ⟨b, off, hA, ht⟩ := HL3.out.2.2.2.2 (by omega)
        subst hA
        have HT := Lib.hid (fun j v (hv : (mkC x)[j]? = some v) => ht k x hx j v hv)
        have hi0 : (0 : Int) ≤ (k : Int) := by omega
        have hi1 : (k : Int) < (n3 : Int) := by omega
        clear ht hx hxl hxm hao hao2
        go_upto_region 12 with (fail)
        have SC : RowKit.Hid (∀ W, Kept wr W → W.cell? ⟨w.heap.size, 0, none⟩ = some (.slice A n c) ∧ W.cell? ⟨w.heap.size, 1, none⟩ = some (.slice B m d) ∧ W.cell? ⟨w1.heap.size, 0, none⟩ = some (.int .u8 s.s0) ∧ W.cell? ⟨w1.heap.size, 1, none⟩ = some (.int .u8 s.s1) ∧ W.cell? ⟨w1.heap.size, 2, none⟩ = some (.int .u8 s.s2) ∧ W.cell? ⟨w1.heap.size, 3, none⟩ = some (.int .u8 s.s3) ∧ W.cell? ⟨w1.heap.size, 4, none⟩ = some (.int .u8 s.s4) ∧ W.cell? ⟨w1.heap.size, 5, none⟩ = some (.int .u8 s.s5) ∧ W.cell? ⟨b, off + k * 9 + 3, none⟩ = some (.int .u8 x.sg.s0) ∧ W.cell? ⟨b, off + k * 9 + 4, none⟩ = some (.int .u8 x.sg.s1) ∧ W.cell? ⟨b, off + k * 9 + 5, none⟩ = some (.int .u8 x.sg.s2) ∧ W.cell? ⟨b, off + k * 9 + 6, none⟩ = some (.int .u8 x.sg.s3) ∧ W.cell? ⟨b, off + k * 9 + 7, none⟩ = some (.int .u8 x.sg.s4) ∧ W.cell? ⟨b, off + k * 9 + 8, none⟩ = some (.int .u8 x.sg.s5) ∧ Kept wr W) := Lib.hid (fun W hW => by
          have h3 := HKR.out.trans hW
          have h0 := K3.out.trans h3
          refine ⟨(RA.out.kept h0 0 _ rfl).1, (RA.out.kept h0 1 _ rfl).1, (R3.out.kept h3 0 _ rfl).1, (R3.out.kept h3 1 _ rfl).1, (R3.out.kept h3 2 _ rfl).1, (R3.out.kept h3 3 _ rfl).1, (R3.out.kept h3 4 _ rfl).1, (R3.out.kept h3 5 _ rfl).1, (h3.cells _ _ (cell_lt (HT.out 3 _ rfl))).trans (HT.out 3 _ rfl), (h3.cells _ _ (cell_lt (HT.out 4 _ rfl))).trans (HT.out 4 _ rfl), (h3.cells _ _ (cell_lt (HT.out 5 _ rfl))).trans (HT.out 5 _ rfl), (h3.cells _ _ (cell_lt (HT.out 6 _ rfl))).trans (HT.out 6 _ rfl), (h3.cells _ _ (cell_lt (HT.out 7 _ rfl))).trans (HT.out 7 _ rfl), (h3.cells _ _ (cell_lt (HT.out 8 _ rfl))).trans (HT.out 8 _ rfl), hW⟩)
        have kd := (Kept.refl wr).drew
        have q0 := (SC.out _ (Kept.refl _)).1
        have lq := cell_lt q0
        have lq2 := cell_lt (R3.out.kept HKR.out 0 _ rfl).1
        have lq3 := cell_lt ((HKR.out.cells _ _ (cell_lt (HT.out 3 _ rfl))).trans (HT.out 3 _ rfl))
        clear q0
        go_region_held3 (fun W => W.cell? ⟨w.heap.size, 0, none⟩ = some (.slice A n c) ∧ W.cell? ⟨w.heap.size, 1, none⟩ = some (.slice B m d) ∧ W.cell? ⟨w1.heap.size, 0, none⟩ = some (.int .u8 s.s0) ∧ W.cell? ⟨w1.heap.size, 1, none⟩ = some (.int .u8 s.s1) ∧ W.cell? ⟨w1.heap.size, 2, none⟩ = some (.int .u8 s.s2) ∧ W.cell? ⟨w1.heap.size, 3, none⟩ = some (.int .u8 s.s3) ∧ W.cell? ⟨w1.heap.size, 4, none⟩ = some (.int .u8 s.s4) ∧ W.cell? ⟨w1.heap.size, 5, none⟩ = some (.int .u8 s.s5) ∧ W.cell? ⟨b, off + k * 9 + 3, none⟩ = some (.int .u8 x.sg.s0) ∧ W.cell? ⟨b, off + k * 9 + 4, none⟩ = some (.int .u8 x.sg.s1) ∧ W.cell? ⟨b, off + k * 9 + 5, none⟩ = some (.int .u8 x.sg.s2) ∧ W.cell? ⟨b, off + k * 9 + 6, none⟩ = some (.int .u8 x.sg.s3) ∧ W.cell? ⟨b, off + k * 9 + 7, none⟩ = some (.int .u8 x.sg.s4) ∧ W.cell? ⟨b, off + k * 9 + 8, none⟩ = some (.int .u8 x.sg.s5) ∧ Kept wr W)
          (first
            | (with_reducible exact SC.out _ kd)
            | (with_reducible exact SC.out _ kk9)
            | fail)
          (first
            | (go_at_call 39; with_reducible refine (HC.out _ (K3.out.trans (HKR.out.trans kd))).mono ?_; rintro e w9 ⟨rfl, hk9⟩; have kk9 : Kept wr w9 := (by with_reducible exact kd.trans hk9))
            | fail)
        all_goals go_wp2
        all_goals go_roundw
        case rel => exact ⟨k + 1, by omega, by go_num, HKR.out.trans kk9⟩
        case measure => simp [intOf]; omega
      · obtain rfl : k = n3 := by omega
        have R4 := Lib.hid (R3.out.kept HKR.out)
        have K4 := Lib.hid (K3.out.trans HKR.out)
        obtain ⟨W4, hW4⟩ : ∃ W4, W4 = wr := ⟨_, rfl⟩
        rw [← hW4] at R4 K4 ⊢
        clear hW4
        have SC : RowKit.Hid (∀ W, Kept W4 W → W.cell? ⟨w.heap.size, 0, none⟩ = some (.slice A n c) ∧ W.cell? ⟨w.heap.size, 1, none⟩ = some (.slice B m d) ∧ W.cell? ⟨w1.heap.size, 0, none⟩ = some (.int .u8 s.s0) ∧ W.cell? ⟨w1.heap.size, 1, none⟩ = some (.int .u8 s.s1) ∧ W.cell? ⟨w1.heap.size, 2, none⟩ = some (.int .u8 s.s2) ∧ W.cell? ⟨w1.heap.size, 3, none⟩ = some (.int .u8 s.s3) ∧ W.cell? ⟨w1.heap.size, 4, none⟩ = some (.int .u8 s.s4) ∧ W.cell? ⟨w1.heap.size, 5, none⟩ = some (.int .u8 s.s5) ∧ Kept W4 W) := Lib.hid (fun W hW => by
          have h0 := K4.out.trans hW
          exact ⟨(RA.out.kept h0 0 _ rfl).1, (RA.out.kept h0 1 _ rfl).1, (R4.out.kept hW 0 _ rfl).1, (R4.out.kept hW 1 _ rfl).1, (R4.out.kept hW 2 _ rfl).1, (R4.out.kept hW 3 _ rfl).1, (R4.out.kept hW 4 _ rfl).1, (R4.out.kept hW 5 _ rfl).1, hW⟩)
        obtain ⟨i1, hi1, hz1a, hz1b, hz1c⟩ := info_parts info32
        have HSZ : RowKit.Hid (n ≤ 20) := Lib.hid (by omega)
        have HL1 : RowKit.Hid ((ms.flatMap mkC).length = n * 9) := Lib.hid (by rw [flat_lenV (k := 9) (fun _ => rfl), HMN.out])
        have HN1 : RowKit.Hid (∀ W, Kept W4 W → 0 < n → ∃ ad, A = some ad ∧ ∀ j u, (ms.flatMap mkC)[j]? = some u → W.cell? (ad.add j) = some u) := Lib.hid (fun W hW => slA_news (fun _ => rfl) (by decide) (HS.out.1.kept (K4.out.trans hW)))
        go_upto_region 15 with fail
        go_cut [14] (fun s14 wx => ∃ g g1 d1, s14 = .pointer (some ⟨g, 0, none⟩) ∧ RowC wx g [.slice (some ⟨g1, 0, none⟩) (n + 1) d1, .slice B m d] ∧ wx.ownsRow W4.heap.size 32 9 (.slice (some ⟨g1, 0, none⟩) (n + 1) d1) (n + 1) (ms.flatMap mkC ++ [.int .i64 owner, .int .i64 day, .int .i64 day, .int .u8 s.s0, .int .u8 s.s1, .int .u8 s.s2, .int .u8 s.s3, .int .u8 s.s4, .int .u8 s.s5]) ∧ W4.heap.size ≤ g ∧ Kept W4 wx)
        case first =>
          obtain ⟨Wd, hWd⟩ : ∃ Wd, Wd = W4.drew := ⟨_, rfl⟩
          have HKd : RowKit.Hid (Kept W4 Wd) := Lib.hid (by rw [hWd]; exact (Kept.refl W4).drew)
          refine wp_region_held_drew (S := fun W => W.cell? ⟨w.heap.size, 0, none⟩ = some (.slice A n c) ∧ W.cell? ⟨w.heap.size, 1, none⟩ = some (.slice B m d) ∧ W.cell? ⟨w1.heap.size, 0, none⟩ = some (.int .u8 s.s0) ∧ W.cell? ⟨w1.heap.size, 1, none⟩ = some (.int .u8 s.s1) ∧ W.cell? ⟨w1.heap.size, 2, none⟩ = some (.int .u8 s.s2) ∧ W.cell? ⟨w1.heap.size, 3, none⟩ = some (.int .u8 s.s3) ∧ W.cell? ⟨w1.heap.size, 4, none⟩ = some (.int .u8 s.s4) ∧ W.cell? ⟨w1.heap.size, 5, none⟩ = some (.int .u8 s.s5) ∧ Kept W4 W) (by kernel_rfl) (SC.out _ (Kept.refl W4).drew) (fun hHeld => ?_)
          rw [← hWd] at hHeld ⊢
          clear hWd
          refine take_at (i := 1) (d := some 70) (v := ?_) rfl rfl (by kernel_rfl) (by kernel_rfl) (by kernel_rfl) (fun _ _ _ h => h) (Or.inl ⟨by rfl, ?_⟩) hHeld ?_
          rotate_left
          · intro w hSw
            try dsimp only at hSw
            go_simp
            try (with_reducible rfl)
          try simp only [Act.put, List.setIfInBounds_toArray, List.set_cons_zero, List.set_cons_succ]
          refine take_at (i := 2) (d := some 71) (v := ?_) rfl rfl (by kernel_rfl) (by kernel_rfl) (by kernel_rfl) (fun _ _ _ h => h) (Or.inl ⟨by rfl, ?_⟩) hHeld ?_
          rotate_left
          · intro w hSw
            try dsimp only at hSw
            go_simp
            try (with_reducible rfl)
          try simp only [Act.put, List.setIfInBounds_toArray, List.set_cons_zero, List.set_cons_succ]
          refine take_at (i := 4) (d := some 73) (v := ?_) rfl rfl (by kernel_rfl) (by kernel_rfl) (by kernel_rfl) (fun _ _ _ h => h) (Or.inl ⟨by rfl, ?_⟩) hHeld ?_
          rotate_left
          · intro w hSw
            try dsimp only at hSw
            go_simp
            try (with_reducible rfl)
          try simp only [Act.put, List.setIfInBounds_toArray, List.set_cons_zero, List.set_cons_succ]
          refine take_at (i := 5) (d := some 74) (v := ?_) rfl rfl (by kernel_rfl) (by kernel_rfl) (by kernel_rfl) (fun _ _ _ h => h) (Or.inl ⟨by rfl, ?_⟩) hHeld ?_
          rotate_left
          · intro w hSw
            try dsimp only at hSw
            go_simp
            try (with_reducible rfl)
          try simp only [Act.put, List.setIfInBounds_toArray, List.set_cons_zero, List.set_cons_succ]
          refine take_at (i := 6) (d := some 75) (v := ?_) rfl rfl (by kernel_rfl) (by kernel_rfl) (by kernel_rfl) (fun _ _ _ h => h) (Or.inl ⟨by rfl, ?_⟩) hHeld ?_
          rotate_left
          · intro w hSw
            try dsimp only at hSw
            go_simp
            try (with_reducible rfl)
          try simp only [Act.put, List.setIfInBounds_toArray, List.set_cons_zero, List.set_cons_succ]
          refine take_at (i := 7) (d := some 76) (v := ?_) rfl rfl (by kernel_rfl) (by kernel_rfl) (by kernel_rfl) (fun _ _ _ h => h) (Or.inl ⟨by rfl, ?_⟩) hHeld ?_
          rotate_left
          · intro w hSw
            try dsimp only at hSw
            go_simp
            try (with_reducible rfl)
          try simp only [Act.put, List.setIfInBounds_toArray, List.set_cons_zero, List.set_cons_succ]
          refine take_at (i := 8) (d := some 77) (v := ?_) rfl rfl (by kernel_rfl) (by kernel_rfl) (by kernel_rfl) (fun _ _ _ h => h) (Or.inl ⟨by rfl, ?_⟩) hHeld ?_
          rotate_left
          · intro w hSw
            try dsimp only at hSw
            go_simp
            try (with_reducible rfl)
          try simp only [Act.put, List.setIfInBounds_toArray, List.set_cons_zero, List.set_cons_succ]
          refine take_at (i := 9) (d := some 78) (v := ?_) rfl rfl (by kernel_rfl) (by kernel_rfl) (by kernel_rfl) (fun _ _ _ h => h) (Or.inl ⟨by rfl, ?_⟩) hHeld ?_
          rotate_left
          · intro w hSw
            try dsimp only at hSw
            go_simp
            try (with_reducible rfl)
          try simp only [Act.put, List.setIfInBounds_toArray, List.set_cons_zero, List.set_cons_succ]
          refine take_at (i := 12) (d := some 81) (v := ?_) rfl rfl (by kernel_rfl) (by kernel_rfl) (by kernel_rfl) (fun _ _ _ h => h) (Or.inl ⟨by rfl, ?_⟩) hHeld ?_
          rotate_left
          · intro w hSw
            try dsimp only at hSw
            go_simp
            try (with_reducible rfl)
          try simp only [Act.put, List.setIfInBounds_toArray, List.set_cons_zero, List.set_cons_succ]
          refine take_at (i := 13) (d := some 82) (v := ?_) rfl rfl (by kernel_rfl) (by kernel_rfl) (by kernel_rfl) (fun _ _ _ h => h) (Or.inl ⟨by rfl, ?_⟩) hHeld ?_
          rotate_left
          · intro w hSw
            try dsimp only at hSw
            go_simp
            try (with_reducible rfl)
          try simp only [Act.put, List.setIfInBounds_toArray, List.set_cons_zero, List.set_cons_succ]
          refine wpAnyH_ready (rs := [0, 10, 15]) (by kernel_rfl) (by simp) ?_
          refine AllReadyH.cons rfl (fun K hK => ?_) ?_
          · rw [if_pos (by rfl)]
            go_simp
            obtain ⟨V1, hWn⟩ : ∃ V1, V1 = Wd.alloc (.cells #[] 32) := ⟨_, rfl⟩
            rw [← hWn]
            have kn : Kept Wd V1 := by rw [hWn]; exact (Kept.refl _).alloc _
            have HK_1 := Lib.hid (HKd.out.trans kn)
            have hge := HKd.out.size
            have Hc_1 : RowKit.Hid (V1.ownsRow W4.heap.size 32 9 (.slice (some ⟨Wd.heap.size, 0, none⟩) 0 0) 0 []) := Lib.hid (by rw [hWn]; exact own_base (own00 Wd _ 32 9 rfl) hge)
            refine hK.out _ _ (SC.out _ HK_1.out) (fun hHeld => ?_)
            clear hK K hWn kn hge
            try simp only [Act.put, List.setIfInBounds_toArray, List.set_cons_zero, List.set_cons_succ]
            refine wpAnyH_ready (rs := [3, 10, 15]) (by kernel_rfl) (by simp) ?_
            refine AllReadyH.cons rfl (fun K hK => ?_) ?_
            · refine step_copy rfl (.tmp 69) (.tmp 71) 22 rfl W4.heap.size 32 i1 _ 9 32 Tryz.underlying22 hi1 hz1a hz1b hz1c rfl (by decide) Wd.heap.size rfl Hc_1.out A n c (ms.flatMap mkC) rfl HL1.out (HN1.out _ HK_1.out) mkC_one (by have := HSZ.out; unfold maxLen; omega) (by have := HSZ.out; omega) HK_1.out.size ?_
              intro g2 d2 V2 hown hgrow hg
              have HK_2 := Lib.hid (HK_1.out.grown hgrow (fun q hq => by injection hq with hq; rw [← hq]; exact (Hc_1.out.lt _ rfl).1))
              have Hc_2 := Lib.hid hown
              refine hK.out _ _ (SC.out _ HK_2.out) (fun hHeld => ?_)
              clear hK K hown hgrow hg
              try simp only [Act.put, List.setIfInBounds_toArray, List.set_cons_zero, List.set_cons_succ]
              refine wpAnyH_ready (rs := [10, 15]) (by kernel_rfl) (by simp) ?_
              refine AllReadyH.cons rfl (fun K hK => ?_) ?_
              · rw [if_pos (by rfl)]
                go_simp
                obtain ⟨V3, hWn⟩ : ∃ V3, V3 = V2.alloc (.cells #[.int .i64 owner, .int .i64 day, .int .i64 day, .int .u8 s.s0, .int .u8 s.s1, .int .u8 s.s2, .int .u8 s.s3, .int .u8 s.s4, .int .u8 s.s5] 32) := ⟨_, rfl⟩
                rw [← hWn]
                have kn : Kept V2 V3 := by rw [hWn]; exact (Kept.refl _).alloc _
                have HK_3 := Lib.hid (HK_2.out.trans kn)
                have hge := HK_2.out.size
                have Hc_3 := Lib.hid (own_kept Hc_2.out kn)
                have Hw_3 : RowKit.Hid (RowC V3 V2.heap.size [.int .i64 owner, .int .i64 day, .int .i64 day, .int .u8 s.s0, .int .u8 s.s1, .int .u8 s.s2, .int .u8 s.s3, .int .u8 s.s4, .int .u8 s.s5]) := Lib.hid (by rw [hWn]; exact RowC.new V2 [.int .i64 owner, .int .i64 day, .int .i64 day, .int .u8 s.s0, .int .u8 s.s1, .int .u8 s.s2, .int .u8 s.s3, .int .u8 s.s4, .int .u8 s.s5] 32)
                have HDwc_3 : RowKit.Hid (V2.heap.size ≠ g2) := Lib.hid (fun e => by have := (show g2 < V2.heap.size from own_lt Hc_2.out rfl); omega)
                refine hK.out _ _ (SC.out _ HK_3.out) (fun hHeld => ?_)
                clear hK K hWn kn hge
                try simp only [Act.put, List.setIfInBounds_toArray, List.set_cons_zero, List.set_cons_succ]
                refine wpAnyH_ready (rs := [11, 15]) (by kernel_rfl) (by simp) ?_
                refine AllReadyH.cons rfl (fun K hK => ?_) ?_
                · refine step_append_lies _ rfl (.tmp 72) (.tmp 79) 22 rfl W4.heap.size 32 i1 _ 9 32 Tryz.underlying22 hi1 hz1a hz1b hz1c rfl (by decide) (.slice (some ⟨g2, 0, none⟩) n d2) n (ms.flatMap mkC) rfl Hc_3.out ⟨V2.heap.size, 0, none⟩ 1 1 [.int .i64 owner, .int .i64 day, .int .i64 day, .int .u8 s.s0, .int .u8 s.s1, .int .u8 s.s2, .int .u8 s.s3, .int .u8 s.s4, .int .u8 s.s5] rfl rfl (fun j u hu => by rw [addr_add, Nat.zero_add]; exact (Hw_3.out j u hu).1) (fun u hu => mkC_one (ms := [⟨owner, day, day, s⟩]) u (by simpa [mkC] using hu)) (by decide) (by have := HSZ.out; unfold maxLen; omega) (by have := HSZ.out; omega) HK_3.out.size _ rfl ?_
                  intro g4 d4 V4 hown hgrow hg2 hlt9
                  have hg : g4 = g2 ∨ V3.heap.size ≤ g4 := by
                    rcases hg2 with h | h
                    · injection h with h
                      exact .inl h.symm
                    · exact .inr (by omega)
                  clear hg2 hlt9
                  have HK_4 := Lib.hid (HK_3.out.grown hgrow (fun q hq => by injection hq with hq; rw [← hq]; exact (Hc_3.out.lt _ rfl).1))
                  have Hw_4 := Lib.hid (rowC_grown Hw_3.out hgrow (fun e => by injection e with e; exact (Ne.symm HDwc_3.out) e))
                  have Hc_4 := Lib.hid hown
                  have HDcw_4 : RowKit.Hid (g4 ≠ V2.heap.size) := Lib.hid (fun e => by
                    rcases hg with h | h
                    · exact (Ne.symm HDwc_3.out) (h.symm.trans e)
                    · have := (show V2.heap.size < V3.heap.size from cell_lt (Hw_3.out 0 _ rfl).1); omega)
                  refine hK.out _ _ (SC.out _ HK_4.out) (fun hHeld => ?_)
                  clear hK K hown hgrow hg
                  try simp only [Act.put, List.setIfInBounds_toArray, List.set_cons_zero, List.set_cons_succ]
                  refine take_at (i := 14) (d := some 83) (v := ?_) rfl rfl (by kernel_rfl) (by kernel_rfl) (by kernel_rfl) (fun _ _ _ h => h) (Or.inl ⟨by rfl, ?_⟩) hHeld ?_
                  rotate_left
                  · intro w hSw
                    try dsimp only at hSw
                    go_simp
                    try (with_reducible rfl)
                  try simp only [Act.put, List.setIfInBounds_toArray, List.set_cons_zero, List.set_cons_succ]
                  refine wpAnyH_ready (rs := [15]) (by kernel_rfl) (by simp) ?_
                  refine AllReadyH.cons rfl (fun K hK => ?_) AllReadyH.nil
                  rw [if_pos (by rfl)]
                  go_simp
                  obtain ⟨V5, hWn⟩ : ∃ V5, V5 = V4.alloc (.cells #[.slice none 0 0, .slice none 0 0] 25) := ⟨_, rfl⟩
                  rw [← hWn]
                  have kn : Kept V4 V5 := by rw [hWn]; exact (Kept.refl _).alloc _
                  have HK_5 := Lib.hid (HK_4.out.trans kn)
                  have hge := HK_4.out.size
                  have Hc_5 := Lib.hid (own_kept Hc_4.out kn)
                  have Hw_5 := Lib.hid (Hw_4.out.kept kn)
                  have Hz_5 : RowKit.Hid (RowC V5 V4.heap.size [.slice none 0 0, .slice none 0 0]) := Lib.hid (by rw [hWn]; exact RowC.new V4 [.slice none 0 0, .slice none 0 0] 25)
                  have HG_5 : RowKit.Hid (W4.heap.size ≤ V4.heap.size) := Lib.hid hge
                  have HDzc_5 : RowKit.Hid (V4.heap.size ≠ g4) := Lib.hid (fun e => by have := (show g4 < V4.heap.size from own_lt Hc_4.out rfl); omega)
                  have HDzw_5 : RowKit.Hid (V4.heap.size ≠ V2.heap.size) := Lib.hid (fun e => by have := (show V2.heap.size < V4.heap.size from cell_lt (Hw_4.out 0 _ rfl).1); omega)
                  refine hK.out _ _ (SC.out _ HK_5.out) (fun hHeld => ?_)
                  clear hK K hWn kn hge
                  try simp only [Act.put, List.setIfInBounds_toArray, List.set_cons_zero, List.set_cons_succ]
                  have c0 := (Hz_5.out 0 _ rfl).1
                  have c1 := (Hz_5.out 1 _ rfl).1
                  have f0 := (Hz_5.out 0 _ rfl).2
                  have f1 := (Hz_5.out 1 _ rfl).2
                  refine wpAnyH_ready (rs := [16]) (by kernel_rfl) (by simp) ?_
                  refine AllReadyH.cons rfl (fun K hK => ?_) AllReadyH.nil
                  rw [if_pos (by rfl)]
                  go_simp
                  have kz : Kept W4 ((V5.setCell ⟨V4.heap.size, 0, none⟩ (.slice (some ⟨g4, 0, none⟩) (n + 1) d4)).setCell ⟨V4.heap.size, 1, none⟩ (.slice B m d)) := (HK_5.out.setCell (p := ⟨V4.heap.size, 0, none⟩) (by have := HG_5.out; simpa using this) _).setCell (p := ⟨V4.heap.size, 1, none⟩) (by have := HG_5.out; simpa using this) _
                  refine hK.out _ _ (SC.out _ kz) (fun hHeld => ?_)
                  clear hK K
                  try simp only [Act.put, List.setIfInBounds_toArray, List.set_cons_zero, List.set_cons_succ]
                  refine wpAnyH_done (by kernel_rfl) ?_ _
                  go_wp2
                  go_meet
                  refine ⟨V4.heap.size, g4, d4, rfl, ?_, ?_, HG_5.out, kz⟩
                  · exact (Hz_5.out.put (j := 0) (by simp) (.slice (some ⟨g4, 0, none⟩) (n + 1) d4)).put (j := 1) (by simp) (.slice B m d)
                  · exact ownsRow_setCell_other (ownsRow_setCell_other Hc_5.out (fun e => by injection e with e; exact (Ne.symm HDzc_5.out) e) _) (fun e => by injection e with e; exact (Ne.symm HDzc_5.out) e) _
                refine AllReadyH.cons rfl (fun K hK => ?_) AllReadyH.nil
                rw [if_pos (by rfl)]
                go_simp
                obtain ⟨V6, hWn⟩ : ∃ V6, V6 = V3.alloc (.cells #[.slice none 0 0, .slice none 0 0] 25) := ⟨_, rfl⟩
                rw [← hWn]
                have kn : Kept V3 V6 := by rw [hWn]; exact (Kept.refl _).alloc _
                have HK_6 := Lib.hid (HK_3.out.trans kn)
                have hge := HK_3.out.size
                have Hc_6 := Lib.hid (own_kept Hc_3.out kn)
                have Hw_6 := Lib.hid (Hw_3.out.kept kn)
                have Hz_6 : RowKit.Hid (RowC V6 V3.heap.size [.slice none 0 0, .slice none 0 0]) := Lib.hid (by rw [hWn]; exact RowC.new V3 [.slice none 0 0, .slice none 0 0] 25)
                have HG_6 : RowKit.Hid (W4.heap.size ≤ V3.heap.size) := Lib.hid hge
                have HDzc_6 : RowKit.Hid (V3.heap.size ≠ g2) := Lib.hid (fun e => by have := (show g2 < V3.heap.size from own_lt Hc_3.out rfl); omega)
                have HDzw_6 : RowKit.Hid (V3.heap.size ≠ V2.heap.size) := Lib.hid (fun e => by have := (show V2.heap.size < V3.heap.size from cell_lt (Hw_3.out 0 _ rfl).1); omega)
                refine hK.out _ _ (SC.out _ HK_6.out) (fun hHeld => ?_)
                clear hK K hWn kn hge
                try simp only [Act.put, List.setIfInBounds_toArray, List.set_cons_zero, List.set_cons_succ]
                refine wpAnyH_ready (rs := [11]) (by kernel_rfl) (by simp) ?_
                refine AllReadyH.cons rfl (fun K hK => ?_) AllReadyH.nil
                refine step_append_lies _ rfl (.tmp 72) (.tmp 79) 22 rfl W4.heap.size 32 i1 _ 9 32 Tryz.underlying22 hi1 hz1a hz1b hz1c rfl (by decide) (.slice (some ⟨g2, 0, none⟩) n d2) n (ms.flatMap mkC) rfl Hc_6.out ⟨V2.heap.size, 0, none⟩ 1 1 [.int .i64 owner, .int .i64 day, .int .i64 day, .int .u8 s.s0, .int .u8 s.s1, .int .u8 s.s2, .int .u8 s.s3, .int .u8 s.s4, .int .u8 s.s5] rfl rfl (fun j u hu => by rw [addr_add, Nat.zero_add]; exact (Hw_6.out j u hu).1) (fun u hu => mkC_one (ms := [⟨owner, day, day, s⟩]) u (by simpa [mkC] using hu)) (by decide) (by have := HSZ.out; unfold maxLen; omega) (by have := HSZ.out; omega) HK_6.out.size _ rfl ?_
                intro g7 d7 V7 hown hgrow hg2 hlt9
                have hg : g7 = g2 ∨ V6.heap.size ≤ g7 := by
                  rcases hg2 with h | h
                  · injection h with h
                    exact .inl h.symm
                  · exact .inr (by omega)
                clear hg2 hlt9
                have HK_7 := Lib.hid (HK_6.out.grown hgrow (fun q hq => by injection hq with hq; rw [← hq]; exact (Hc_6.out.lt _ rfl).1))
                have Hw_7 := Lib.hid (rowC_grown Hw_6.out hgrow (fun e => by injection e with e; exact (Ne.symm HDwc_3.out) e))
                have Hz_7 := Lib.hid (rowC_grown Hz_6.out hgrow (fun e => by injection e with e; exact (Ne.symm HDzc_6.out) e))
                have Hc_7 := Lib.hid hown
                have HDcw_7 : RowKit.Hid (g7 ≠ V2.heap.size) := Lib.hid (fun e => by
                  rcases hg with h | h
                  · exact (Ne.symm HDwc_3.out) (h.symm.trans e)
                  · have := (show V2.heap.size < V6.heap.size from cell_lt (Hw_6.out 0 _ rfl).1); omega)
                have HDcz_7 : RowKit.Hid (g7 ≠ V3.heap.size) := Lib.hid (fun e => by
                  rcases hg with h | h
                  · exact (Ne.symm HDzc_6.out) (h.symm.trans e)
                  · have := (show V3.heap.size < V6.heap.size from cell_lt (Hz_6.out 0 _ rfl).1); omega)
                refine hK.out _ _ (SC.out _ HK_7.out) (fun hHeld => ?_)
                clear hK K hown hgrow hg
                try simp only [Act.put, List.setIfInBounds_toArray, List.set_cons_zero, List.set_cons_succ]
                refine take_at (i := 14) (d := some 83) (v := ?_) rfl rfl (by kernel_rfl) (by kernel_rfl) (by kernel_rfl) (fun _ _ _ h => h) (Or.inl ⟨by rfl, ?_⟩) hHeld ?_
                rotate_left
                · intro w hSw
                  try dsimp only at hSw
                  go_simp
                  try (with_reducible rfl)
                try simp only [Act.put, List.setIfInBounds_toArray, List.set_cons_zero, List.set_cons_succ]
                have c0 := (Hz_7.out 0 _ rfl).1
                have c1 := (Hz_7.out 1 _ rfl).1
                have f0 := (Hz_7.out 0 _ rfl).2
                have f1 := (Hz_7.out 1 _ rfl).2
                refine wpAnyH_ready (rs := [16]) (by kernel_rfl) (by simp) ?_
                refine AllReadyH.cons rfl (fun K hK => ?_) AllReadyH.nil
                rw [if_pos (by rfl)]
                go_simp
                have kz : Kept W4 ((V7.setCell ⟨V3.heap.size, 0, none⟩ (.slice (some ⟨g7, 0, none⟩) (n + 1) d7)).setCell ⟨V3.heap.size, 1, none⟩ (.slice B m d)) := (HK_7.out.setCell (p := ⟨V3.heap.size, 0, none⟩) (by have := HG_6.out; simpa using this) _).setCell (p := ⟨V3.heap.size, 1, none⟩) (by have := HG_6.out; simpa using this) _
                refine hK.out _ _ (SC.out _ kz) (fun hHeld => ?_)
                clear hK K
                try simp only [Act.put, List.setIfInBounds_toArray, List.set_cons_zero, List.set_cons_succ]
                refine wpAnyH_done (by kernel_rfl) ?_ _
                go_wp2
                go_meet
                refine ⟨V3.heap.size, g7, d7, rfl, ?_, ?_, HG_6.out, kz⟩
                · exact (Hz_7.out.put (j := 0) (by simp) (.slice (some ⟨g7, 0, none⟩) (n + 1) d7)).put (j := 1) (by simp) (.slice B m d)
                · exact ownsRow_setCell_other (ownsRow_setCell_other Hc_7.out (fun e => by injection e with e; exact HDcz_7.out e) _) (fun e => by injection e with e; exact HDcz_7.out e) _
              refine AllReadyH.cons rfl (fun K hK => ?_) AllReadyH.nil
              rw [if_pos (by rfl)]
              go_simp
              obtain ⟨V8, hWn⟩ : ∃ V8, V8 = V2.alloc (.cells #[.slice none 0 0, .slice none 0 0] 25) := ⟨_, rfl⟩
              rw [← hWn]
              have kn : Kept V2 V8 := by rw [hWn]; exact (Kept.refl _).alloc _
              have HK_8 := Lib.hid (HK_2.out.trans kn)
              have hge := HK_2.out.size
              have Hc_8 := Lib.hid (own_kept Hc_2.out kn)
              have Hz_8 : RowKit.Hid (RowC V8 V2.heap.size [.slice none 0 0, .slice none 0 0]) := Lib.hid (by rw [hWn]; exact RowC.new V2 [.slice none 0 0, .slice none 0 0] 25)
              have HG_8 : RowKit.Hid (W4.heap.size ≤ V2.heap.size) := Lib.hid hge
              have HDzc_8 : RowKit.Hid (V2.heap.size ≠ g2) := Lib.hid (fun e => by have := (show g2 < V2.heap.size from own_lt Hc_2.out rfl); omega)
              refine hK.out _ _ (SC.out _ HK_8.out) (fun hHeld => ?_)
              clear hK K hWn kn hge
              try simp only [Act.put, List.setIfInBounds_toArray, List.set_cons_zero, List.set_cons_succ]
              refine wpAnyH_ready (rs := [10]) (by kernel_rfl) (by simp) ?_
              refine AllReadyH.cons rfl (fun K hK => ?_) AllReadyH.nil
              rw [if_pos (by rfl)]
              go_simp
              obtain ⟨V9, hWn⟩ : ∃ V9, V9 = V8.alloc (.cells #[.int .i64 owner, .int .i64 day, .int .i64 day, .int .u8 s.s0, .int .u8 s.s1, .int .u8 s.s2, .int .u8 s.s3, .int .u8 s.s4, .int .u8 s.s5] 32) := ⟨_, rfl⟩
              rw [← hWn]
              have kn : Kept V8 V9 := by rw [hWn]; exact (Kept.refl _).alloc _
              have HK_9 := Lib.hid (HK_8.out.trans kn)
              have hge := HK_8.out.size
              have Hc_9 := Lib.hid (own_kept Hc_8.out kn)
              have Hz_9 := Lib.hid (Hz_8.out.kept kn)
              have Hw_9 : RowKit.Hid (RowC V9 V8.heap.size [.int .i64 owner, .int .i64 day, .int .i64 day, .int .u8 s.s0, .int .u8 s.s1, .int .u8 s.s2, .int .u8 s.s3, .int .u8 s.s4, .int .u8 s.s5]) := Lib.hid (by rw [hWn]; exact RowC.new V8 [.int .i64 owner, .int .i64 day, .int .i64 day, .int .u8 s.s0, .int .u8 s.s1, .int .u8 s.s2, .int .u8 s.s3, .int .u8 s.s4, .int .u8 s.s5] 32)
              have HDwc_9 : RowKit.Hid (V8.heap.size ≠ g2) := Lib.hid (fun e => by have := (show g2 < V8.heap.size from own_lt Hc_8.out rfl); omega)
              have HDwz_9 : RowKit.Hid (V8.heap.size ≠ V2.heap.size) := Lib.hid (fun e => by have := (show V2.heap.size < V8.heap.size from cell_lt (Hz_8.out 0 _ rfl).1); omega)
              refine hK.out _ _ (SC.out _ HK_9.out) (fun hHeld => ?_)
              clear hK K hWn kn hge
              try simp only [Act.put, List.setIfInBounds_toArray, List.set_cons_zero, List.set_cons_succ]
              refine wpAnyH_ready (rs := [11]) (by kernel_rfl) (by simp) ?_
              refine AllReadyH.cons rfl (fun K hK => ?_) AllReadyH.nil
              refine step_append_lies _ rfl (.tmp 72) (.tmp 79) 22 rfl W4.heap.size 32 i1 _ 9 32 Tryz.underlying22 hi1 hz1a hz1b hz1c rfl (by decide) (.slice (some ⟨g2, 0, none⟩) n d2) n (ms.flatMap mkC) rfl Hc_9.out ⟨V8.heap.size, 0, none⟩ 1 1 [.int .i64 owner, .int .i64 day, .int .i64 day, .int .u8 s.s0, .int .u8 s.s1, .int .u8 s.s2, .int .u8 s.s3, .int .u8 s.s4, .int .u8 s.s5] rfl rfl (fun j u hu => by rw [addr_add, Nat.zero_add]; exact (Hw_9.out j u hu).1) (fun u hu => mkC_one (ms := [⟨owner, day, day, s⟩]) u (by simpa [mkC] using hu)) (by decide) (by have := HSZ.out; unfold maxLen; omega) (by have := HSZ.out; omega) HK_9.out.size _ rfl ?_
              intro g10 d10 V10 hown hgrow hg2 hlt9
              have hg : g10 = g2 ∨ V9.heap.size ≤ g10 := by
                rcases hg2 with h | h
                · injection h with h
                  exact .inl h.symm
                · exact .inr (by omega)
              clear hg2 hlt9
              have HK_10 := Lib.hid (HK_9.out.grown hgrow (fun q hq => by injection hq with hq; rw [← hq]; exact (Hc_9.out.lt _ rfl).1))
              have Hw_10 := Lib.hid (rowC_grown Hw_9.out hgrow (fun e => by injection e with e; exact (Ne.symm HDwc_9.out) e))
              have Hz_10 := Lib.hid (rowC_grown Hz_9.out hgrow (fun e => by injection e with e; exact (Ne.symm HDzc_8.out) e))
              have Hc_10 := Lib.hid hown
              have HDcw_10 : RowKit.Hid (g10 ≠ V8.heap.size) := Lib.hid (fun e => by
                rcases hg with h | h
                · exact (Ne.symm HDwc_9.out) (h.symm.trans e)
                · have := (show V8.heap.size < V9.heap.size from cell_lt (Hw_9.out 0 _ rfl).1); omega)
              have HDcz_10 : RowKit.Hid (g10 ≠ V2.heap.size) := Lib.hid (fun e => by
                rcases hg with h | h
                · exact (Ne.symm HDzc_8.out) (h.symm.trans e)
                · have := (show V2.heap.size < V9.heap.size from cell_lt (Hz_9.out 0 _ rfl).1); omega)
              refine hK.out _ _ (SC.out _ HK_10.out) (fun hHeld => ?_)
              clear hK K hown hgrow hg
              try simp only [Act.put, List.setIfInBounds_toArray, List.set_cons_zero, List.set_cons_succ]
              refine take_at (i := 14) (d := some 83) (v := ?_) rfl rfl (by kernel_rfl) (by kernel_rfl) (by kernel_rfl) (fun _ _ _ h => h) (Or.inl ⟨by rfl, ?_⟩) hHeld ?_
              rotate_left
              · intro w hSw
                try dsimp only at hSw
                go_simp
                try (with_reducible rfl)
              try simp only [Act.put, List.setIfInBounds_toArray, List.set_cons_zero, List.set_cons_succ]
              have c0 := (Hz_10.out 0 _ rfl).1
              have c1 := (Hz_10.out 1 _ rfl).1
              have f0 := (Hz_10.out 0 _ rfl).2
              have f1 := (Hz_10.out 1 _ rfl).2
              refine wpAnyH_ready (rs := [16]) (by kernel_rfl) (by simp) ?_
              refine AllReadyH.cons rfl (fun K hK => ?_) AllReadyH.nil
              rw [if_pos (by rfl)]
              go_simp
              have kz : Kept W4 ((V10.setCell ⟨V2.heap.size, 0, none⟩ (.slice (some ⟨g10, 0, none⟩) (n + 1) d10)).setCell ⟨V2.heap.size, 1, none⟩ (.slice B m d)) := (HK_10.out.setCell (p := ⟨V2.heap.size, 0, none⟩) (by have := HG_8.out; simpa using this) _).setCell (p := ⟨V2.heap.size, 1, none⟩) (by have := HG_8.out; simpa using this) _
              refine hK.out _ _ (SC.out _ kz) (fun hHeld => ?_)
              clear hK K
              try simp only [Act.put, List.setIfInBounds_toArray, List.set_cons_zero, List.set_cons_succ]
              refine wpAnyH_done (by kernel_rfl) ?_ _
              go_wp2
              go_meet
              refine ⟨V2.heap.size, g10, d10, rfl, ?_, ?_, HG_8.out, kz⟩
              · exact (Hz_10.out.put (j := 0) (by simp) (.slice (some ⟨g10, 0, none⟩) (n + 1) d10)).put (j := 1) (by simp) (.slice B m d)
              · exact ownsRow_setCell_other (ownsRow_setCell_other Hc_10.out (fun e => by injection e with e; exact HDcz_10.out e) _) (fun e => by injection e with e; exact HDcz_10.out e) _
            refine AllReadyH.cons rfl (fun K hK => ?_) ?_
            · rw [if_pos (by rfl)]
              go_simp
              obtain ⟨V11, hWn⟩ : ∃ V11, V11 = V1.alloc (.cells #[.int .i64 owner, .int .i64 day, .int .i64 day, .int .u8 s.s0, .int .u8 s.s1, .int .u8 s.s2, .int .u8 s.s3, .int .u8 s.s4, .int .u8 s.s5] 32) := ⟨_, rfl⟩
              rw [← hWn]
              have kn : Kept V1 V11 := by rw [hWn]; exact (Kept.refl _).alloc _
              have HK_11 := Lib.hid (HK_1.out.trans kn)
              have hge := HK_1.out.size
              have Hc_11 := Lib.hid (own_kept Hc_1.out kn)
              have Hw_11 : RowKit.Hid (RowC V11 V1.heap.size [.int .i64 owner, .int .i64 day, .int .i64 day, .int .u8 s.s0, .int .u8 s.s1, .int .u8 s.s2, .int .u8 s.s3, .int .u8 s.s4, .int .u8 s.s5]) := Lib.hid (by rw [hWn]; exact RowC.new V1 [.int .i64 owner, .int .i64 day, .int .i64 day, .int .u8 s.s0, .int .u8 s.s1, .int .u8 s.s2, .int .u8 s.s3, .int .u8 s.s4, .int .u8 s.s5] 32)
              have HDwc_11 : RowKit.Hid (V1.heap.size ≠ Wd.heap.size) := Lib.hid (fun e => by have := (show Wd.heap.size < V1.heap.size from own_lt Hc_1.out rfl); omega)
              refine hK.out _ _ (SC.out _ HK_11.out) (fun hHeld => ?_)
              clear hK K hWn kn hge
              try simp only [Act.put, List.setIfInBounds_toArray, List.set_cons_zero, List.set_cons_succ]
              refine wpAnyH_ready (rs := [3, 15]) (by kernel_rfl) (by simp) ?_
              refine AllReadyH.cons rfl (fun K hK => ?_) ?_
              · refine step_copy rfl (.tmp 69) (.tmp 71) 22 rfl W4.heap.size 32 i1 _ 9 32 Tryz.underlying22 hi1 hz1a hz1b hz1c rfl (by decide) Wd.heap.size rfl Hc_11.out A n c (ms.flatMap mkC) rfl HL1.out (HN1.out _ HK_11.out) mkC_one (by have := HSZ.out; unfold maxLen; omega) (by have := HSZ.out; omega) HK_11.out.size ?_
                intro g12 d12 V12 hown hgrow hg
                have HK_12 := Lib.hid (HK_11.out.grown hgrow (fun q hq => by injection hq with hq; rw [← hq]; exact (Hc_11.out.lt _ rfl).1))
                have Hw_12 := Lib.hid (rowC_grown Hw_11.out hgrow (fun e => by injection e with e; exact (Ne.symm HDwc_11.out) e))
                have Hc_12 := Lib.hid hown
                have HDcw_12 : RowKit.Hid (g12 ≠ V1.heap.size) := Lib.hid (fun e => by
                  rcases hg with h | h
                  · exact (Ne.symm HDwc_11.out) (h.symm.trans e)
                  · have := (show V1.heap.size < V11.heap.size from cell_lt (Hw_11.out 0 _ rfl).1); omega)
                refine hK.out _ _ (SC.out _ HK_12.out) (fun hHeld => ?_)
                clear hK K hown hgrow hg
                try simp only [Act.put, List.setIfInBounds_toArray, List.set_cons_zero, List.set_cons_succ]
                refine wpAnyH_ready (rs := [11, 15]) (by kernel_rfl) (by simp) ?_
                refine AllReadyH.cons rfl (fun K hK => ?_) ?_
                · refine step_append_lies _ rfl (.tmp 72) (.tmp 79) 22 rfl W4.heap.size 32 i1 _ 9 32 Tryz.underlying22 hi1 hz1a hz1b hz1c rfl (by decide) (.slice (some ⟨g12, 0, none⟩) n d12) n (ms.flatMap mkC) rfl Hc_12.out ⟨V1.heap.size, 0, none⟩ 1 1 [.int .i64 owner, .int .i64 day, .int .i64 day, .int .u8 s.s0, .int .u8 s.s1, .int .u8 s.s2, .int .u8 s.s3, .int .u8 s.s4, .int .u8 s.s5] rfl rfl (fun j u hu => by rw [addr_add, Nat.zero_add]; exact (Hw_12.out j u hu).1) (fun u hu => mkC_one (ms := [⟨owner, day, day, s⟩]) u (by simpa [mkC] using hu)) (by decide) (by have := HSZ.out; unfold maxLen; omega) (by have := HSZ.out; omega) HK_12.out.size _ rfl ?_
                  intro g13 d13 V13 hown hgrow hg2 hlt9
                  have hg : g13 = g12 ∨ V12.heap.size ≤ g13 := by
                    rcases hg2 with h | h
                    · injection h with h
                      exact .inl h.symm
                    · exact .inr (by omega)
                  clear hg2 hlt9
                  have HK_13 := Lib.hid (HK_12.out.grown hgrow (fun q hq => by injection hq with hq; rw [← hq]; exact (Hc_12.out.lt _ rfl).1))
                  have Hw_13 := Lib.hid (rowC_grown Hw_12.out hgrow (fun e => by injection e with e; exact HDcw_12.out e))
                  have Hc_13 := Lib.hid hown
                  have HDcw_13 : RowKit.Hid (g13 ≠ V1.heap.size) := Lib.hid (fun e => by
                    rcases hg with h | h
                    · exact HDcw_12.out (h.symm.trans e)
                    · have := (show V1.heap.size < V12.heap.size from cell_lt (Hw_12.out 0 _ rfl).1); omega)
                  refine hK.out _ _ (SC.out _ HK_13.out) (fun hHeld => ?_)
                  clear hK K hown hgrow hg
                  try simp only [Act.put, List.setIfInBounds_toArray, List.set_cons_zero, List.set_cons_succ]
                  refine take_at (i := 14) (d := some 83) (v := ?_) rfl rfl (by kernel_rfl) (by kernel_rfl) (by kernel_rfl) (fun _ _ _ h => h) (Or.inl ⟨by rfl, ?_⟩) hHeld ?_
                  rotate_left
                  · intro w hSw
                    try dsimp only at hSw
                    go_simp
                    try (with_reducible rfl)
                  try simp only [Act.put, List.setIfInBounds_toArray, List.set_cons_zero, List.set_cons_succ]
                  refine wpAnyH_ready (rs := [15]) (by kernel_rfl) (by simp) ?_
                  refine AllReadyH.cons rfl (fun K hK => ?_) AllReadyH.nil
                  rw [if_pos (by rfl)]
                  go_simp
                  obtain ⟨V14, hWn⟩ : ∃ V14, V14 = V13.alloc (.cells #[.slice none 0 0, .slice none 0 0] 25) := ⟨_, rfl⟩
                  rw [← hWn]
                  have kn : Kept V13 V14 := by rw [hWn]; exact (Kept.refl _).alloc _
                  have HK_14 := Lib.hid (HK_13.out.trans kn)
                  have hge := HK_13.out.size
                  have Hc_14 := Lib.hid (own_kept Hc_13.out kn)
                  have Hw_14 := Lib.hid (Hw_13.out.kept kn)
                  have Hz_14 : RowKit.Hid (RowC V14 V13.heap.size [.slice none 0 0, .slice none 0 0]) := Lib.hid (by rw [hWn]; exact RowC.new V13 [.slice none 0 0, .slice none 0 0] 25)
                  have HG_14 : RowKit.Hid (W4.heap.size ≤ V13.heap.size) := Lib.hid hge
                  have HDzc_14 : RowKit.Hid (V13.heap.size ≠ g13) := Lib.hid (fun e => by have := (show g13 < V13.heap.size from own_lt Hc_13.out rfl); omega)
                  have HDzw_14 : RowKit.Hid (V13.heap.size ≠ V1.heap.size) := Lib.hid (fun e => by have := (show V1.heap.size < V13.heap.size from cell_lt (Hw_13.out 0 _ rfl).1); omega)
                  refine hK.out _ _ (SC.out _ HK_14.out) (fun hHeld => ?_)
                  clear hK K hWn kn hge
                  try simp only [Act.put, List.setIfInBounds_toArray, List.set_cons_zero, List.set_cons_succ]
                  have c0 := (Hz_14.out 0 _ rfl).1
                  have c1 := (Hz_14.out 1 _ rfl).1
                  have f0 := (Hz_14.out 0 _ rfl).2
                  have f1 := (Hz_14.out 1 _ rfl).2
                  refine wpAnyH_ready (rs := [16]) (by kernel_rfl) (by simp) ?_
                  refine AllReadyH.cons rfl (fun K hK => ?_) AllReadyH.nil
                  rw [if_pos (by rfl)]
                  go_simp
                  have kz : Kept W4 ((V14.setCell ⟨V13.heap.size, 0, none⟩ (.slice (some ⟨g13, 0, none⟩) (n + 1) d13)).setCell ⟨V13.heap.size, 1, none⟩ (.slice B m d)) := (HK_14.out.setCell (p := ⟨V13.heap.size, 0, none⟩) (by have := HG_14.out; simpa using this) _).setCell (p := ⟨V13.heap.size, 1, none⟩) (by have := HG_14.out; simpa using this) _
                  refine hK.out _ _ (SC.out _ kz) (fun hHeld => ?_)
                  clear hK K
                  try simp only [Act.put, List.setIfInBounds_toArray, List.set_cons_zero, List.set_cons_succ]
                  refine wpAnyH_done (by kernel_rfl) ?_ _
                  go_wp2
                  go_meet
                  refine ⟨V13.heap.size, g13, d13, rfl, ?_, ?_, HG_14.out, kz⟩
                  · exact (Hz_14.out.put (j := 0) (by simp) (.slice (some ⟨g13, 0, none⟩) (n + 1) d13)).put (j := 1) (by simp) (.slice B m d)
                  · exact ownsRow_setCell_other (ownsRow_setCell_other Hc_14.out (fun e => by injection e with e; exact (Ne.symm HDzc_14.out) e) _) (fun e => by injection e with e; exact (Ne.symm HDzc_14.out) e) _
                refine AllReadyH.cons rfl (fun K hK => ?_) AllReadyH.nil
                rw [if_pos (by rfl)]
                go_simp
                obtain ⟨V15, hWn⟩ : ∃ V15, V15 = V12.alloc (.cells #[.slice none 0 0, .slice none 0 0] 25) := ⟨_, rfl⟩
                rw [← hWn]
                have kn : Kept V12 V15 := by rw [hWn]; exact (Kept.refl _).alloc _
                have HK_15 := Lib.hid (HK_12.out.trans kn)
                have hge := HK_12.out.size
                have Hc_15 := Lib.hid (own_kept Hc_12.out kn)
                have Hw_15 := Lib.hid (Hw_12.out.kept kn)
                have Hz_15 : RowKit.Hid (RowC V15 V12.heap.size [.slice none 0 0, .slice none 0 0]) := Lib.hid (by rw [hWn]; exact RowC.new V12 [.slice none 0 0, .slice none 0 0] 25)
                have HG_15 : RowKit.Hid (W4.heap.size ≤ V12.heap.size) := Lib.hid hge
                have HDzc_15 : RowKit.Hid (V12.heap.size ≠ g12) := Lib.hid (fun e => by have := (show g12 < V12.heap.size from own_lt Hc_12.out rfl); omega)
                have HDzw_15 : RowKit.Hid (V12.heap.size ≠ V1.heap.size) := Lib.hid (fun e => by have := (show V1.heap.size < V12.heap.size from cell_lt (Hw_12.out 0 _ rfl).1); omega)
                refine hK.out _ _ (SC.out _ HK_15.out) (fun hHeld => ?_)
                clear hK K hWn kn hge
                try simp only [Act.put, List.setIfInBounds_toArray, List.set_cons_zero, List.set_cons_succ]
                refine wpAnyH_ready (rs := [11]) (by kernel_rfl) (by simp) ?_
                refine AllReadyH.cons rfl (fun K hK => ?_) AllReadyH.nil
                refine step_append_lies _ rfl (.tmp 72) (.tmp 79) 22 rfl W4.heap.size 32 i1 _ 9 32 Tryz.underlying22 hi1 hz1a hz1b hz1c rfl (by decide) (.slice (some ⟨g12, 0, none⟩) n d12) n (ms.flatMap mkC) rfl Hc_15.out ⟨V1.heap.size, 0, none⟩ 1 1 [.int .i64 owner, .int .i64 day, .int .i64 day, .int .u8 s.s0, .int .u8 s.s1, .int .u8 s.s2, .int .u8 s.s3, .int .u8 s.s4, .int .u8 s.s5] rfl rfl (fun j u hu => by rw [addr_add, Nat.zero_add]; exact (Hw_15.out j u hu).1) (fun u hu => mkC_one (ms := [⟨owner, day, day, s⟩]) u (by simpa [mkC] using hu)) (by decide) (by have := HSZ.out; unfold maxLen; omega) (by have := HSZ.out; omega) HK_15.out.size _ rfl ?_
                intro g16 d16 V16 hown hgrow hg2 hlt9
                have hg : g16 = g12 ∨ V15.heap.size ≤ g16 := by
                  rcases hg2 with h | h
                  · injection h with h
                    exact .inl h.symm
                  · exact .inr (by omega)
                clear hg2 hlt9
                have HK_16 := Lib.hid (HK_15.out.grown hgrow (fun q hq => by injection hq with hq; rw [← hq]; exact (Hc_15.out.lt _ rfl).1))
                have Hw_16 := Lib.hid (rowC_grown Hw_15.out hgrow (fun e => by injection e with e; exact HDcw_12.out e))
                have Hz_16 := Lib.hid (rowC_grown Hz_15.out hgrow (fun e => by injection e with e; exact (Ne.symm HDzc_15.out) e))
                have Hc_16 := Lib.hid hown
                have HDcw_16 : RowKit.Hid (g16 ≠ V1.heap.size) := Lib.hid (fun e => by
                  rcases hg with h | h
                  · exact HDcw_12.out (h.symm.trans e)
                  · have := (show V1.heap.size < V15.heap.size from cell_lt (Hw_15.out 0 _ rfl).1); omega)
                have HDcz_16 : RowKit.Hid (g16 ≠ V12.heap.size) := Lib.hid (fun e => by
                  rcases hg with h | h
                  · exact (Ne.symm HDzc_15.out) (h.symm.trans e)
                  · have := (show V12.heap.size < V15.heap.size from cell_lt (Hz_15.out 0 _ rfl).1); omega)
                refine hK.out _ _ (SC.out _ HK_16.out) (fun hHeld => ?_)
                clear hK K hown hgrow hg
                try simp only [Act.put, List.setIfInBounds_toArray, List.set_cons_zero, List.set_cons_succ]
                refine take_at (i := 14) (d := some 83) (v := ?_) rfl rfl (by kernel_rfl) (by kernel_rfl) (by kernel_rfl) (fun _ _ _ h => h) (Or.inl ⟨by rfl, ?_⟩) hHeld ?_
                rotate_left
                · intro w hSw
                  try dsimp only at hSw
                  go_simp
                  try (with_reducible rfl)
                try simp only [Act.put, List.setIfInBounds_toArray, List.set_cons_zero, List.set_cons_succ]
                have c0 := (Hz_16.out 0 _ rfl).1
                have c1 := (Hz_16.out 1 _ rfl).1
                have f0 := (Hz_16.out 0 _ rfl).2
                have f1 := (Hz_16.out 1 _ rfl).2
                refine wpAnyH_ready (rs := [16]) (by kernel_rfl) (by simp) ?_
                refine AllReadyH.cons rfl (fun K hK => ?_) AllReadyH.nil
                rw [if_pos (by rfl)]
                go_simp
                have kz : Kept W4 ((V16.setCell ⟨V12.heap.size, 0, none⟩ (.slice (some ⟨g16, 0, none⟩) (n + 1) d16)).setCell ⟨V12.heap.size, 1, none⟩ (.slice B m d)) := (HK_16.out.setCell (p := ⟨V12.heap.size, 0, none⟩) (by have := HG_15.out; simpa using this) _).setCell (p := ⟨V12.heap.size, 1, none⟩) (by have := HG_15.out; simpa using this) _
                refine hK.out _ _ (SC.out _ kz) (fun hHeld => ?_)
                clear hK K
                try simp only [Act.put, List.setIfInBounds_toArray, List.set_cons_zero, List.set_cons_succ]
                refine wpAnyH_done (by kernel_rfl) ?_ _
                go_wp2
                go_meet
                refine ⟨V12.heap.size, g16, d16, rfl, ?_, ?_, HG_15.out, kz⟩
                · exact (Hz_16.out.put (j := 0) (by simp) (.slice (some ⟨g16, 0, none⟩) (n + 1) d16)).put (j := 1) (by simp) (.slice B m d)
                · exact ownsRow_setCell_other (ownsRow_setCell_other Hc_16.out (fun e => by injection e with e; exact HDcz_16.out e) _) (fun e => by injection e with e; exact HDcz_16.out e) _
              refine AllReadyH.cons rfl (fun K hK => ?_) AllReadyH.nil
              rw [if_pos (by rfl)]
              go_simp
              obtain ⟨V17, hWn⟩ : ∃ V17, V17 = V11.alloc (.cells #[.slice none 0 0, .slice none 0 0] 25) := ⟨_, rfl⟩
              rw [← hWn]
              have kn : Kept V11 V17 := by rw [hWn]; exact (Kept.refl _).alloc _
              have HK_17 := Lib.hid (HK_11.out.trans kn)
              have hge := HK_11.out.size
              have Hc_17 := Lib.hid (own_kept Hc_11.out kn)
              have Hw_17 := Lib.hid (Hw_11.out.kept kn)
              have Hz_17 : RowKit.Hid (RowC V17 V11.heap.size [.slice none 0 0, .slice none 0 0]) := Lib.hid (by rw [hWn]; exact RowC.new V11 [.slice none 0 0, .slice none 0 0] 25)
              have HG_17 : RowKit.Hid (W4.heap.size ≤ V11.heap.size) := Lib.hid hge
              have HDzc_17 : RowKit.Hid (V11.heap.size ≠ Wd.heap.size) := Lib.hid (fun e => by have := (show Wd.heap.size < V11.heap.size from own_lt Hc_11.out rfl); omega)
              have HDzw_17 : RowKit.Hid (V11.heap.size ≠ V1.heap.size) := Lib.hid (fun e => by have := (show V1.heap.size < V11.heap.size from cell_lt (Hw_11.out 0 _ rfl).1); omega)
              refine hK.out _ _ (SC.out _ HK_17.out) (fun hHeld => ?_)
              clear hK K hWn kn hge
              try simp only [Act.put, List.setIfInBounds_toArray, List.set_cons_zero, List.set_cons_succ]
              refine wpAnyH_ready (rs := [3]) (by kernel_rfl) (by simp) ?_
              refine AllReadyH.cons rfl (fun K hK => ?_) AllReadyH.nil
              refine step_copy rfl (.tmp 69) (.tmp 71) 22 rfl W4.heap.size 32 i1 _ 9 32 Tryz.underlying22 hi1 hz1a hz1b hz1c rfl (by decide) Wd.heap.size rfl Hc_17.out A n c (ms.flatMap mkC) rfl HL1.out (HN1.out _ HK_17.out) mkC_one (by have := HSZ.out; unfold maxLen; omega) (by have := HSZ.out; omega) HK_17.out.size ?_
              intro g18 d18 V18 hown hgrow hg
              have HK_18 := Lib.hid (HK_17.out.grown hgrow (fun q hq => by injection hq with hq; rw [← hq]; exact (Hc_17.out.lt _ rfl).1))
              have Hw_18 := Lib.hid (rowC_grown Hw_17.out hgrow (fun e => by injection e with e; exact (Ne.symm HDwc_11.out) e))
              have Hz_18 := Lib.hid (rowC_grown Hz_17.out hgrow (fun e => by injection e with e; exact (Ne.symm HDzc_17.out) e))
              have Hc_18 := Lib.hid hown
              have HDcw_18 : RowKit.Hid (g18 ≠ V1.heap.size) := Lib.hid (fun e => by
                rcases hg with h | h
                · exact (Ne.symm HDwc_11.out) (h.symm.trans e)
                · have := (show V1.heap.size < V17.heap.size from cell_lt (Hw_17.out 0 _ rfl).1); omega)
              have HDcz_18 : RowKit.Hid (g18 ≠ V11.heap.size) := Lib.hid (fun e => by
                rcases hg with h | h
                · exact (Ne.symm HDzc_17.out) (h.symm.trans e)
                · have := (show V11.heap.size < V17.heap.size from cell_lt (Hz_17.out 0 _ rfl).1); omega)
              refine hK.out _ _ (SC.out _ HK_18.out) (fun hHeld => ?_)
              clear hK K hown hgrow hg
              try simp only [Act.put, List.setIfInBounds_toArray, List.set_cons_zero, List.set_cons_succ]
              refine wpAnyH_ready (rs := [11]) (by kernel_rfl) (by simp) ?_
              refine AllReadyH.cons rfl (fun K hK => ?_) AllReadyH.nil
              refine step_append_lies _ rfl (.tmp 72) (.tmp 79) 22 rfl W4.heap.size 32 i1 _ 9 32 Tryz.underlying22 hi1 hz1a hz1b hz1c rfl (by decide) (.slice (some ⟨g18, 0, none⟩) n d18) n (ms.flatMap mkC) rfl Hc_18.out ⟨V1.heap.size, 0, none⟩ 1 1 [.int .i64 owner, .int .i64 day, .int .i64 day, .int .u8 s.s0, .int .u8 s.s1, .int .u8 s.s2, .int .u8 s.s3, .int .u8 s.s4, .int .u8 s.s5] rfl rfl (fun j u hu => by rw [addr_add, Nat.zero_add]; exact (Hw_18.out j u hu).1) (fun u hu => mkC_one (ms := [⟨owner, day, day, s⟩]) u (by simpa [mkC] using hu)) (by decide) (by have := HSZ.out; unfold maxLen; omega) (by have := HSZ.out; omega) HK_18.out.size _ rfl ?_
              intro g19 d19 V19 hown hgrow hg2 hlt9
              have hg : g19 = g18 ∨ V18.heap.size ≤ g19 := by
                rcases hg2 with h | h
                · injection h with h
                  exact .inl h.symm
                · exact .inr (by omega)
              clear hg2 hlt9
              have HK_19 := Lib.hid (HK_18.out.grown hgrow (fun q hq => by injection hq with hq; rw [← hq]; exact (Hc_18.out.lt _ rfl).1))
              have Hw_19 := Lib.hid (rowC_grown Hw_18.out hgrow (fun e => by injection e with e; exact HDcw_18.out e))
              have Hz_19 := Lib.hid (rowC_grown Hz_18.out hgrow (fun e => by injection e with e; exact HDcz_18.out e))
              have Hc_19 := Lib.hid hown
              have HDcw_19 : RowKit.Hid (g19 ≠ V1.heap.size) := Lib.hid (fun e => by
                rcases hg with h | h
                · exact HDcw_18.out (h.symm.trans e)
                · have := (show V1.heap.size < V18.heap.size from cell_lt (Hw_18.out 0 _ rfl).1); omega)
              have HDcz_19 : RowKit.Hid (g19 ≠ V11.heap.size) := Lib.hid (fun e => by
                rcases hg with h | h
                · exact HDcz_18.out (h.symm.trans e)
                · have := (show V11.heap.size < V18.heap.size from cell_lt (Hz_18.out 0 _ rfl).1); omega)
              refine hK.out _ _ (SC.out _ HK_19.out) (fun hHeld => ?_)
              clear hK K hown hgrow hg
              try simp only [Act.put, List.setIfInBounds_toArray, List.set_cons_zero, List.set_cons_succ]
              refine take_at (i := 14) (d := some 83) (v := ?_) rfl rfl (by kernel_rfl) (by kernel_rfl) (by kernel_rfl) (fun _ _ _ h => h) (Or.inl ⟨by rfl, ?_⟩) hHeld ?_
              rotate_left
              · intro w hSw
                try dsimp only at hSw
                go_simp
                try (with_reducible rfl)
              try simp only [Act.put, List.setIfInBounds_toArray, List.set_cons_zero, List.set_cons_succ]
              have c0 := (Hz_19.out 0 _ rfl).1
              have c1 := (Hz_19.out 1 _ rfl).1
              have f0 := (Hz_19.out 0 _ rfl).2
              have f1 := (Hz_19.out 1 _ rfl).2
              refine wpAnyH_ready (rs := [16]) (by kernel_rfl) (by simp) ?_
              refine AllReadyH.cons rfl (fun K hK => ?_) AllReadyH.nil
              rw [if_pos (by rfl)]
              go_simp
              have kz : Kept W4 ((V19.setCell ⟨V11.heap.size, 0, none⟩ (.slice (some ⟨g19, 0, none⟩) (n + 1) d19)).setCell ⟨V11.heap.size, 1, none⟩ (.slice B m d)) := (HK_19.out.setCell (p := ⟨V11.heap.size, 0, none⟩) (by have := HG_17.out; simpa using this) _).setCell (p := ⟨V11.heap.size, 1, none⟩) (by have := HG_17.out; simpa using this) _
              refine hK.out _ _ (SC.out _ kz) (fun hHeld => ?_)
              clear hK K
              try simp only [Act.put, List.setIfInBounds_toArray, List.set_cons_zero, List.set_cons_succ]
              refine wpAnyH_done (by kernel_rfl) ?_ _
              go_wp2
              go_meet
              refine ⟨V11.heap.size, g19, d19, rfl, ?_, ?_, HG_17.out, kz⟩
              · exact (Hz_19.out.put (j := 0) (by simp) (.slice (some ⟨g19, 0, none⟩) (n + 1) d19)).put (j := 1) (by simp) (.slice B m d)
              · exact ownsRow_setCell_other (ownsRow_setCell_other Hc_19.out (fun e => by injection e with e; exact HDcz_19.out e) _) (fun e => by injection e with e; exact HDcz_19.out e) _
            refine AllReadyH.cons rfl (fun K hK => ?_) AllReadyH.nil
            rw [if_pos (by rfl)]
            go_simp
            obtain ⟨V20, hWn⟩ : ∃ V20, V20 = V1.alloc (.cells #[.slice none 0 0, .slice none 0 0] 25) := ⟨_, rfl⟩
            rw [← hWn]
            have kn : Kept V1 V20 := by rw [hWn]; exact (Kept.refl _).alloc _
            have HK_20 := Lib.hid (HK_1.out.trans kn)
            have hge := HK_1.out.size
            have Hc_20 := Lib.hid (own_kept Hc_1.out kn)
            have Hz_20 : RowKit.Hid (RowC V20 V1.heap.size [.slice none 0 0, .slice none 0 0]) := Lib.hid (by rw [hWn]; exact RowC.new V1 [.slice none 0 0, .slice none 0 0] 25)
            have HG_20 : RowKit.Hid (W4.heap.size ≤ V1.heap.size) := Lib.hid hge
            have HDzc_20 : RowKit.Hid (V1.heap.size ≠ Wd.heap.size) := Lib.hid (fun e => by have := (show Wd.heap.size < V1.heap.size from own_lt Hc_1.out rfl); omega)
            refine hK.out _ _ (SC.out _ HK_20.out) (fun hHeld => ?_)
            clear hK K hWn kn hge
            try simp only [Act.put, List.setIfInBounds_toArray, List.set_cons_zero, List.set_cons_succ]
            refine wpAnyH_ready (rs := [3, 10]) (by kernel_rfl) (by simp) ?_
            refine AllReadyH.cons rfl (fun K hK => ?_) ?_
            · refine step_copy rfl (.tmp 69) (.tmp 71) 22 rfl W4.heap.size 32 i1 _ 9 32 Tryz.underlying22 hi1 hz1a hz1b hz1c rfl (by decide) Wd.heap.size rfl Hc_20.out A n c (ms.flatMap mkC) rfl HL1.out (HN1.out _ HK_20.out) mkC_one (by have := HSZ.out; unfold maxLen; omega) (by have := HSZ.out; omega) HK_20.out.size ?_
              intro g21 d21 V21 hown hgrow hg
              have HK_21 := Lib.hid (HK_20.out.grown hgrow (fun q hq => by injection hq with hq; rw [← hq]; exact (Hc_20.out.lt _ rfl).1))
              have Hz_21 := Lib.hid (rowC_grown Hz_20.out hgrow (fun e => by injection e with e; exact (Ne.symm HDzc_20.out) e))
              have Hc_21 := Lib.hid hown
              have HDcz_21 : RowKit.Hid (g21 ≠ V1.heap.size) := Lib.hid (fun e => by
                rcases hg with h | h
                · exact (Ne.symm HDzc_20.out) (h.symm.trans e)
                · have := (show V1.heap.size < V20.heap.size from cell_lt (Hz_20.out 0 _ rfl).1); omega)
              refine hK.out _ _ (SC.out _ HK_21.out) (fun hHeld => ?_)
              clear hK K hown hgrow hg
              try simp only [Act.put, List.setIfInBounds_toArray, List.set_cons_zero, List.set_cons_succ]
              refine wpAnyH_ready (rs := [10]) (by kernel_rfl) (by simp) ?_
              refine AllReadyH.cons rfl (fun K hK => ?_) AllReadyH.nil
              rw [if_pos (by rfl)]
              go_simp
              obtain ⟨V22, hWn⟩ : ∃ V22, V22 = V21.alloc (.cells #[.int .i64 owner, .int .i64 day, .int .i64 day, .int .u8 s.s0, .int .u8 s.s1, .int .u8 s.s2, .int .u8 s.s3, .int .u8 s.s4, .int .u8 s.s5] 32) := ⟨_, rfl⟩
              rw [← hWn]
              have kn : Kept V21 V22 := by rw [hWn]; exact (Kept.refl _).alloc _
              have HK_22 := Lib.hid (HK_21.out.trans kn)
              have hge := HK_21.out.size
              have Hc_22 := Lib.hid (own_kept Hc_21.out kn)
              have Hz_22 := Lib.hid (Hz_21.out.kept kn)
              have Hw_22 : RowKit.Hid (RowC V22 V21.heap.size [.int .i64 owner, .int .i64 day, .int .i64 day, .int .u8 s.s0, .int .u8 s.s1, .int .u8 s.s2, .int .u8 s.s3, .int .u8 s.s4, .int .u8 s.s5]) := Lib.hid (by rw [hWn]; exact RowC.new V21 [.int .i64 owner, .int .i64 day, .int .i64 day, .int .u8 s.s0, .int .u8 s.s1, .int .u8 s.s2, .int .u8 s.s3, .int .u8 s.s4, .int .u8 s.s5] 32)
              have HDwc_22 : RowKit.Hid (V21.heap.size ≠ g21) := Lib.hid (fun e => by have := (show g21 < V21.heap.size from own_lt Hc_21.out rfl); omega)
              have HDwz_22 : RowKit.Hid (V21.heap.size ≠ V1.heap.size) := Lib.hid (fun e => by have := (show V1.heap.size < V21.heap.size from cell_lt (Hz_21.out 0 _ rfl).1); omega)
              refine hK.out _ _ (SC.out _ HK_22.out) (fun hHeld => ?_)
              clear hK K hWn kn hge
              try simp only [Act.put, List.setIfInBounds_toArray, List.set_cons_zero, List.set_cons_succ]
              refine wpAnyH_ready (rs := [11]) (by kernel_rfl) (by simp) ?_
              refine AllReadyH.cons rfl (fun K hK => ?_) AllReadyH.nil
              refine step_append_lies _ rfl (.tmp 72) (.tmp 79) 22 rfl W4.heap.size 32 i1 _ 9 32 Tryz.underlying22 hi1 hz1a hz1b hz1c rfl (by decide) (.slice (some ⟨g21, 0, none⟩) n d21) n (ms.flatMap mkC) rfl Hc_22.out ⟨V21.heap.size, 0, none⟩ 1 1 [.int .i64 owner, .int .i64 day, .int .i64 day, .int .u8 s.s0, .int .u8 s.s1, .int .u8 s.s2, .int .u8 s.s3, .int .u8 s.s4, .int .u8 s.s5] rfl rfl (fun j u hu => by rw [addr_add, Nat.zero_add]; exact (Hw_22.out j u hu).1) (fun u hu => mkC_one (ms := [⟨owner, day, day, s⟩]) u (by simpa [mkC] using hu)) (by decide) (by have := HSZ.out; unfold maxLen; omega) (by have := HSZ.out; omega) HK_22.out.size _ rfl ?_
              intro g23 d23 V23 hown hgrow hg2 hlt9
              have hg : g23 = g21 ∨ V22.heap.size ≤ g23 := by
                rcases hg2 with h | h
                · injection h with h
                  exact .inl h.symm
                · exact .inr (by omega)
              clear hg2 hlt9
              have HK_23 := Lib.hid (HK_22.out.grown hgrow (fun q hq => by injection hq with hq; rw [← hq]; exact (Hc_22.out.lt _ rfl).1))
              have Hw_23 := Lib.hid (rowC_grown Hw_22.out hgrow (fun e => by injection e with e; exact (Ne.symm HDwc_22.out) e))
              have Hz_23 := Lib.hid (rowC_grown Hz_22.out hgrow (fun e => by injection e with e; exact HDcz_21.out e))
              have Hc_23 := Lib.hid hown
              have HDcw_23 : RowKit.Hid (g23 ≠ V21.heap.size) := Lib.hid (fun e => by
                rcases hg with h | h
                · exact (Ne.symm HDwc_22.out) (h.symm.trans e)
                · have := (show V21.heap.size < V22.heap.size from cell_lt (Hw_22.out 0 _ rfl).1); omega)
              have HDcz_23 : RowKit.Hid (g23 ≠ V1.heap.size) := Lib.hid (fun e => by
                rcases hg with h | h
                · exact HDcz_21.out (h.symm.trans e)
                · have := (show V1.heap.size < V22.heap.size from cell_lt (Hz_22.out 0 _ rfl).1); omega)
              refine hK.out _ _ (SC.out _ HK_23.out) (fun hHeld => ?_)
              clear hK K hown hgrow hg
              try simp only [Act.put, List.setIfInBounds_toArray, List.set_cons_zero, List.set_cons_succ]
              refine take_at (i := 14) (d := some 83) (v := ?_) rfl rfl (by kernel_rfl) (by kernel_rfl) (by kernel_rfl) (fun _ _ _ h => h) (Or.inl ⟨by rfl, ?_⟩) hHeld ?_
              rotate_left
              · intro w hSw
                try dsimp only at hSw
                go_simp
                try (with_reducible rfl)
              try simp only [Act.put, List.setIfInBounds_toArray, List.set_cons_zero, List.set_cons_succ]
              have c0 := (Hz_23.out 0 _ rfl).1
              have c1 := (Hz_23.out 1 _ rfl).1
              have f0 := (Hz_23.out 0 _ rfl).2
              have f1 := (Hz_23.out 1 _ rfl).2
              refine wpAnyH_ready (rs := [16]) (by kernel_rfl) (by simp) ?_
              refine AllReadyH.cons rfl (fun K hK => ?_) AllReadyH.nil
              rw [if_pos (by rfl)]
              go_simp
              have kz : Kept W4 ((V23.setCell ⟨V1.heap.size, 0, none⟩ (.slice (some ⟨g23, 0, none⟩) (n + 1) d23)).setCell ⟨V1.heap.size, 1, none⟩ (.slice B m d)) := (HK_23.out.setCell (p := ⟨V1.heap.size, 0, none⟩) (by have := HG_20.out; simpa using this) _).setCell (p := ⟨V1.heap.size, 1, none⟩) (by have := HG_20.out; simpa using this) _
              refine hK.out _ _ (SC.out _ kz) (fun hHeld => ?_)
              clear hK K
              try simp only [Act.put, List.setIfInBounds_toArray, List.set_cons_zero, List.set_cons_succ]
              refine wpAnyH_done (by kernel_rfl) ?_ _
              go_wp2
              go_meet
              refine ⟨V1.heap.size, g23, d23, rfl, ?_, ?_, HG_20.out, kz⟩
              · exact (Hz_23.out.put (j := 0) (by simp) (.slice (some ⟨g23, 0, none⟩) (n + 1) d23)).put (j := 1) (by simp) (.slice B m d)
              · exact ownsRow_setCell_other (ownsRow_setCell_other Hc_23.out (fun e => by injection e with e; exact HDcz_23.out e) _) (fun e => by injection e with e; exact HDcz_23.out e) _
            refine AllReadyH.cons rfl (fun K hK => ?_) AllReadyH.nil
            rw [if_pos (by rfl)]
            go_simp
            obtain ⟨V24, hWn⟩ : ∃ V24, V24 = V20.alloc (.cells #[.int .i64 owner, .int .i64 day, .int .i64 day, .int .u8 s.s0, .int .u8 s.s1, .int .u8 s.s2, .int .u8 s.s3, .int .u8 s.s4, .int .u8 s.s5] 32) := ⟨_, rfl⟩
            rw [← hWn]
            have kn : Kept V20 V24 := by rw [hWn]; exact (Kept.refl _).alloc _
            have HK_24 := Lib.hid (HK_20.out.trans kn)
            have hge := HK_20.out.size
            have Hc_24 := Lib.hid (own_kept Hc_20.out kn)
            have Hz_24 := Lib.hid (Hz_20.out.kept kn)
            have Hw_24 : RowKit.Hid (RowC V24 V20.heap.size [.int .i64 owner, .int .i64 day, .int .i64 day, .int .u8 s.s0, .int .u8 s.s1, .int .u8 s.s2, .int .u8 s.s3, .int .u8 s.s4, .int .u8 s.s5]) := Lib.hid (by rw [hWn]; exact RowC.new V20 [.int .i64 owner, .int .i64 day, .int .i64 day, .int .u8 s.s0, .int .u8 s.s1, .int .u8 s.s2, .int .u8 s.s3, .int .u8 s.s4, .int .u8 s.s5] 32)
            have HDwc_24 : RowKit.Hid (V20.heap.size ≠ Wd.heap.size) := Lib.hid (fun e => by have := (show Wd.heap.size < V20.heap.size from own_lt Hc_20.out rfl); omega)
            have HDwz_24 : RowKit.Hid (V20.heap.size ≠ V1.heap.size) := Lib.hid (fun e => by have := (show V1.heap.size < V20.heap.size from cell_lt (Hz_20.out 0 _ rfl).1); omega)
            refine hK.out _ _ (SC.out _ HK_24.out) (fun hHeld => ?_)
            clear hK K hWn kn hge
            try simp only [Act.put, List.setIfInBounds_toArray, List.set_cons_zero, List.set_cons_succ]
            refine wpAnyH_ready (rs := [3]) (by kernel_rfl) (by simp) ?_
            refine AllReadyH.cons rfl (fun K hK => ?_) AllReadyH.nil
            refine step_copy rfl (.tmp 69) (.tmp 71) 22 rfl W4.heap.size 32 i1 _ 9 32 Tryz.underlying22 hi1 hz1a hz1b hz1c rfl (by decide) Wd.heap.size rfl Hc_24.out A n c (ms.flatMap mkC) rfl HL1.out (HN1.out _ HK_24.out) mkC_one (by have := HSZ.out; unfold maxLen; omega) (by have := HSZ.out; omega) HK_24.out.size ?_
            intro g25 d25 V25 hown hgrow hg
            have HK_25 := Lib.hid (HK_24.out.grown hgrow (fun q hq => by injection hq with hq; rw [← hq]; exact (Hc_24.out.lt _ rfl).1))
            have Hw_25 := Lib.hid (rowC_grown Hw_24.out hgrow (fun e => by injection e with e; exact (Ne.symm HDwc_24.out) e))
            have Hz_25 := Lib.hid (rowC_grown Hz_24.out hgrow (fun e => by injection e with e; exact (Ne.symm HDzc_20.out) e))
            have Hc_25 := Lib.hid hown
            have HDcw_25 : RowKit.Hid (g25 ≠ V20.heap.size) := Lib.hid (fun e => by
              rcases hg with h | h
              · exact (Ne.symm HDwc_24.out) (h.symm.trans e)
              · have := (show V20.heap.size < V24.heap.size from cell_lt (Hw_24.out 0 _ rfl).1); omega)
            have HDcz_25 : RowKit.Hid (g25 ≠ V1.heap.size) := Lib.hid (fun e => by
              rcases hg with h | h
              · exact (Ne.symm HDzc_20.out) (h.symm.trans e)
              · have := (show V1.heap.size < V24.heap.size from cell_lt (Hz_24.out 0 _ rfl).1); omega)
            refine hK.out _ _ (SC.out _ HK_25.out) (fun hHeld => ?_)
            clear hK K hown hgrow hg
            try simp only [Act.put, List.setIfInBounds_toArray, List.set_cons_zero, List.set_cons_succ]
            refine wpAnyH_ready (rs := [11]) (by kernel_rfl) (by simp) ?_
            refine AllReadyH.cons rfl (fun K hK => ?_) AllReadyH.nil
            refine step_append_lies _ rfl (.tmp 72) (.tmp 79) 22 rfl W4.heap.size 32 i1 _ 9 32 Tryz.underlying22 hi1 hz1a hz1b hz1c rfl (by decide) (.slice (some ⟨g25, 0, none⟩) n d25) n (ms.flatMap mkC) rfl Hc_25.out ⟨V20.heap.size, 0, none⟩ 1 1 [.int .i64 owner, .int .i64 day, .int .i64 day, .int .u8 s.s0, .int .u8 s.s1, .int .u8 s.s2, .int .u8 s.s3, .int .u8 s.s4, .int .u8 s.s5] rfl rfl (fun j u hu => by rw [addr_add, Nat.zero_add]; exact (Hw_25.out j u hu).1) (fun u hu => mkC_one (ms := [⟨owner, day, day, s⟩]) u (by simpa [mkC] using hu)) (by decide) (by have := HSZ.out; unfold maxLen; omega) (by have := HSZ.out; omega) HK_25.out.size _ rfl ?_
            intro g26 d26 V26 hown hgrow hg2 hlt9
            have hg : g26 = g25 ∨ V25.heap.size ≤ g26 := by
              rcases hg2 with h | h
              · injection h with h
                exact .inl h.symm
              · exact .inr (by omega)
            clear hg2 hlt9
            have HK_26 := Lib.hid (HK_25.out.grown hgrow (fun q hq => by injection hq with hq; rw [← hq]; exact (Hc_25.out.lt _ rfl).1))
            have Hw_26 := Lib.hid (rowC_grown Hw_25.out hgrow (fun e => by injection e with e; exact HDcw_25.out e))
            have Hz_26 := Lib.hid (rowC_grown Hz_25.out hgrow (fun e => by injection e with e; exact HDcz_25.out e))
            have Hc_26 := Lib.hid hown
            have HDcw_26 : RowKit.Hid (g26 ≠ V20.heap.size) := Lib.hid (fun e => by
              rcases hg with h | h
              · exact HDcw_25.out (h.symm.trans e)
              · have := (show V20.heap.size < V25.heap.size from cell_lt (Hw_25.out 0 _ rfl).1); omega)
            have HDcz_26 : RowKit.Hid (g26 ≠ V1.heap.size) := Lib.hid (fun e => by
              rcases hg with h | h
              · exact HDcz_25.out (h.symm.trans e)
              · have := (show V1.heap.size < V25.heap.size from cell_lt (Hz_25.out 0 _ rfl).1); omega)
            refine hK.out _ _ (SC.out _ HK_26.out) (fun hHeld => ?_)
            clear hK K hown hgrow hg
            try simp only [Act.put, List.setIfInBounds_toArray, List.set_cons_zero, List.set_cons_succ]
            refine take_at (i := 14) (d := some 83) (v := ?_) rfl rfl (by kernel_rfl) (by kernel_rfl) (by kernel_rfl) (fun _ _ _ h => h) (Or.inl ⟨by rfl, ?_⟩) hHeld ?_
            rotate_left
            · intro w hSw
              try dsimp only at hSw
              go_simp
              try (with_reducible rfl)
            try simp only [Act.put, List.setIfInBounds_toArray, List.set_cons_zero, List.set_cons_succ]
            have c0 := (Hz_26.out 0 _ rfl).1
            have c1 := (Hz_26.out 1 _ rfl).1
            have f0 := (Hz_26.out 0 _ rfl).2
            have f1 := (Hz_26.out 1 _ rfl).2
            refine wpAnyH_ready (rs := [16]) (by kernel_rfl) (by simp) ?_
            refine AllReadyH.cons rfl (fun K hK => ?_) AllReadyH.nil
            rw [if_pos (by rfl)]
            go_simp
            have kz : Kept W4 ((V26.setCell ⟨V1.heap.size, 0, none⟩ (.slice (some ⟨g26, 0, none⟩) (n + 1) d26)).setCell ⟨V1.heap.size, 1, none⟩ (.slice B m d)) := (HK_26.out.setCell (p := ⟨V1.heap.size, 0, none⟩) (by have := HG_20.out; simpa using this) _).setCell (p := ⟨V1.heap.size, 1, none⟩) (by have := HG_20.out; simpa using this) _
            refine hK.out _ _ (SC.out _ kz) (fun hHeld => ?_)
            clear hK K
            try simp only [Act.put, List.setIfInBounds_toArray, List.set_cons_zero, List.set_cons_succ]
            refine wpAnyH_done (by kernel_rfl) ?_ _
            go_wp2
            go_meet
            refine ⟨V1.heap.size, g26, d26, rfl, ?_, ?_, HG_20.out, kz⟩
            · exact (Hz_26.out.put (j := 0) (by simp) (.slice (some ⟨g26, 0, none⟩) (n + 1) d26)).put (j := 1) (by simp) (.slice B m d)
            · exact ownsRow_setCell_other (ownsRow_setCell_other Hc_26.out (fun e => by injection e with e; exact HDcz_26.out e) _) (fun e => by injection e with e; exact HDcz_26.out e) _
          refine AllReadyH.cons rfl (fun K hK => ?_) ?_
          · rw [if_pos (by rfl)]
            go_simp
            obtain ⟨V27, hWn⟩ : ∃ V27, V27 = Wd.alloc (.cells #[.int .i64 owner, .int .i64 day, .int .i64 day, .int .u8 s.s0, .int .u8 s.s1, .int .u8 s.s2, .int .u8 s.s3, .int .u8 s.s4, .int .u8 s.s5] 32) := ⟨_, rfl⟩
            rw [← hWn]
            have kn : Kept Wd V27 := by rw [hWn]; exact (Kept.refl _).alloc _
            have HK_27 := Lib.hid (HKd.out.trans kn)
            have hge := HKd.out.size
            have Hw_27 : RowKit.Hid (RowC V27 Wd.heap.size [.int .i64 owner, .int .i64 day, .int .i64 day, .int .u8 s.s0, .int .u8 s.s1, .int .u8 s.s2, .int .u8 s.s3, .int .u8 s.s4, .int .u8 s.s5]) := Lib.hid (by rw [hWn]; exact RowC.new Wd [.int .i64 owner, .int .i64 day, .int .i64 day, .int .u8 s.s0, .int .u8 s.s1, .int .u8 s.s2, .int .u8 s.s3, .int .u8 s.s4, .int .u8 s.s5] 32)
            refine hK.out _ _ (SC.out _ HK_27.out) (fun hHeld => ?_)
            clear hK K hWn kn hge
            try simp only [Act.put, List.setIfInBounds_toArray, List.set_cons_zero, List.set_cons_succ]
            refine wpAnyH_ready (rs := [0, 15]) (by kernel_rfl) (by simp) ?_
            refine AllReadyH.cons rfl (fun K hK => ?_) ?_
            · rw [if_pos (by rfl)]
              go_simp
              obtain ⟨V28, hWn⟩ : ∃ V28, V28 = V27.alloc (.cells #[] 32) := ⟨_, rfl⟩
              rw [← hWn]
              have kn : Kept V27 V28 := by rw [hWn]; exact (Kept.refl _).alloc _
              have HK_28 := Lib.hid (HK_27.out.trans kn)
              have hge := HK_27.out.size
              have Hw_28 := Lib.hid (Hw_27.out.kept kn)
              have Hc_28 : RowKit.Hid (V28.ownsRow W4.heap.size 32 9 (.slice (some ⟨V27.heap.size, 0, none⟩) 0 0) 0 []) := Lib.hid (by rw [hWn]; exact own_base (own00 V27 _ 32 9 rfl) hge)
              have HDcw_28 : RowKit.Hid (V27.heap.size ≠ Wd.heap.size) := Lib.hid (fun e => by have := (show Wd.heap.size < V27.heap.size from cell_lt (Hw_27.out 0 _ rfl).1); omega)
              refine hK.out _ _ (SC.out _ HK_28.out) (fun hHeld => ?_)
              clear hK K hWn kn hge
              try simp only [Act.put, List.setIfInBounds_toArray, List.set_cons_zero, List.set_cons_succ]
              refine wpAnyH_ready (rs := [3, 15]) (by kernel_rfl) (by simp) ?_
              refine AllReadyH.cons rfl (fun K hK => ?_) ?_
              · refine step_copy rfl (.tmp 69) (.tmp 71) 22 rfl W4.heap.size 32 i1 _ 9 32 Tryz.underlying22 hi1 hz1a hz1b hz1c rfl (by decide) V27.heap.size rfl Hc_28.out A n c (ms.flatMap mkC) rfl HL1.out (HN1.out _ HK_28.out) mkC_one (by have := HSZ.out; unfold maxLen; omega) (by have := HSZ.out; omega) HK_28.out.size ?_
                intro g29 d29 V29 hown hgrow hg
                have HK_29 := Lib.hid (HK_28.out.grown hgrow (fun q hq => by injection hq with hq; rw [← hq]; exact (Hc_28.out.lt _ rfl).1))
                have Hw_29 := Lib.hid (rowC_grown Hw_28.out hgrow (fun e => by injection e with e; exact HDcw_28.out e))
                have Hc_29 := Lib.hid hown
                have HDcw_29 : RowKit.Hid (g29 ≠ Wd.heap.size) := Lib.hid (fun e => by
                  rcases hg with h | h
                  · exact HDcw_28.out (h.symm.trans e)
                  · have := (show Wd.heap.size < V28.heap.size from cell_lt (Hw_28.out 0 _ rfl).1); omega)
                refine hK.out _ _ (SC.out _ HK_29.out) (fun hHeld => ?_)
                clear hK K hown hgrow hg
                try simp only [Act.put, List.setIfInBounds_toArray, List.set_cons_zero, List.set_cons_succ]
                refine wpAnyH_ready (rs := [11, 15]) (by kernel_rfl) (by simp) ?_
                refine AllReadyH.cons rfl (fun K hK => ?_) ?_
                · refine step_append_lies _ rfl (.tmp 72) (.tmp 79) 22 rfl W4.heap.size 32 i1 _ 9 32 Tryz.underlying22 hi1 hz1a hz1b hz1c rfl (by decide) (.slice (some ⟨g29, 0, none⟩) n d29) n (ms.flatMap mkC) rfl Hc_29.out ⟨Wd.heap.size, 0, none⟩ 1 1 [.int .i64 owner, .int .i64 day, .int .i64 day, .int .u8 s.s0, .int .u8 s.s1, .int .u8 s.s2, .int .u8 s.s3, .int .u8 s.s4, .int .u8 s.s5] rfl rfl (fun j u hu => by rw [addr_add, Nat.zero_add]; exact (Hw_29.out j u hu).1) (fun u hu => mkC_one (ms := [⟨owner, day, day, s⟩]) u (by simpa [mkC] using hu)) (by decide) (by have := HSZ.out; unfold maxLen; omega) (by have := HSZ.out; omega) HK_29.out.size _ rfl ?_
                  intro g30 d30 V30 hown hgrow hg2 hlt9
                  have hg : g30 = g29 ∨ V29.heap.size ≤ g30 := by
                    rcases hg2 with h | h
                    · injection h with h
                      exact .inl h.symm
                    · exact .inr (by omega)
                  clear hg2 hlt9
                  have HK_30 := Lib.hid (HK_29.out.grown hgrow (fun q hq => by injection hq with hq; rw [← hq]; exact (Hc_29.out.lt _ rfl).1))
                  have Hw_30 := Lib.hid (rowC_grown Hw_29.out hgrow (fun e => by injection e with e; exact HDcw_29.out e))
                  have Hc_30 := Lib.hid hown
                  have HDcw_30 : RowKit.Hid (g30 ≠ Wd.heap.size) := Lib.hid (fun e => by
                    rcases hg with h | h
                    · exact HDcw_29.out (h.symm.trans e)
                    · have := (show Wd.heap.size < V29.heap.size from cell_lt (Hw_29.out 0 _ rfl).1); omega)
                  refine hK.out _ _ (SC.out _ HK_30.out) (fun hHeld => ?_)
                  clear hK K hown hgrow hg
                  try simp only [Act.put, List.setIfInBounds_toArray, List.set_cons_zero, List.set_cons_succ]
                  refine take_at (i := 14) (d := some 83) (v := ?_) rfl rfl (by kernel_rfl) (by kernel_rfl) (by kernel_rfl) (fun _ _ _ h => h) (Or.inl ⟨by rfl, ?_⟩) hHeld ?_
                  rotate_left
                  · intro w hSw
                    try dsimp only at hSw
                    go_simp
                    try (with_reducible rfl)
                  try simp only [Act.put, List.setIfInBounds_toArray, List.set_cons_zero, List.set_cons_succ]
                  refine wpAnyH_ready (rs := [15]) (by kernel_rfl) (by simp) ?_
                  refine AllReadyH.cons rfl (fun K hK => ?_) AllReadyH.nil
                  rw [if_pos (by rfl)]
                  go_simp
                  obtain ⟨V31, hWn⟩ : ∃ V31, V31 = V30.alloc (.cells #[.slice none 0 0, .slice none 0 0] 25) := ⟨_, rfl⟩
                  rw [← hWn]
                  have kn : Kept V30 V31 := by rw [hWn]; exact (Kept.refl _).alloc _
                  have HK_31 := Lib.hid (HK_30.out.trans kn)
                  have hge := HK_30.out.size
                  have Hc_31 := Lib.hid (own_kept Hc_30.out kn)
                  have Hw_31 := Lib.hid (Hw_30.out.kept kn)
                  have Hz_31 : RowKit.Hid (RowC V31 V30.heap.size [.slice none 0 0, .slice none 0 0]) := Lib.hid (by rw [hWn]; exact RowC.new V30 [.slice none 0 0, .slice none 0 0] 25)
                  have HG_31 : RowKit.Hid (W4.heap.size ≤ V30.heap.size) := Lib.hid hge
                  have HDzc_31 : RowKit.Hid (V30.heap.size ≠ g30) := Lib.hid (fun e => by have := (show g30 < V30.heap.size from own_lt Hc_30.out rfl); omega)
                  have HDzw_31 : RowKit.Hid (V30.heap.size ≠ Wd.heap.size) := Lib.hid (fun e => by have := (show Wd.heap.size < V30.heap.size from cell_lt (Hw_30.out 0 _ rfl).1); omega)
                  refine hK.out _ _ (SC.out _ HK_31.out) (fun hHeld => ?_)
                  clear hK K hWn kn hge
                  try simp only [Act.put, List.setIfInBounds_toArray, List.set_cons_zero, List.set_cons_succ]
                  have c0 := (Hz_31.out 0 _ rfl).1
                  have c1 := (Hz_31.out 1 _ rfl).1
                  have f0 := (Hz_31.out 0 _ rfl).2
                  have f1 := (Hz_31.out 1 _ rfl).2
                  refine wpAnyH_ready (rs := [16]) (by kernel_rfl) (by simp) ?_
                  refine AllReadyH.cons rfl (fun K hK => ?_) AllReadyH.nil
                  rw [if_pos (by rfl)]
                  go_simp
                  have kz : Kept W4 ((V31.setCell ⟨V30.heap.size, 0, none⟩ (.slice (some ⟨g30, 0, none⟩) (n + 1) d30)).setCell ⟨V30.heap.size, 1, none⟩ (.slice B m d)) := (HK_31.out.setCell (p := ⟨V30.heap.size, 0, none⟩) (by have := HG_31.out; simpa using this) _).setCell (p := ⟨V30.heap.size, 1, none⟩) (by have := HG_31.out; simpa using this) _
                  refine hK.out _ _ (SC.out _ kz) (fun hHeld => ?_)
                  clear hK K
                  try simp only [Act.put, List.setIfInBounds_toArray, List.set_cons_zero, List.set_cons_succ]
                  refine wpAnyH_done (by kernel_rfl) ?_ _
                  go_wp2
                  go_meet
                  refine ⟨V30.heap.size, g30, d30, rfl, ?_, ?_, HG_31.out, kz⟩
                  · exact (Hz_31.out.put (j := 0) (by simp) (.slice (some ⟨g30, 0, none⟩) (n + 1) d30)).put (j := 1) (by simp) (.slice B m d)
                  · exact ownsRow_setCell_other (ownsRow_setCell_other Hc_31.out (fun e => by injection e with e; exact (Ne.symm HDzc_31.out) e) _) (fun e => by injection e with e; exact (Ne.symm HDzc_31.out) e) _
                refine AllReadyH.cons rfl (fun K hK => ?_) AllReadyH.nil
                rw [if_pos (by rfl)]
                go_simp
                obtain ⟨V32, hWn⟩ : ∃ V32, V32 = V29.alloc (.cells #[.slice none 0 0, .slice none 0 0] 25) := ⟨_, rfl⟩
                rw [← hWn]
                have kn : Kept V29 V32 := by rw [hWn]; exact (Kept.refl _).alloc _
                have HK_32 := Lib.hid (HK_29.out.trans kn)
                have hge := HK_29.out.size
                have Hc_32 := Lib.hid (own_kept Hc_29.out kn)
                have Hw_32 := Lib.hid (Hw_29.out.kept kn)
                have Hz_32 : RowKit.Hid (RowC V32 V29.heap.size [.slice none 0 0, .slice none 0 0]) := Lib.hid (by rw [hWn]; exact RowC.new V29 [.slice none 0 0, .slice none 0 0] 25)
                have HG_32 : RowKit.Hid (W4.heap.size ≤ V29.heap.size) := Lib.hid hge
                have HDzc_32 : RowKit.Hid (V29.heap.size ≠ g29) := Lib.hid (fun e => by have := (show g29 < V29.heap.size from own_lt Hc_29.out rfl); omega)
                have HDzw_32 : RowKit.Hid (V29.heap.size ≠ Wd.heap.size) := Lib.hid (fun e => by have := (show Wd.heap.size < V29.heap.size from cell_lt (Hw_29.out 0 _ rfl).1); omega)
                refine hK.out _ _ (SC.out _ HK_32.out) (fun hHeld => ?_)
                clear hK K hWn kn hge
                try simp only [Act.put, List.setIfInBounds_toArray, List.set_cons_zero, List.set_cons_succ]
                refine wpAnyH_ready (rs := [11]) (by kernel_rfl) (by simp) ?_
                refine AllReadyH.cons rfl (fun K hK => ?_) AllReadyH.nil
                refine step_append_lies _ rfl (.tmp 72) (.tmp 79) 22 rfl W4.heap.size 32 i1 _ 9 32 Tryz.underlying22 hi1 hz1a hz1b hz1c rfl (by decide) (.slice (some ⟨g29, 0, none⟩) n d29) n (ms.flatMap mkC) rfl Hc_32.out ⟨Wd.heap.size, 0, none⟩ 1 1 [.int .i64 owner, .int .i64 day, .int .i64 day, .int .u8 s.s0, .int .u8 s.s1, .int .u8 s.s2, .int .u8 s.s3, .int .u8 s.s4, .int .u8 s.s5] rfl rfl (fun j u hu => by rw [addr_add, Nat.zero_add]; exact (Hw_32.out j u hu).1) (fun u hu => mkC_one (ms := [⟨owner, day, day, s⟩]) u (by simpa [mkC] using hu)) (by decide) (by have := HSZ.out; unfold maxLen; omega) (by have := HSZ.out; omega) HK_32.out.size _ rfl ?_
                intro g33 d33 V33 hown hgrow hg2 hlt9
                have hg : g33 = g29 ∨ V32.heap.size ≤ g33 := by
                  rcases hg2 with h | h
                  · injection h with h
                    exact .inl h.symm
                  · exact .inr (by omega)
                clear hg2 hlt9
                have HK_33 := Lib.hid (HK_32.out.grown hgrow (fun q hq => by injection hq with hq; rw [← hq]; exact (Hc_32.out.lt _ rfl).1))
                have Hw_33 := Lib.hid (rowC_grown Hw_32.out hgrow (fun e => by injection e with e; exact HDcw_29.out e))
                have Hz_33 := Lib.hid (rowC_grown Hz_32.out hgrow (fun e => by injection e with e; exact (Ne.symm HDzc_32.out) e))
                have Hc_33 := Lib.hid hown
                have HDcw_33 : RowKit.Hid (g33 ≠ Wd.heap.size) := Lib.hid (fun e => by
                  rcases hg with h | h
                  · exact HDcw_29.out (h.symm.trans e)
                  · have := (show Wd.heap.size < V32.heap.size from cell_lt (Hw_32.out 0 _ rfl).1); omega)
                have HDcz_33 : RowKit.Hid (g33 ≠ V29.heap.size) := Lib.hid (fun e => by
                  rcases hg with h | h
                  · exact (Ne.symm HDzc_32.out) (h.symm.trans e)
                  · have := (show V29.heap.size < V32.heap.size from cell_lt (Hz_32.out 0 _ rfl).1); omega)
                refine hK.out _ _ (SC.out _ HK_33.out) (fun hHeld => ?_)
                clear hK K hown hgrow hg
                try simp only [Act.put, List.setIfInBounds_toArray, List.set_cons_zero, List.set_cons_succ]
                refine take_at (i := 14) (d := some 83) (v := ?_) rfl rfl (by kernel_rfl) (by kernel_rfl) (by kernel_rfl) (fun _ _ _ h => h) (Or.inl ⟨by rfl, ?_⟩) hHeld ?_
                rotate_left
                · intro w hSw
                  try dsimp only at hSw
                  go_simp
                  try (with_reducible rfl)
                try simp only [Act.put, List.setIfInBounds_toArray, List.set_cons_zero, List.set_cons_succ]
                have c0 := (Hz_33.out 0 _ rfl).1
                have c1 := (Hz_33.out 1 _ rfl).1
                have f0 := (Hz_33.out 0 _ rfl).2
                have f1 := (Hz_33.out 1 _ rfl).2
                refine wpAnyH_ready (rs := [16]) (by kernel_rfl) (by simp) ?_
                refine AllReadyH.cons rfl (fun K hK => ?_) AllReadyH.nil
                rw [if_pos (by rfl)]
                go_simp
                have kz : Kept W4 ((V33.setCell ⟨V29.heap.size, 0, none⟩ (.slice (some ⟨g33, 0, none⟩) (n + 1) d33)).setCell ⟨V29.heap.size, 1, none⟩ (.slice B m d)) := (HK_33.out.setCell (p := ⟨V29.heap.size, 0, none⟩) (by have := HG_32.out; simpa using this) _).setCell (p := ⟨V29.heap.size, 1, none⟩) (by have := HG_32.out; simpa using this) _
                refine hK.out _ _ (SC.out _ kz) (fun hHeld => ?_)
                clear hK K
                try simp only [Act.put, List.setIfInBounds_toArray, List.set_cons_zero, List.set_cons_succ]
                refine wpAnyH_done (by kernel_rfl) ?_ _
                go_wp2
                go_meet
                refine ⟨V29.heap.size, g33, d33, rfl, ?_, ?_, HG_32.out, kz⟩
                · exact (Hz_33.out.put (j := 0) (by simp) (.slice (some ⟨g33, 0, none⟩) (n + 1) d33)).put (j := 1) (by simp) (.slice B m d)
                · exact ownsRow_setCell_other (ownsRow_setCell_other Hc_33.out (fun e => by injection e with e; exact HDcz_33.out e) _) (fun e => by injection e with e; exact HDcz_33.out e) _
              refine AllReadyH.cons rfl (fun K hK => ?_) AllReadyH.nil
              rw [if_pos (by rfl)]
              go_simp
              obtain ⟨V34, hWn⟩ : ∃ V34, V34 = V28.alloc (.cells #[.slice none 0 0, .slice none 0 0] 25) := ⟨_, rfl⟩
              rw [← hWn]
              have kn : Kept V28 V34 := by rw [hWn]; exact (Kept.refl _).alloc _
              have HK_34 := Lib.hid (HK_28.out.trans kn)
              have hge := HK_28.out.size
              have Hc_34 := Lib.hid (own_kept Hc_28.out kn)
              have Hw_34 := Lib.hid (Hw_28.out.kept kn)
              have Hz_34 : RowKit.Hid (RowC V34 V28.heap.size [.slice none 0 0, .slice none 0 0]) := Lib.hid (by rw [hWn]; exact RowC.new V28 [.slice none 0 0, .slice none 0 0] 25)
              have HG_34 : RowKit.Hid (W4.heap.size ≤ V28.heap.size) := Lib.hid hge
              have HDzc_34 : RowKit.Hid (V28.heap.size ≠ V27.heap.size) := Lib.hid (fun e => by have := (show V27.heap.size < V28.heap.size from own_lt Hc_28.out rfl); omega)
              have HDzw_34 : RowKit.Hid (V28.heap.size ≠ Wd.heap.size) := Lib.hid (fun e => by have := (show Wd.heap.size < V28.heap.size from cell_lt (Hw_28.out 0 _ rfl).1); omega)
              refine hK.out _ _ (SC.out _ HK_34.out) (fun hHeld => ?_)
              clear hK K hWn kn hge
              try simp only [Act.put, List.setIfInBounds_toArray, List.set_cons_zero, List.set_cons_succ]
              refine wpAnyH_ready (rs := [3]) (by kernel_rfl) (by simp) ?_
              refine AllReadyH.cons rfl (fun K hK => ?_) AllReadyH.nil
              refine step_copy rfl (.tmp 69) (.tmp 71) 22 rfl W4.heap.size 32 i1 _ 9 32 Tryz.underlying22 hi1 hz1a hz1b hz1c rfl (by decide) V27.heap.size rfl Hc_34.out A n c (ms.flatMap mkC) rfl HL1.out (HN1.out _ HK_34.out) mkC_one (by have := HSZ.out; unfold maxLen; omega) (by have := HSZ.out; omega) HK_34.out.size ?_
              intro g35 d35 V35 hown hgrow hg
              have HK_35 := Lib.hid (HK_34.out.grown hgrow (fun q hq => by injection hq with hq; rw [← hq]; exact (Hc_34.out.lt _ rfl).1))
              have Hw_35 := Lib.hid (rowC_grown Hw_34.out hgrow (fun e => by injection e with e; exact HDcw_28.out e))
              have Hz_35 := Lib.hid (rowC_grown Hz_34.out hgrow (fun e => by injection e with e; exact (Ne.symm HDzc_34.out) e))
              have Hc_35 := Lib.hid hown
              have HDcw_35 : RowKit.Hid (g35 ≠ Wd.heap.size) := Lib.hid (fun e => by
                rcases hg with h | h
                · exact HDcw_28.out (h.symm.trans e)
                · have := (show Wd.heap.size < V34.heap.size from cell_lt (Hw_34.out 0 _ rfl).1); omega)
              have HDcz_35 : RowKit.Hid (g35 ≠ V28.heap.size) := Lib.hid (fun e => by
                rcases hg with h | h
                · exact (Ne.symm HDzc_34.out) (h.symm.trans e)
                · have := (show V28.heap.size < V34.heap.size from cell_lt (Hz_34.out 0 _ rfl).1); omega)
              refine hK.out _ _ (SC.out _ HK_35.out) (fun hHeld => ?_)
              clear hK K hown hgrow hg
              try simp only [Act.put, List.setIfInBounds_toArray, List.set_cons_zero, List.set_cons_succ]
              refine wpAnyH_ready (rs := [11]) (by kernel_rfl) (by simp) ?_
              refine AllReadyH.cons rfl (fun K hK => ?_) AllReadyH.nil
              refine step_append_lies _ rfl (.tmp 72) (.tmp 79) 22 rfl W4.heap.size 32 i1 _ 9 32 Tryz.underlying22 hi1 hz1a hz1b hz1c rfl (by decide) (.slice (some ⟨g35, 0, none⟩) n d35) n (ms.flatMap mkC) rfl Hc_35.out ⟨Wd.heap.size, 0, none⟩ 1 1 [.int .i64 owner, .int .i64 day, .int .i64 day, .int .u8 s.s0, .int .u8 s.s1, .int .u8 s.s2, .int .u8 s.s3, .int .u8 s.s4, .int .u8 s.s5] rfl rfl (fun j u hu => by rw [addr_add, Nat.zero_add]; exact (Hw_35.out j u hu).1) (fun u hu => mkC_one (ms := [⟨owner, day, day, s⟩]) u (by simpa [mkC] using hu)) (by decide) (by have := HSZ.out; unfold maxLen; omega) (by have := HSZ.out; omega) HK_35.out.size _ rfl ?_
              intro g36 d36 V36 hown hgrow hg2 hlt9
              have hg : g36 = g35 ∨ V35.heap.size ≤ g36 := by
                rcases hg2 with h | h
                · injection h with h
                  exact .inl h.symm
                · exact .inr (by omega)
              clear hg2 hlt9
              have HK_36 := Lib.hid (HK_35.out.grown hgrow (fun q hq => by injection hq with hq; rw [← hq]; exact (Hc_35.out.lt _ rfl).1))
              have Hw_36 := Lib.hid (rowC_grown Hw_35.out hgrow (fun e => by injection e with e; exact HDcw_35.out e))
              have Hz_36 := Lib.hid (rowC_grown Hz_35.out hgrow (fun e => by injection e with e; exact HDcz_35.out e))
              have Hc_36 := Lib.hid hown
              have HDcw_36 : RowKit.Hid (g36 ≠ Wd.heap.size) := Lib.hid (fun e => by
                rcases hg with h | h
                · exact HDcw_35.out (h.symm.trans e)
                · have := (show Wd.heap.size < V35.heap.size from cell_lt (Hw_35.out 0 _ rfl).1); omega)
              have HDcz_36 : RowKit.Hid (g36 ≠ V28.heap.size) := Lib.hid (fun e => by
                rcases hg with h | h
                · exact HDcz_35.out (h.symm.trans e)
                · have := (show V28.heap.size < V35.heap.size from cell_lt (Hz_35.out 0 _ rfl).1); omega)
              refine hK.out _ _ (SC.out _ HK_36.out) (fun hHeld => ?_)
              clear hK K hown hgrow hg
              try simp only [Act.put, List.setIfInBounds_toArray, List.set_cons_zero, List.set_cons_succ]
              refine take_at (i := 14) (d := some 83) (v := ?_) rfl rfl (by kernel_rfl) (by kernel_rfl) (by kernel_rfl) (fun _ _ _ h => h) (Or.inl ⟨by rfl, ?_⟩) hHeld ?_
              rotate_left
              · intro w hSw
                try dsimp only at hSw
                go_simp
                try (with_reducible rfl)
              try simp only [Act.put, List.setIfInBounds_toArray, List.set_cons_zero, List.set_cons_succ]
              have c0 := (Hz_36.out 0 _ rfl).1
              have c1 := (Hz_36.out 1 _ rfl).1
              have f0 := (Hz_36.out 0 _ rfl).2
              have f1 := (Hz_36.out 1 _ rfl).2
              refine wpAnyH_ready (rs := [16]) (by kernel_rfl) (by simp) ?_
              refine AllReadyH.cons rfl (fun K hK => ?_) AllReadyH.nil
              rw [if_pos (by rfl)]
              go_simp
              have kz : Kept W4 ((V36.setCell ⟨V28.heap.size, 0, none⟩ (.slice (some ⟨g36, 0, none⟩) (n + 1) d36)).setCell ⟨V28.heap.size, 1, none⟩ (.slice B m d)) := (HK_36.out.setCell (p := ⟨V28.heap.size, 0, none⟩) (by have := HG_34.out; simpa using this) _).setCell (p := ⟨V28.heap.size, 1, none⟩) (by have := HG_34.out; simpa using this) _
              refine hK.out _ _ (SC.out _ kz) (fun hHeld => ?_)
              clear hK K
              try simp only [Act.put, List.setIfInBounds_toArray, List.set_cons_zero, List.set_cons_succ]
              refine wpAnyH_done (by kernel_rfl) ?_ _
              go_wp2
              go_meet
              refine ⟨V28.heap.size, g36, d36, rfl, ?_, ?_, HG_34.out, kz⟩
              · exact (Hz_36.out.put (j := 0) (by simp) (.slice (some ⟨g36, 0, none⟩) (n + 1) d36)).put (j := 1) (by simp) (.slice B m d)
              · exact ownsRow_setCell_other (ownsRow_setCell_other Hc_36.out (fun e => by injection e with e; exact HDcz_36.out e) _) (fun e => by injection e with e; exact HDcz_36.out e) _
            refine AllReadyH.cons rfl (fun K hK => ?_) AllReadyH.nil
            rw [if_pos (by rfl)]
            go_simp
            obtain ⟨V37, hWn⟩ : ∃ V37, V37 = V27.alloc (.cells #[.slice none 0 0, .slice none 0 0] 25) := ⟨_, rfl⟩
            rw [← hWn]
            have kn : Kept V27 V37 := by rw [hWn]; exact (Kept.refl _).alloc _
            have HK_37 := Lib.hid (HK_27.out.trans kn)
            have hge := HK_27.out.size
            have Hw_37 := Lib.hid (Hw_27.out.kept kn)
            have Hz_37 : RowKit.Hid (RowC V37 V27.heap.size [.slice none 0 0, .slice none 0 0]) := Lib.hid (by rw [hWn]; exact RowC.new V27 [.slice none 0 0, .slice none 0 0] 25)
            have HG_37 : RowKit.Hid (W4.heap.size ≤ V27.heap.size) := Lib.hid hge
            have HDzw_37 : RowKit.Hid (V27.heap.size ≠ Wd.heap.size) := Lib.hid (fun e => by have := (show Wd.heap.size < V27.heap.size from cell_lt (Hw_27.out 0 _ rfl).1); omega)
            refine hK.out _ _ (SC.out _ HK_37.out) (fun hHeld => ?_)
            clear hK K hWn kn hge
            try simp only [Act.put, List.setIfInBounds_toArray, List.set_cons_zero, List.set_cons_succ]
            refine wpAnyH_ready (rs := [0]) (by kernel_rfl) (by simp) ?_
            refine AllReadyH.cons rfl (fun K hK => ?_) AllReadyH.nil
            rw [if_pos (by rfl)]
            go_simp
            obtain ⟨V38, hWn⟩ : ∃ V38, V38 = V37.alloc (.cells #[] 32) := ⟨_, rfl⟩
            rw [← hWn]
            have kn : Kept V37 V38 := by rw [hWn]; exact (Kept.refl _).alloc _
            have HK_38 := Lib.hid (HK_37.out.trans kn)
            have hge := HK_37.out.size
            have Hw_38 := Lib.hid (Hw_37.out.kept kn)
            have Hz_38 := Lib.hid (Hz_37.out.kept kn)
            have Hc_38 : RowKit.Hid (V38.ownsRow W4.heap.size 32 9 (.slice (some ⟨V37.heap.size, 0, none⟩) 0 0) 0 []) := Lib.hid (by rw [hWn]; exact own_base (own00 V37 _ 32 9 rfl) hge)
            have HDcw_38 : RowKit.Hid (V37.heap.size ≠ Wd.heap.size) := Lib.hid (fun e => by have := (show Wd.heap.size < V37.heap.size from cell_lt (Hw_37.out 0 _ rfl).1); omega)
            have HDcz_38 : RowKit.Hid (V37.heap.size ≠ V27.heap.size) := Lib.hid (fun e => by have := (show V27.heap.size < V37.heap.size from cell_lt (Hz_37.out 0 _ rfl).1); omega)
            refine hK.out _ _ (SC.out _ HK_38.out) (fun hHeld => ?_)
            clear hK K hWn kn hge
            try simp only [Act.put, List.setIfInBounds_toArray, List.set_cons_zero, List.set_cons_succ]
            refine wpAnyH_ready (rs := [3]) (by kernel_rfl) (by simp) ?_
            refine AllReadyH.cons rfl (fun K hK => ?_) AllReadyH.nil
            refine step_copy rfl (.tmp 69) (.tmp 71) 22 rfl W4.heap.size 32 i1 _ 9 32 Tryz.underlying22 hi1 hz1a hz1b hz1c rfl (by decide) V37.heap.size rfl Hc_38.out A n c (ms.flatMap mkC) rfl HL1.out (HN1.out _ HK_38.out) mkC_one (by have := HSZ.out; unfold maxLen; omega) (by have := HSZ.out; omega) HK_38.out.size ?_
            intro g39 d39 V39 hown hgrow hg
            have HK_39 := Lib.hid (HK_38.out.grown hgrow (fun q hq => by injection hq with hq; rw [← hq]; exact (Hc_38.out.lt _ rfl).1))
            have Hw_39 := Lib.hid (rowC_grown Hw_38.out hgrow (fun e => by injection e with e; exact HDcw_38.out e))
            have Hz_39 := Lib.hid (rowC_grown Hz_38.out hgrow (fun e => by injection e with e; exact HDcz_38.out e))
            have Hc_39 := Lib.hid hown
            have HDcw_39 : RowKit.Hid (g39 ≠ Wd.heap.size) := Lib.hid (fun e => by
              rcases hg with h | h
              · exact HDcw_38.out (h.symm.trans e)
              · have := (show Wd.heap.size < V38.heap.size from cell_lt (Hw_38.out 0 _ rfl).1); omega)
            have HDcz_39 : RowKit.Hid (g39 ≠ V27.heap.size) := Lib.hid (fun e => by
              rcases hg with h | h
              · exact HDcz_38.out (h.symm.trans e)
              · have := (show V27.heap.size < V38.heap.size from cell_lt (Hz_38.out 0 _ rfl).1); omega)
            refine hK.out _ _ (SC.out _ HK_39.out) (fun hHeld => ?_)
            clear hK K hown hgrow hg
            try simp only [Act.put, List.setIfInBounds_toArray, List.set_cons_zero, List.set_cons_succ]
            refine wpAnyH_ready (rs := [11]) (by kernel_rfl) (by simp) ?_
            refine AllReadyH.cons rfl (fun K hK => ?_) AllReadyH.nil
            refine step_append_lies _ rfl (.tmp 72) (.tmp 79) 22 rfl W4.heap.size 32 i1 _ 9 32 Tryz.underlying22 hi1 hz1a hz1b hz1c rfl (by decide) (.slice (some ⟨g39, 0, none⟩) n d39) n (ms.flatMap mkC) rfl Hc_39.out ⟨Wd.heap.size, 0, none⟩ 1 1 [.int .i64 owner, .int .i64 day, .int .i64 day, .int .u8 s.s0, .int .u8 s.s1, .int .u8 s.s2, .int .u8 s.s3, .int .u8 s.s4, .int .u8 s.s5] rfl rfl (fun j u hu => by rw [addr_add, Nat.zero_add]; exact (Hw_39.out j u hu).1) (fun u hu => mkC_one (ms := [⟨owner, day, day, s⟩]) u (by simpa [mkC] using hu)) (by decide) (by have := HSZ.out; unfold maxLen; omega) (by have := HSZ.out; omega) HK_39.out.size _ rfl ?_
            intro g40 d40 V40 hown hgrow hg2 hlt9
            have hg : g40 = g39 ∨ V39.heap.size ≤ g40 := by
              rcases hg2 with h | h
              · injection h with h
                exact .inl h.symm
              · exact .inr (by omega)
            clear hg2 hlt9
            have HK_40 := Lib.hid (HK_39.out.grown hgrow (fun q hq => by injection hq with hq; rw [← hq]; exact (Hc_39.out.lt _ rfl).1))
            have Hw_40 := Lib.hid (rowC_grown Hw_39.out hgrow (fun e => by injection e with e; exact HDcw_39.out e))
            have Hz_40 := Lib.hid (rowC_grown Hz_39.out hgrow (fun e => by injection e with e; exact HDcz_39.out e))
            have Hc_40 := Lib.hid hown
            have HDcw_40 : RowKit.Hid (g40 ≠ Wd.heap.size) := Lib.hid (fun e => by
              rcases hg with h | h
              · exact HDcw_39.out (h.symm.trans e)
              · have := (show Wd.heap.size < V39.heap.size from cell_lt (Hw_39.out 0 _ rfl).1); omega)
            have HDcz_40 : RowKit.Hid (g40 ≠ V27.heap.size) := Lib.hid (fun e => by
              rcases hg with h | h
              · exact HDcz_39.out (h.symm.trans e)
              · have := (show V27.heap.size < V39.heap.size from cell_lt (Hz_39.out 0 _ rfl).1); omega)
            refine hK.out _ _ (SC.out _ HK_40.out) (fun hHeld => ?_)
            clear hK K hown hgrow hg
            try simp only [Act.put, List.setIfInBounds_toArray, List.set_cons_zero, List.set_cons_succ]
            refine take_at (i := 14) (d := some 83) (v := ?_) rfl rfl (by kernel_rfl) (by kernel_rfl) (by kernel_rfl) (fun _ _ _ h => h) (Or.inl ⟨by rfl, ?_⟩) hHeld ?_
            rotate_left
            · intro w hSw
              try dsimp only at hSw
              go_simp
              try (with_reducible rfl)
            try simp only [Act.put, List.setIfInBounds_toArray, List.set_cons_zero, List.set_cons_succ]
            have c0 := (Hz_40.out 0 _ rfl).1
            have c1 := (Hz_40.out 1 _ rfl).1
            have f0 := (Hz_40.out 0 _ rfl).2
            have f1 := (Hz_40.out 1 _ rfl).2
            refine wpAnyH_ready (rs := [16]) (by kernel_rfl) (by simp) ?_
            refine AllReadyH.cons rfl (fun K hK => ?_) AllReadyH.nil
            rw [if_pos (by rfl)]
            go_simp
            have kz : Kept W4 ((V40.setCell ⟨V27.heap.size, 0, none⟩ (.slice (some ⟨g40, 0, none⟩) (n + 1) d40)).setCell ⟨V27.heap.size, 1, none⟩ (.slice B m d)) := (HK_40.out.setCell (p := ⟨V27.heap.size, 0, none⟩) (by have := HG_37.out; simpa using this) _).setCell (p := ⟨V27.heap.size, 1, none⟩) (by have := HG_37.out; simpa using this) _
            refine hK.out _ _ (SC.out _ kz) (fun hHeld => ?_)
            clear hK K
            try simp only [Act.put, List.setIfInBounds_toArray, List.set_cons_zero, List.set_cons_succ]
            refine wpAnyH_done (by kernel_rfl) ?_ _
            go_wp2
            go_meet
            refine ⟨V27.heap.size, g40, d40, rfl, ?_, ?_, HG_37.out, kz⟩
            · exact (Hz_40.out.put (j := 0) (by simp) (.slice (some ⟨g40, 0, none⟩) (n + 1) d40)).put (j := 1) (by simp) (.slice B m d)
            · exact ownsRow_setCell_other (ownsRow_setCell_other Hc_40.out (fun e => by injection e with e; exact HDcz_40.out e) _) (fun e => by injection e with e; exact HDcz_40.out e) _
          refine AllReadyH.cons rfl (fun K hK => ?_) AllReadyH.nil
          rw [if_pos (by rfl)]
          go_simp
          obtain ⟨V41, hWn⟩ : ∃ V41, V41 = Wd.alloc (.cells #[.slice none 0 0, .slice none 0 0] 25) := ⟨_, rfl⟩
          rw [← hWn]
          have kn : Kept Wd V41 := by rw [hWn]; exact (Kept.refl _).alloc _
          have HK_41 := Lib.hid (HKd.out.trans kn)
          have hge := HKd.out.size
          have Hz_41 : RowKit.Hid (RowC V41 Wd.heap.size [.slice none 0 0, .slice none 0 0]) := Lib.hid (by rw [hWn]; exact RowC.new Wd [.slice none 0 0, .slice none 0 0] 25)
          have HG_41 : RowKit.Hid (W4.heap.size ≤ Wd.heap.size) := Lib.hid hge
          refine hK.out _ _ (SC.out _ HK_41.out) (fun hHeld => ?_)
          clear hK K hWn kn hge
          try simp only [Act.put, List.setIfInBounds_toArray, List.set_cons_zero, List.set_cons_succ]
          refine wpAnyH_ready (rs := [0, 10]) (by kernel_rfl) (by simp) ?_
          refine AllReadyH.cons rfl (fun K hK => ?_) ?_
          · rw [if_pos (by rfl)]
            go_simp
            obtain ⟨V42, hWn⟩ : ∃ V42, V42 = V41.alloc (.cells #[] 32) := ⟨_, rfl⟩
            rw [← hWn]
            have kn : Kept V41 V42 := by rw [hWn]; exact (Kept.refl _).alloc _
            have HK_42 := Lib.hid (HK_41.out.trans kn)
            have hge := HK_41.out.size
            have Hz_42 := Lib.hid (Hz_41.out.kept kn)
            have Hc_42 : RowKit.Hid (V42.ownsRow W4.heap.size 32 9 (.slice (some ⟨V41.heap.size, 0, none⟩) 0 0) 0 []) := Lib.hid (by rw [hWn]; exact own_base (own00 V41 _ 32 9 rfl) hge)
            have HDcz_42 : RowKit.Hid (V41.heap.size ≠ Wd.heap.size) := Lib.hid (fun e => by have := (show Wd.heap.size < V41.heap.size from cell_lt (Hz_41.out 0 _ rfl).1); omega)
            refine hK.out _ _ (SC.out _ HK_42.out) (fun hHeld => ?_)
            clear hK K hWn kn hge
            try simp only [Act.put, List.setIfInBounds_toArray, List.set_cons_zero, List.set_cons_succ]
            refine wpAnyH_ready (rs := [3, 10]) (by kernel_rfl) (by simp) ?_
            refine AllReadyH.cons rfl (fun K hK => ?_) ?_
            · refine step_copy rfl (.tmp 69) (.tmp 71) 22 rfl W4.heap.size 32 i1 _ 9 32 Tryz.underlying22 hi1 hz1a hz1b hz1c rfl (by decide) V41.heap.size rfl Hc_42.out A n c (ms.flatMap mkC) rfl HL1.out (HN1.out _ HK_42.out) mkC_one (by have := HSZ.out; unfold maxLen; omega) (by have := HSZ.out; omega) HK_42.out.size ?_
              intro g43 d43 V43 hown hgrow hg
              have HK_43 := Lib.hid (HK_42.out.grown hgrow (fun q hq => by injection hq with hq; rw [← hq]; exact (Hc_42.out.lt _ rfl).1))
              have Hz_43 := Lib.hid (rowC_grown Hz_42.out hgrow (fun e => by injection e with e; exact HDcz_42.out e))
              have Hc_43 := Lib.hid hown
              have HDcz_43 : RowKit.Hid (g43 ≠ Wd.heap.size) := Lib.hid (fun e => by
                rcases hg with h | h
                · exact HDcz_42.out (h.symm.trans e)
                · have := (show Wd.heap.size < V42.heap.size from cell_lt (Hz_42.out 0 _ rfl).1); omega)
              refine hK.out _ _ (SC.out _ HK_43.out) (fun hHeld => ?_)
              clear hK K hown hgrow hg
              try simp only [Act.put, List.setIfInBounds_toArray, List.set_cons_zero, List.set_cons_succ]
              refine wpAnyH_ready (rs := [10]) (by kernel_rfl) (by simp) ?_
              refine AllReadyH.cons rfl (fun K hK => ?_) AllReadyH.nil
              rw [if_pos (by rfl)]
              go_simp
              obtain ⟨V44, hWn⟩ : ∃ V44, V44 = V43.alloc (.cells #[.int .i64 owner, .int .i64 day, .int .i64 day, .int .u8 s.s0, .int .u8 s.s1, .int .u8 s.s2, .int .u8 s.s3, .int .u8 s.s4, .int .u8 s.s5] 32) := ⟨_, rfl⟩
              rw [← hWn]
              have kn : Kept V43 V44 := by rw [hWn]; exact (Kept.refl _).alloc _
              have HK_44 := Lib.hid (HK_43.out.trans kn)
              have hge := HK_43.out.size
              have Hc_44 := Lib.hid (own_kept Hc_43.out kn)
              have Hz_44 := Lib.hid (Hz_43.out.kept kn)
              have Hw_44 : RowKit.Hid (RowC V44 V43.heap.size [.int .i64 owner, .int .i64 day, .int .i64 day, .int .u8 s.s0, .int .u8 s.s1, .int .u8 s.s2, .int .u8 s.s3, .int .u8 s.s4, .int .u8 s.s5]) := Lib.hid (by rw [hWn]; exact RowC.new V43 [.int .i64 owner, .int .i64 day, .int .i64 day, .int .u8 s.s0, .int .u8 s.s1, .int .u8 s.s2, .int .u8 s.s3, .int .u8 s.s4, .int .u8 s.s5] 32)
              have HDwc_44 : RowKit.Hid (V43.heap.size ≠ g43) := Lib.hid (fun e => by have := (show g43 < V43.heap.size from own_lt Hc_43.out rfl); omega)
              have HDwz_44 : RowKit.Hid (V43.heap.size ≠ Wd.heap.size) := Lib.hid (fun e => by have := (show Wd.heap.size < V43.heap.size from cell_lt (Hz_43.out 0 _ rfl).1); omega)
              refine hK.out _ _ (SC.out _ HK_44.out) (fun hHeld => ?_)
              clear hK K hWn kn hge
              try simp only [Act.put, List.setIfInBounds_toArray, List.set_cons_zero, List.set_cons_succ]
              refine wpAnyH_ready (rs := [11]) (by kernel_rfl) (by simp) ?_
              refine AllReadyH.cons rfl (fun K hK => ?_) AllReadyH.nil
              refine step_append_lies _ rfl (.tmp 72) (.tmp 79) 22 rfl W4.heap.size 32 i1 _ 9 32 Tryz.underlying22 hi1 hz1a hz1b hz1c rfl (by decide) (.slice (some ⟨g43, 0, none⟩) n d43) n (ms.flatMap mkC) rfl Hc_44.out ⟨V43.heap.size, 0, none⟩ 1 1 [.int .i64 owner, .int .i64 day, .int .i64 day, .int .u8 s.s0, .int .u8 s.s1, .int .u8 s.s2, .int .u8 s.s3, .int .u8 s.s4, .int .u8 s.s5] rfl rfl (fun j u hu => by rw [addr_add, Nat.zero_add]; exact (Hw_44.out j u hu).1) (fun u hu => mkC_one (ms := [⟨owner, day, day, s⟩]) u (by simpa [mkC] using hu)) (by decide) (by have := HSZ.out; unfold maxLen; omega) (by have := HSZ.out; omega) HK_44.out.size _ rfl ?_
              intro g45 d45 V45 hown hgrow hg2 hlt9
              have hg : g45 = g43 ∨ V44.heap.size ≤ g45 := by
                rcases hg2 with h | h
                · injection h with h
                  exact .inl h.symm
                · exact .inr (by omega)
              clear hg2 hlt9
              have HK_45 := Lib.hid (HK_44.out.grown hgrow (fun q hq => by injection hq with hq; rw [← hq]; exact (Hc_44.out.lt _ rfl).1))
              have Hw_45 := Lib.hid (rowC_grown Hw_44.out hgrow (fun e => by injection e with e; exact (Ne.symm HDwc_44.out) e))
              have Hz_45 := Lib.hid (rowC_grown Hz_44.out hgrow (fun e => by injection e with e; exact HDcz_43.out e))
              have Hc_45 := Lib.hid hown
              have HDcw_45 : RowKit.Hid (g45 ≠ V43.heap.size) := Lib.hid (fun e => by
                rcases hg with h | h
                · exact (Ne.symm HDwc_44.out) (h.symm.trans e)
                · have := (show V43.heap.size < V44.heap.size from cell_lt (Hw_44.out 0 _ rfl).1); omega)
              have HDcz_45 : RowKit.Hid (g45 ≠ Wd.heap.size) := Lib.hid (fun e => by
                rcases hg with h | h
                · exact HDcz_43.out (h.symm.trans e)
                · have := (show Wd.heap.size < V44.heap.size from cell_lt (Hz_44.out 0 _ rfl).1); omega)
              refine hK.out _ _ (SC.out _ HK_45.out) (fun hHeld => ?_)
              clear hK K hown hgrow hg
              try simp only [Act.put, List.setIfInBounds_toArray, List.set_cons_zero, List.set_cons_succ]
              refine take_at (i := 14) (d := some 83) (v := ?_) rfl rfl (by kernel_rfl) (by kernel_rfl) (by kernel_rfl) (fun _ _ _ h => h) (Or.inl ⟨by rfl, ?_⟩) hHeld ?_
              rotate_left
              · intro w hSw
                try dsimp only at hSw
                go_simp
                try (with_reducible rfl)
              try simp only [Act.put, List.setIfInBounds_toArray, List.set_cons_zero, List.set_cons_succ]
              have c0 := (Hz_45.out 0 _ rfl).1
              have c1 := (Hz_45.out 1 _ rfl).1
              have f0 := (Hz_45.out 0 _ rfl).2
              have f1 := (Hz_45.out 1 _ rfl).2
              refine wpAnyH_ready (rs := [16]) (by kernel_rfl) (by simp) ?_
              refine AllReadyH.cons rfl (fun K hK => ?_) AllReadyH.nil
              rw [if_pos (by rfl)]
              go_simp
              have kz : Kept W4 ((V45.setCell ⟨Wd.heap.size, 0, none⟩ (.slice (some ⟨g45, 0, none⟩) (n + 1) d45)).setCell ⟨Wd.heap.size, 1, none⟩ (.slice B m d)) := (HK_45.out.setCell (p := ⟨Wd.heap.size, 0, none⟩) (by have := HG_41.out; simpa using this) _).setCell (p := ⟨Wd.heap.size, 1, none⟩) (by have := HG_41.out; simpa using this) _
              refine hK.out _ _ (SC.out _ kz) (fun hHeld => ?_)
              clear hK K
              try simp only [Act.put, List.setIfInBounds_toArray, List.set_cons_zero, List.set_cons_succ]
              refine wpAnyH_done (by kernel_rfl) ?_ _
              go_wp2
              go_meet
              refine ⟨Wd.heap.size, g45, d45, rfl, ?_, ?_, HG_41.out, kz⟩
              · exact (Hz_45.out.put (j := 0) (by simp) (.slice (some ⟨g45, 0, none⟩) (n + 1) d45)).put (j := 1) (by simp) (.slice B m d)
              · exact ownsRow_setCell_other (ownsRow_setCell_other Hc_45.out (fun e => by injection e with e; exact HDcz_45.out e) _) (fun e => by injection e with e; exact HDcz_45.out e) _
            refine AllReadyH.cons rfl (fun K hK => ?_) AllReadyH.nil
            rw [if_pos (by rfl)]
            go_simp
            obtain ⟨V46, hWn⟩ : ∃ V46, V46 = V42.alloc (.cells #[.int .i64 owner, .int .i64 day, .int .i64 day, .int .u8 s.s0, .int .u8 s.s1, .int .u8 s.s2, .int .u8 s.s3, .int .u8 s.s4, .int .u8 s.s5] 32) := ⟨_, rfl⟩
            rw [← hWn]
            have kn : Kept V42 V46 := by rw [hWn]; exact (Kept.refl _).alloc _
            have HK_46 := Lib.hid (HK_42.out.trans kn)
            have hge := HK_42.out.size
            have Hc_46 := Lib.hid (own_kept Hc_42.out kn)
            have Hz_46 := Lib.hid (Hz_42.out.kept kn)
            have Hw_46 : RowKit.Hid (RowC V46 V42.heap.size [.int .i64 owner, .int .i64 day, .int .i64 day, .int .u8 s.s0, .int .u8 s.s1, .int .u8 s.s2, .int .u8 s.s3, .int .u8 s.s4, .int .u8 s.s5]) := Lib.hid (by rw [hWn]; exact RowC.new V42 [.int .i64 owner, .int .i64 day, .int .i64 day, .int .u8 s.s0, .int .u8 s.s1, .int .u8 s.s2, .int .u8 s.s3, .int .u8 s.s4, .int .u8 s.s5] 32)
            have HDwc_46 : RowKit.Hid (V42.heap.size ≠ V41.heap.size) := Lib.hid (fun e => by have := (show V41.heap.size < V42.heap.size from own_lt Hc_42.out rfl); omega)
            have HDwz_46 : RowKit.Hid (V42.heap.size ≠ Wd.heap.size) := Lib.hid (fun e => by have := (show Wd.heap.size < V42.heap.size from cell_lt (Hz_42.out 0 _ rfl).1); omega)
            refine hK.out _ _ (SC.out _ HK_46.out) (fun hHeld => ?_)
            clear hK K hWn kn hge
            try simp only [Act.put, List.setIfInBounds_toArray, List.set_cons_zero, List.set_cons_succ]
            refine wpAnyH_ready (rs := [3]) (by kernel_rfl) (by simp) ?_
            refine AllReadyH.cons rfl (fun K hK => ?_) AllReadyH.nil
            refine step_copy rfl (.tmp 69) (.tmp 71) 22 rfl W4.heap.size 32 i1 _ 9 32 Tryz.underlying22 hi1 hz1a hz1b hz1c rfl (by decide) V41.heap.size rfl Hc_46.out A n c (ms.flatMap mkC) rfl HL1.out (HN1.out _ HK_46.out) mkC_one (by have := HSZ.out; unfold maxLen; omega) (by have := HSZ.out; omega) HK_46.out.size ?_
            intro g47 d47 V47 hown hgrow hg
            have HK_47 := Lib.hid (HK_46.out.grown hgrow (fun q hq => by injection hq with hq; rw [← hq]; exact (Hc_46.out.lt _ rfl).1))
            have Hw_47 := Lib.hid (rowC_grown Hw_46.out hgrow (fun e => by injection e with e; exact (Ne.symm HDwc_46.out) e))
            have Hz_47 := Lib.hid (rowC_grown Hz_46.out hgrow (fun e => by injection e with e; exact HDcz_42.out e))
            have Hc_47 := Lib.hid hown
            have HDcw_47 : RowKit.Hid (g47 ≠ V42.heap.size) := Lib.hid (fun e => by
              rcases hg with h | h
              · exact (Ne.symm HDwc_46.out) (h.symm.trans e)
              · have := (show V42.heap.size < V46.heap.size from cell_lt (Hw_46.out 0 _ rfl).1); omega)
            have HDcz_47 : RowKit.Hid (g47 ≠ Wd.heap.size) := Lib.hid (fun e => by
              rcases hg with h | h
              · exact HDcz_42.out (h.symm.trans e)
              · have := (show Wd.heap.size < V46.heap.size from cell_lt (Hz_46.out 0 _ rfl).1); omega)
            refine hK.out _ _ (SC.out _ HK_47.out) (fun hHeld => ?_)
            clear hK K hown hgrow hg
            try simp only [Act.put, List.setIfInBounds_toArray, List.set_cons_zero, List.set_cons_succ]
            refine wpAnyH_ready (rs := [11]) (by kernel_rfl) (by simp) ?_
            refine AllReadyH.cons rfl (fun K hK => ?_) AllReadyH.nil
            refine step_append_lies _ rfl (.tmp 72) (.tmp 79) 22 rfl W4.heap.size 32 i1 _ 9 32 Tryz.underlying22 hi1 hz1a hz1b hz1c rfl (by decide) (.slice (some ⟨g47, 0, none⟩) n d47) n (ms.flatMap mkC) rfl Hc_47.out ⟨V42.heap.size, 0, none⟩ 1 1 [.int .i64 owner, .int .i64 day, .int .i64 day, .int .u8 s.s0, .int .u8 s.s1, .int .u8 s.s2, .int .u8 s.s3, .int .u8 s.s4, .int .u8 s.s5] rfl rfl (fun j u hu => by rw [addr_add, Nat.zero_add]; exact (Hw_47.out j u hu).1) (fun u hu => mkC_one (ms := [⟨owner, day, day, s⟩]) u (by simpa [mkC] using hu)) (by decide) (by have := HSZ.out; unfold maxLen; omega) (by have := HSZ.out; omega) HK_47.out.size _ rfl ?_
            intro g48 d48 V48 hown hgrow hg2 hlt9
            have hg : g48 = g47 ∨ V47.heap.size ≤ g48 := by
              rcases hg2 with h | h
              · injection h with h
                exact .inl h.symm
              · exact .inr (by omega)
            clear hg2 hlt9
            have HK_48 := Lib.hid (HK_47.out.grown hgrow (fun q hq => by injection hq with hq; rw [← hq]; exact (Hc_47.out.lt _ rfl).1))
            have Hw_48 := Lib.hid (rowC_grown Hw_47.out hgrow (fun e => by injection e with e; exact HDcw_47.out e))
            have Hz_48 := Lib.hid (rowC_grown Hz_47.out hgrow (fun e => by injection e with e; exact HDcz_47.out e))
            have Hc_48 := Lib.hid hown
            have HDcw_48 : RowKit.Hid (g48 ≠ V42.heap.size) := Lib.hid (fun e => by
              rcases hg with h | h
              · exact HDcw_47.out (h.symm.trans e)
              · have := (show V42.heap.size < V47.heap.size from cell_lt (Hw_47.out 0 _ rfl).1); omega)
            have HDcz_48 : RowKit.Hid (g48 ≠ Wd.heap.size) := Lib.hid (fun e => by
              rcases hg with h | h
              · exact HDcz_47.out (h.symm.trans e)
              · have := (show Wd.heap.size < V47.heap.size from cell_lt (Hz_47.out 0 _ rfl).1); omega)
            refine hK.out _ _ (SC.out _ HK_48.out) (fun hHeld => ?_)
            clear hK K hown hgrow hg
            try simp only [Act.put, List.setIfInBounds_toArray, List.set_cons_zero, List.set_cons_succ]
            refine take_at (i := 14) (d := some 83) (v := ?_) rfl rfl (by kernel_rfl) (by kernel_rfl) (by kernel_rfl) (fun _ _ _ h => h) (Or.inl ⟨by rfl, ?_⟩) hHeld ?_
            rotate_left
            · intro w hSw
              try dsimp only at hSw
              go_simp
              try (with_reducible rfl)
            try simp only [Act.put, List.setIfInBounds_toArray, List.set_cons_zero, List.set_cons_succ]
            have c0 := (Hz_48.out 0 _ rfl).1
            have c1 := (Hz_48.out 1 _ rfl).1
            have f0 := (Hz_48.out 0 _ rfl).2
            have f1 := (Hz_48.out 1 _ rfl).2
            refine wpAnyH_ready (rs := [16]) (by kernel_rfl) (by simp) ?_
            refine AllReadyH.cons rfl (fun K hK => ?_) AllReadyH.nil
            rw [if_pos (by rfl)]
            go_simp
            have kz : Kept W4 ((V48.setCell ⟨Wd.heap.size, 0, none⟩ (.slice (some ⟨g48, 0, none⟩) (n + 1) d48)).setCell ⟨Wd.heap.size, 1, none⟩ (.slice B m d)) := (HK_48.out.setCell (p := ⟨Wd.heap.size, 0, none⟩) (by have := HG_41.out; simpa using this) _).setCell (p := ⟨Wd.heap.size, 1, none⟩) (by have := HG_41.out; simpa using this) _
            refine hK.out _ _ (SC.out _ kz) (fun hHeld => ?_)
            clear hK K
            try simp only [Act.put, List.setIfInBounds_toArray, List.set_cons_zero, List.set_cons_succ]
            refine wpAnyH_done (by kernel_rfl) ?_ _
            go_wp2
            go_meet
            refine ⟨Wd.heap.size, g48, d48, rfl, ?_, ?_, HG_41.out, kz⟩
            · exact (Hz_48.out.put (j := 0) (by simp) (.slice (some ⟨g48, 0, none⟩) (n + 1) d48)).put (j := 1) (by simp) (.slice B m d)
            · exact ownsRow_setCell_other (ownsRow_setCell_other Hc_48.out (fun e => by injection e with e; exact HDcz_48.out e) _) (fun e => by injection e with e; exact HDcz_48.out e) _
          refine AllReadyH.cons rfl (fun K hK => ?_) AllReadyH.nil
          rw [if_pos (by rfl)]
          go_simp
          obtain ⟨V49, hWn⟩ : ∃ V49, V49 = V41.alloc (.cells #[.int .i64 owner, .int .i64 day, .int .i64 day, .int .u8 s.s0, .int .u8 s.s1, .int .u8 s.s2, .int .u8 s.s3, .int .u8 s.s4, .int .u8 s.s5] 32) := ⟨_, rfl⟩
          rw [← hWn]
          have kn : Kept V41 V49 := by rw [hWn]; exact (Kept.refl _).alloc _
          have HK_49 := Lib.hid (HK_41.out.trans kn)
          have hge := HK_41.out.size
          have Hz_49 := Lib.hid (Hz_41.out.kept kn)
          have Hw_49 : RowKit.Hid (RowC V49 V41.heap.size [.int .i64 owner, .int .i64 day, .int .i64 day, .int .u8 s.s0, .int .u8 s.s1, .int .u8 s.s2, .int .u8 s.s3, .int .u8 s.s4, .int .u8 s.s5]) := Lib.hid (by rw [hWn]; exact RowC.new V41 [.int .i64 owner, .int .i64 day, .int .i64 day, .int .u8 s.s0, .int .u8 s.s1, .int .u8 s.s2, .int .u8 s.s3, .int .u8 s.s4, .int .u8 s.s5] 32)
          have HDwz_49 : RowKit.Hid (V41.heap.size ≠ Wd.heap.size) := Lib.hid (fun e => by have := (show Wd.heap.size < V41.heap.size from cell_lt (Hz_41.out 0 _ rfl).1); omega)
          refine hK.out _ _ (SC.out _ HK_49.out) (fun hHeld => ?_)
          clear hK K hWn kn hge
          try simp only [Act.put, List.setIfInBounds_toArray, List.set_cons_zero, List.set_cons_succ]
          refine wpAnyH_ready (rs := [0]) (by kernel_rfl) (by simp) ?_
          refine AllReadyH.cons rfl (fun K hK => ?_) AllReadyH.nil
          rw [if_pos (by rfl)]
          go_simp
          obtain ⟨V50, hWn⟩ : ∃ V50, V50 = V49.alloc (.cells #[] 32) := ⟨_, rfl⟩
          rw [← hWn]
          have kn : Kept V49 V50 := by rw [hWn]; exact (Kept.refl _).alloc _
          have HK_50 := Lib.hid (HK_49.out.trans kn)
          have hge := HK_49.out.size
          have Hw_50 := Lib.hid (Hw_49.out.kept kn)
          have Hz_50 := Lib.hid (Hz_49.out.kept kn)
          have Hc_50 : RowKit.Hid (V50.ownsRow W4.heap.size 32 9 (.slice (some ⟨V49.heap.size, 0, none⟩) 0 0) 0 []) := Lib.hid (by rw [hWn]; exact own_base (own00 V49 _ 32 9 rfl) hge)
          have HDcw_50 : RowKit.Hid (V49.heap.size ≠ V41.heap.size) := Lib.hid (fun e => by have := (show V41.heap.size < V49.heap.size from cell_lt (Hw_49.out 0 _ rfl).1); omega)
          have HDcz_50 : RowKit.Hid (V49.heap.size ≠ Wd.heap.size) := Lib.hid (fun e => by have := (show Wd.heap.size < V49.heap.size from cell_lt (Hz_49.out 0 _ rfl).1); omega)
          refine hK.out _ _ (SC.out _ HK_50.out) (fun hHeld => ?_)
          clear hK K hWn kn hge
          try simp only [Act.put, List.setIfInBounds_toArray, List.set_cons_zero, List.set_cons_succ]
          refine wpAnyH_ready (rs := [3]) (by kernel_rfl) (by simp) ?_
          refine AllReadyH.cons rfl (fun K hK => ?_) AllReadyH.nil
          refine step_copy rfl (.tmp 69) (.tmp 71) 22 rfl W4.heap.size 32 i1 _ 9 32 Tryz.underlying22 hi1 hz1a hz1b hz1c rfl (by decide) V49.heap.size rfl Hc_50.out A n c (ms.flatMap mkC) rfl HL1.out (HN1.out _ HK_50.out) mkC_one (by have := HSZ.out; unfold maxLen; omega) (by have := HSZ.out; omega) HK_50.out.size ?_
          intro g51 d51 V51 hown hgrow hg
          have HK_51 := Lib.hid (HK_50.out.grown hgrow (fun q hq => by injection hq with hq; rw [← hq]; exact (Hc_50.out.lt _ rfl).1))
          have Hw_51 := Lib.hid (rowC_grown Hw_50.out hgrow (fun e => by injection e with e; exact HDcw_50.out e))
          have Hz_51 := Lib.hid (rowC_grown Hz_50.out hgrow (fun e => by injection e with e; exact HDcz_50.out e))
          have Hc_51 := Lib.hid hown
          have HDcw_51 : RowKit.Hid (g51 ≠ V41.heap.size) := Lib.hid (fun e => by
            rcases hg with h | h
            · exact HDcw_50.out (h.symm.trans e)
            · have := (show V41.heap.size < V50.heap.size from cell_lt (Hw_50.out 0 _ rfl).1); omega)
          have HDcz_51 : RowKit.Hid (g51 ≠ Wd.heap.size) := Lib.hid (fun e => by
            rcases hg with h | h
            · exact HDcz_50.out (h.symm.trans e)
            · have := (show Wd.heap.size < V50.heap.size from cell_lt (Hz_50.out 0 _ rfl).1); omega)
          refine hK.out _ _ (SC.out _ HK_51.out) (fun hHeld => ?_)
          clear hK K hown hgrow hg
          try simp only [Act.put, List.setIfInBounds_toArray, List.set_cons_zero, List.set_cons_succ]
          refine wpAnyH_ready (rs := [11]) (by kernel_rfl) (by simp) ?_
          refine AllReadyH.cons rfl (fun K hK => ?_) AllReadyH.nil
          refine step_append_lies _ rfl (.tmp 72) (.tmp 79) 22 rfl W4.heap.size 32 i1 _ 9 32 Tryz.underlying22 hi1 hz1a hz1b hz1c rfl (by decide) (.slice (some ⟨g51, 0, none⟩) n d51) n (ms.flatMap mkC) rfl Hc_51.out ⟨V41.heap.size, 0, none⟩ 1 1 [.int .i64 owner, .int .i64 day, .int .i64 day, .int .u8 s.s0, .int .u8 s.s1, .int .u8 s.s2, .int .u8 s.s3, .int .u8 s.s4, .int .u8 s.s5] rfl rfl (fun j u hu => by rw [addr_add, Nat.zero_add]; exact (Hw_51.out j u hu).1) (fun u hu => mkC_one (ms := [⟨owner, day, day, s⟩]) u (by simpa [mkC] using hu)) (by decide) (by have := HSZ.out; unfold maxLen; omega) (by have := HSZ.out; omega) HK_51.out.size _ rfl ?_
          intro g52 d52 V52 hown hgrow hg2 hlt9
          have hg : g52 = g51 ∨ V51.heap.size ≤ g52 := by
            rcases hg2 with h | h
            · injection h with h
              exact .inl h.symm
            · exact .inr (by omega)
          clear hg2 hlt9
          have HK_52 := Lib.hid (HK_51.out.grown hgrow (fun q hq => by injection hq with hq; rw [← hq]; exact (Hc_51.out.lt _ rfl).1))
          have Hw_52 := Lib.hid (rowC_grown Hw_51.out hgrow (fun e => by injection e with e; exact HDcw_51.out e))
          have Hz_52 := Lib.hid (rowC_grown Hz_51.out hgrow (fun e => by injection e with e; exact HDcz_51.out e))
          have Hc_52 := Lib.hid hown
          have HDcw_52 : RowKit.Hid (g52 ≠ V41.heap.size) := Lib.hid (fun e => by
            rcases hg with h | h
            · exact HDcw_51.out (h.symm.trans e)
            · have := (show V41.heap.size < V51.heap.size from cell_lt (Hw_51.out 0 _ rfl).1); omega)
          have HDcz_52 : RowKit.Hid (g52 ≠ Wd.heap.size) := Lib.hid (fun e => by
            rcases hg with h | h
            · exact HDcz_51.out (h.symm.trans e)
            · have := (show Wd.heap.size < V51.heap.size from cell_lt (Hz_51.out 0 _ rfl).1); omega)
          refine hK.out _ _ (SC.out _ HK_52.out) (fun hHeld => ?_)
          clear hK K hown hgrow hg
          try simp only [Act.put, List.setIfInBounds_toArray, List.set_cons_zero, List.set_cons_succ]
          refine take_at (i := 14) (d := some 83) (v := ?_) rfl rfl (by kernel_rfl) (by kernel_rfl) (by kernel_rfl) (fun _ _ _ h => h) (Or.inl ⟨by rfl, ?_⟩) hHeld ?_
          rotate_left
          · intro w hSw
            try dsimp only at hSw
            go_simp
            try (with_reducible rfl)
          try simp only [Act.put, List.setIfInBounds_toArray, List.set_cons_zero, List.set_cons_succ]
          have c0 := (Hz_52.out 0 _ rfl).1
          have c1 := (Hz_52.out 1 _ rfl).1
          have f0 := (Hz_52.out 0 _ rfl).2
          have f1 := (Hz_52.out 1 _ rfl).2
          refine wpAnyH_ready (rs := [16]) (by kernel_rfl) (by simp) ?_
          refine AllReadyH.cons rfl (fun K hK => ?_) AllReadyH.nil
          rw [if_pos (by rfl)]
          go_simp
          have kz : Kept W4 ((V52.setCell ⟨Wd.heap.size, 0, none⟩ (.slice (some ⟨g52, 0, none⟩) (n + 1) d52)).setCell ⟨Wd.heap.size, 1, none⟩ (.slice B m d)) := (HK_52.out.setCell (p := ⟨Wd.heap.size, 0, none⟩) (by have := HG_41.out; simpa using this) _).setCell (p := ⟨Wd.heap.size, 1, none⟩) (by have := HG_41.out; simpa using this) _
          refine hK.out _ _ (SC.out _ kz) (fun hHeld => ?_)
          clear hK K
          try simp only [Act.put, List.setIfInBounds_toArray, List.set_cons_zero, List.set_cons_succ]
          refine wpAnyH_done (by kernel_rfl) ?_ _
          go_wp2
          go_meet
          refine ⟨Wd.heap.size, g52, d52, rfl, ?_, ?_, HG_41.out, kz⟩
          · exact (Hz_52.out.put (j := 0) (by simp) (.slice (some ⟨g52, 0, none⟩) (n + 1) d52)).put (j := 1) (by simp) (.slice B m d)
          · exact ownsRow_setCell_other (ownsRow_setCell_other Hc_52.out (fun e => by injection e with e; exact HDcz_52.out e) _) (fun e => by injection e with e; exact HDcz_52.out e) _
        case rest =>
          obtain ⟨g, g1, d1, rfl, hrb, ho1, hge, hkc⟩ := hcut
          have HRB := Lib.hid hrb
          have HKC := Lib.hid hkc
          have s9 := own_slB (enc := mkC) (ok := Mk.ok) (xs := ms ++ [⟨owner, day, day, s⟩]) (fun _ => rfl) (by rw [List.flatMap_append, List.flatMap_singleton]; exact ho1) (by rw [List.length_append, HMN.out]; rfl) (fun z hz => by
            rcases List.mem_append.1 hz with h | h
            · exact HMO.out z h
            · rw [List.mem_singleton] at h
              rw [h]
              exact ⟨HO64.out, HD64.out, HD64.out, HSO.out⟩)
          have HSX : RowKit.Hid (SmA wc (some ⟨g1, 0, none⟩) (n + 1) d1 (ms ++ [⟨owner, day, day, s⟩]) B m d fs) := Lib.hid ⟨s9, HS.out.2.kept (K4.out.trans hkc)⟩
          have HM := Lib.hid (H37.out _ _ _ _ _ _ _ _ _ HSX.out)
          have b0 := (hrb 0 _ rfl).1
          have b1 := (hrb 1 _ rfl).1
          have lb := cell_lt b0
          clear hrb ho1 hge hkc s9
          go_wp2_with fail
          refine HM.out.mono ?_
          rintro e w7 ⟨⟨hne, rfl⟩ | ⟨h0, l', v', rfl, hp', hs', ho'⟩, hk7⟩
          · obtain ⟨E, hE⟩ : ∃ E, inE (ms ++ [⟨owner, day, day, s⟩]) fs day = E := ⟨_, rfl⟩
            rw [hE] at hne ⊢
            have h1 : (E != 0) = true := by simpa using hne
            have K7 := Lib.hid (K4.out.trans (HKC.out.trans hk7))
            clear hk7 b0 b1 lb hE
            go_wp2_with fail
            refine (HMK.out _ K7.out).mono ?_
            rintro e w8 ⟨rfl, hk8⟩
            have K8 := Lib.hid (K0.out.trans (K7.out.trans hk8))
            clear hk8
            go_wp2_with fail
            go_ret
            exact ⟨rfl, K8.out⟩
          · obtain ⟨h00, _⟩ := fstE_two (show fstE [smE (ms ++ [⟨owner, day, day, s⟩]) fs, errB (inB day 0 100000)] = 0 from h0)
            have HNO : RowKit.Hid (∀ z, z ∈ misL fs l' → z.a ≠ owner ∧ z.b ≠ owner) := Lib.hid (fun z hz => nobody h00 HP.out HFR.out hp' hs' hz)
            obtain ⟨A7, c7, rfl, hsl7⟩ := own_slA (enc := prC) (ok := fun _ => True) (fun _ => rfl) ho' rfl (fun _ _ => trivial)
            have HSL7 := Lib.hid hsl7
            have hm5 := hsl7.2.1
            have hm6 := hsl7.2.2.1
            have K7 := Lib.hid (K4.out.trans (HKC.out.trans hk7))
            obtain ⟨M, hM⟩ : ∃ M, (misL fs l').length = M := ⟨_, rfl⟩
            rw [hM] at HSL7 hm5 ⊢
            have HM7 := Lib.hid hM
            clear hk7 b0 b1 lb hp' hs' ho' hsl7 hM h00 h0
            go_wp2_with fail
            go_loopw [17] (fun i wr => ∃ k : Nat, k ≤ M ∧ i = .int .i64 k ∧ Kept w7 wr) (fun i _ => M - (intOf i).toNat)
            case atStart => exact ⟨0, by omega, by first | rfl | go_num, Kept.refl _⟩
            case round =>
              obtain ⟨k, hk, rfl, hkr⟩ := hrel
              have HKQ := Lib.hid hkr
              clear hkr
              by_cases hlt2 : k < M
              · obtain ⟨z, hz⟩ : ∃ z, (misL fs l')[k]? = some z := ⟨_, List.getElem?_eq_getElem (by rw [HM7.out]; exact hlt2)⟩
                obtain ⟨b, off, hA5, ht⟩ := (HSL7.out.kept HKQ.out).2.2.2.2 (by omega)
                subst hA5
                have c0 := ht k z hz 0 _ rfl
                have c1 := ht k z hz 1 _ rfl
                rw [Nat.add_zero] at c0
                have lc := cell_lt c0
                obtain ⟨hn1, hn2⟩ := HNO.out z (List.mem_of_getElem? hz)
                have q1 : (z.a == owner) = false := by simpa using hn1
                have q2 : (z.b == owner) = false := by simpa using hn2
                have hi0 : (0 : Int) ≤ (k : Int) := by omega
                have hi1 : (k : Int) < (M : Int) := by omega
                clear ht hz hn1 hn2
                go_wp2_with fail
                go_roundw
                case rel => exact ⟨k + 1, by omega, by go_num, by first | exact HKQ.out | exact HKQ.out.drew⟩
                case measure => simp [intOf]; omega
              · obtain rfl : k = M := by omega
                go_wp2_with fail
                refine (HMK.out _ (K7.out.trans HKQ.out)).mono ?_
                rintro e w8 ⟨rfl, hk8⟩
                have K8 := Lib.hid (K0.out.trans ((K7.out.trans HKQ.out).trans hk8))
                clear hk8
                go_wp2_with fail
                go_ret
                exact ⟨rfl, K8.out⟩
end Go.Proofs.YtologmoanaccpaaGreatDoor
