/-
  the law MarkMore
-/
import Derived.Test.YtologmoanaccpaaGreatDoorVA
import Derived.Test.YtologmoanaccpaaGreatDoorBN
import Derived.Test.YtologmoanaccpaaGreatDoorZK
namespace Go.Proofs.YtologmoanaccpaaGreatDoor
set_option linter.all false
open Go.RowKit Go.Shelf

def ftb (ms : List Mk) (fs : List Fd) (day : Int) (s : Sg) (o : Int) : Bool := if ftE ms fs day s o ≠ 0 then false else (ownD ms fs day s).testBit o.toNat
theorem FtP.sum {w w' : World} {ms : List Mk} {fs : List Fd} {day o : Int} {s : Sg} {e : Ending} (h : FtP w ms fs day s o e w') : e = .returned (.tuple #[.bool (ftb ms fs day s o), .int .i64 (ftE ms fs day s o)]) ∧ Kept w w' := by
  obtain ⟨⟨h0, he⟩ | ⟨h0, he⟩, hk⟩ := h
  · exact ⟨by unfold ftb; rw [if_pos h0]; exact he, hk⟩
  · exact ⟨by unfold ftb; rw [if_neg (fun h => h h0), h0]; exact he, hk⟩
theorem ftb_more {ms : List Mk} {fs : List Fd} {ms' : List Mk} {fs' : List Fd} (H : MoreR ms fs ms' fs') {day o : Int} {s : Sg} (he : ftE ms' fs' day s o = ftE ms fs day s o) (h : ftb ms fs day s o = true) : ftb ms' fs' day s o = true := by
  unfold ftb at h ⊢
  by_cases h0 : ftE ms fs day s o = 0
  · rw [if_neg (fun h => h h0)] at h
    rw [he, if_neg (fun h => h h0)]
    exact ownD_more H h
  · rw [if_pos h0] at h
    cases h
set_option maxRecDepth 100000 in
set_option maxHeartbeats 25600000 in
theorem markMore_any (A B : Option Addr) (n c m d : Nat) (ms : List Mk) (fs : List Fd) (day : Int) (s : Sg) (x : Mk) (f : Fd) (fade : Bool) (w : World) (hs : SmA w A n c ms B m d fs) (hso : s.ok) (hx : x.ok) (hf : f.ok) (hE : EnvT w) (hM : EnvM w) :
    Calls Tryz.prog 14 #[.agg #[.slice A n c, .slice B m d], .int .i64 day, .agg #[.int .u8 s.s0, .int .u8 s.s1, .int .u8 s.s2, .int .u8 s.s3, .int .u8 s.s4, .int .u8 s.s5], .agg #[.int .i64 x.own, .int .i64 x.frm, .int .i64 x.unt, .int .u8 x.sg.s0, .int .u8 x.sg.s1, .int .u8 x.sg.s2, .int .u8 x.sg.s3, .int .u8 x.sg.s4, .int .u8 x.sg.s5], .agg #[.int .u8 f.sign, .int .u8 f.seen], .bool fade] w fun e w' => e = .returned (.bool true) ∧ Kept w w' := by
  obtain ⟨Wa, hWa⟩ : ∃ Wa, Wa = w.alloc (.cells #[.slice A n c, .slice B m d] 25) := ⟨_, rfl⟩
  obtain ⟨Wb, hWb⟩ : ∃ Wb, Wb = Wa.alloc (.cells #[.int .u8 s.s0, .int .u8 s.s1, .int .u8 s.s2, .int .u8 s.s3, .int .u8 s.s4, .int .u8 s.s5] 39) := ⟨_, rfl⟩
  obtain ⟨Wc, hWc⟩ : ∃ Wc, Wc = Wb.alloc (.cells #[.int .i64 x.own, .int .i64 x.frm, .int .i64 x.unt, .int .u8 x.sg.s0, .int .u8 x.sg.s1, .int .u8 x.sg.s2, .int .u8 x.sg.s3, .int .u8 x.sg.s4, .int .u8 x.sg.s5] 32) := ⟨_, rfl⟩
  obtain ⟨W0, hW0⟩ : ∃ W0, W0 = Wc.alloc (.cells #[.int .u8 f.sign, .int .u8 f.seen] 87) := ⟨_, rfl⟩
  have ka : Kept w Wa := by rw [hWa]; exact (Kept.refl _).alloc _
  have kb : Kept Wa Wb := by rw [hWb]; exact (Kept.refl _).alloc _
  have kc : Kept Wb Wc := by rw [hWc]; exact (Kept.refl _).alloc _
  have k0 : Kept Wc W0 := by rw [hW0]; exact (Kept.refl _).alloc _
  have K0 : RowKit.Hid (Kept w W0) := Lib.hid (((ka.trans kb).trans kc).trans k0)
  have za : Wa.heap.size = w.heap.size + 1 := by rw [hWa]; simp
  have zb : Wb.heap.size = w.heap.size + 2 := by rw [hWb]; simp [za]
  have zc : Wc.heap.size = w.heap.size + 3 := by rw [hWc]; simp [zb]
  have z0 : W0.heap.size = w.heap.size + 4 := by rw [hW0]; simp [zc]
  have RA : RowKit.Hid (RowC W0 w.heap.size [.slice A n c, .slice B m d]) := Lib.hid (RowC.kept (by rw [hWa]; exact RowC.new w [.slice A n c, .slice B m d] 25) ((kb.trans kc).trans k0))
  have RB : RowKit.Hid (RowC W0 (w.heap.size + 1) (sgV s)) := Lib.hid (by rw [← za]; exact RowC.kept (by rw [hWb]; exact RowC.new Wa (sgV s) 39) (kc.trans k0))
  have RC : RowKit.Hid (RowC W0 (w.heap.size + 2) (mkC x)) := Lib.hid (by rw [← zb]; exact RowC.kept (by rw [hWc]; exact RowC.new Wb (mkC x) 32) k0)
  have RD : RowKit.Hid (RowC W0 (w.heap.size + 3) (fdC f)) := Lib.hid (by rw [← zc, hW0]; exact RowC.new Wc (fdC f) 87)
  have HW := Lib.hid hW0
  have HWC := Lib.hid hWc
  have HWB := Lib.hid hWb
  have HWA := Lib.hid hWa
  have HZ0 := Lib.hid z0
  have HS := Lib.hid (hs.kept K0.out)
  have HSO := Lib.hid hso
  have HMN := Lib.hid hs.1.1
  have HFN := Lib.hid hs.2.1
  have HMO := Lib.hid hs.1.2.2.2.1
  have HFO := Lib.hid hs.2.2.2.2.1
  have HXO := Lib.hid hx
  have HFK := Lib.hid hf
  have H28 : RowKit.Hid (∀ A B n c m d ms fs (o : Int) W, SmA W A n c ms B m d fs → Calls Tryz.prog 28 #[.agg #[.slice A n c, .slice B m d], .int .i64 day, .agg #[.int .u8 s.s0, .int .u8 s.s1, .int .u8 s.s2, .int .u8 s.s3, .int .u8 s.s4, .int .u8 s.s5], .int .i64 o] W (FtP W ms fs day s o)) := Lib.hid (fun A B n c m d ms fs o W h => fitsM_any A B n c m d ms fs day o s W h hso)
  have H37 : RowKit.Hid (∀ A B n c m d ms fs W, SmA W A n c ms B m d fs → Calls Tryz.prog 37 #[.agg #[.slice A n c, .slice B m d], .int .i64 day] W (MisP W ms fs day)) := Lib.hid (fun A B n c m d ms fs W h => mistaken_any A B n c m d ms fs day W h)
  have H69 : RowKit.Hid (∀ A n c xs (y : Pr) W, SlA prC 2 (fun _ => True) W A n c xs → Calls Tryz.prog 69 #[.slice A n c, .agg #[.int .i64 y.a, .int .i64 y.b]] W fun e w' => e = .returned (.bool (decide (y ∈ xs))) ∧ Kept W w') := Lib.hid (fun A n c xs y W h => in_any A n c xs y W h)
  have HMK : RowKit.Hid (∀ W, Kept W0 W → Calls Tryz.prog 19 #[] W fun e w' => e = .returned (.bool true) ∧ Kept W w') := Lib.hid (fun W hW => marked_any W (hE.kept (K0.out.trans hW)) (hM.kept (K0.out.trans hW)))
  have H25 : RowKit.Hid (∀ A B n c m d ms fs W, SmA W A n c ms B m d fs → Calls Tryz.prog 25 #[.agg #[.slice A n c, .slice B m d]] W fun e w' => e = .returned (.int .i64 (smE ms fs)) ∧ Kept W w') := Lib.hid (fun A B n c m d ms fs W h => checkSmits_any A B n c m d ms fs W h)
  have hnc := hs.1.2.1
  have hcm := hs.1.2.2.1
  have hmd := hs.2.2.1
  have hdm := hs.2.2.2.1
  clear hWa hWb hWc hW0 ka kb kc k0 za zb zc z0 hs hE hM hso hx hf
  have a0 := (RA.out 0 _ rfl).1
  have a1 := (RA.out 1 _ rfl).1
  have la := cell_lt a0
  go_enter Tryz.func14, Tryz.ntmps14
  go_upto_region 1 with (fail)
  rw [← HWA.out, ← HWB.out, ← HWC.out, ← HW.out]
  by_cases hn40 : 40 < n
  · go_wp2_with fail
    refine (HMK.out _ (Kept.refl _)).mono ?_
    rintro e w2 ⟨rfl, hk2⟩
    have K2 := Lib.hid (K0.out.trans hk2)
    clear hk2
    go_wp2_with fail
    go_ret
    exact ⟨rfl, K2.out⟩
  by_cases hm20 : 20 < m
  · go_wp2_with fail
    refine (HMK.out _ (Kept.refl _)).mono ?_
    rintro e w2 ⟨rfl, hk2⟩
    have K2 := Lib.hid (K0.out.trans hk2)
    clear hk2
    go_wp2_with fail
    go_ret
    exact ⟨rfl, K2.out⟩
  have SC : RowKit.Hid (∀ W, Kept W0 W → W.cell? ⟨w.heap.size, 0, none⟩ = some (.slice A n c) ∧ W.cell? ⟨w.heap.size, 1, none⟩ = some (.slice B m d) ∧ Kept W0 W) := Lib.hid (fun W hW => ⟨(RA.out.kept hW 0 _ rfl).1, (RA.out.kept hW 1 _ rfl).1, hW⟩)
  obtain ⟨i1, hi1, hz1a, hz1b, hz1c⟩ := info_parts info32
  obtain ⟨i2, hi2, hz2a, hz2b, hz2c⟩ := info_parts info87
  have HSZ : RowKit.Hid (n ≤ 40 ∧ m ≤ 20) := Lib.hid ⟨by omega, by omega⟩
  have HL1 : RowKit.Hid ((ms.flatMap mkC).length = n * 9) := Lib.hid (by rw [flat_lenV (k := 9) (fun _ => rfl), HMN.out])
  have HL2 : RowKit.Hid ((fs.flatMap fdC).length = m * 2) := Lib.hid (by rw [flat_lenV (k := 2) (fun _ => rfl), HFN.out])
  have HN1 : RowKit.Hid (∀ W, Kept W0 W → 0 < n → ∃ ad, A = some ad ∧ ∀ j u, (ms.flatMap mkC)[j]? = some u → W.cell? (ad.add j) = some u) := Lib.hid (fun W hW => slA_news (fun _ => rfl) (by decide) (HS.out.1.kept hW))
  have HN2 : RowKit.Hid (∀ W, Kept W0 W → 0 < m → ∃ ad, B = some ad ∧ ∀ j u, (fs.flatMap fdC)[j]? = some u → W.cell? (ad.add j) = some u) := Lib.hid (fun W hW => slA_news (fun _ => rfl) (by decide) (HS.out.2.kept hW))
  go_upto_region 3 with fail
  go_cut [13] (fun s13 wx => ∃ g g1 d1 g2 d2, s13 = .pointer (some ⟨g, 0, none⟩) ∧ RowC wx g [.slice (some ⟨g1, 0, none⟩) n d1, .slice (some ⟨g2, 0, none⟩) m d2] ∧ wx.ownsRow W0.heap.size 32 9 (.slice (some ⟨g1, 0, none⟩) n d1) n (ms.flatMap mkC) ∧ wx.ownsRow W0.heap.size 87 2 (.slice (some ⟨g2, 0, none⟩) m d2) m (fs.flatMap fdC) ∧ g1 ≠ g ∧ g2 ≠ g ∧ g1 ≠ g2 ∧ W0.heap.size ≤ g ∧ Kept W0 wx)
  case first =>
    obtain ⟨Wd, hWd⟩ : ∃ Wd, Wd = W0.drew := ⟨_, rfl⟩
    have HKd : RowKit.Hid (Kept W0 Wd) := Lib.hid (by rw [hWd]; exact (Kept.refl W0).drew)
    refine wp_region_held_drew (S := fun W => W.cell? ⟨w.heap.size, 0, none⟩ = some (.slice A n c) ∧ W.cell? ⟨w.heap.size, 1, none⟩ = some (.slice B m d) ∧ Kept W0 W) (by kernel_rfl) (SC.out _ (Kept.refl W0).drew) (fun hHeld => ?_)
    rw [← hWd] at hHeld ⊢
    clear hWd
    refine take_at (i := 1) (d := some 36) (v := ?_) rfl rfl (by kernel_rfl) (by kernel_rfl) (by kernel_rfl) (fun _ _ _ h => h) (Or.inl ⟨by rfl, ?_⟩) hHeld ?_
    rotate_left
    · intro w hSw
      try dsimp only at hSw
      go_simp
      try (with_reducible rfl)
    try simp only [Act.put, List.setIfInBounds_toArray, List.set_cons_zero, List.set_cons_succ]
    refine take_at (i := 2) (d := some 37) (v := ?_) rfl rfl (by kernel_rfl) (by kernel_rfl) (by kernel_rfl) (fun _ _ _ h => h) (Or.inl ⟨by rfl, ?_⟩) hHeld ?_
    rotate_left
    · intro w hSw
      try dsimp only at hSw
      go_simp
      try (with_reducible rfl)
    try simp only [Act.put, List.setIfInBounds_toArray, List.set_cons_zero, List.set_cons_succ]
    refine take_at (i := 5) (d := some 40) (v := ?_) rfl rfl (by kernel_rfl) (by kernel_rfl) (by kernel_rfl) (fun _ _ _ h => h) (Or.inl ⟨by rfl, ?_⟩) hHeld ?_
    rotate_left
    · intro w hSw
      try dsimp only at hSw
      go_simp
      try (with_reducible rfl)
    try simp only [Act.put, List.setIfInBounds_toArray, List.set_cons_zero, List.set_cons_succ]
    refine take_at (i := 6) (d := some 41) (v := ?_) rfl rfl (by kernel_rfl) (by kernel_rfl) (by kernel_rfl) (fun _ _ _ h => h) (Or.inl ⟨by rfl, ?_⟩) hHeld ?_
    rotate_left
    · intro w hSw
      try dsimp only at hSw
      go_simp
      try (with_reducible rfl)
    try simp only [Act.put, List.setIfInBounds_toArray, List.set_cons_zero, List.set_cons_succ]
    refine wpAnyH_ready (rs := [0, 4, 9]) (by kernel_rfl) (by simp) ?_
    refine AllReadyH.cons rfl (fun K hK => ?_) ?_
    · rw [if_pos (by rfl)]
      go_simp
      obtain ⟨W1, hWn⟩ : ∃ W1, W1 = Wd.alloc (.cells #[] 32) := ⟨_, rfl⟩
      rw [← hWn]
      have kn : Kept Wd W1 := by rw [hWn]; exact (Kept.refl _).alloc _
      have HK_1 := Lib.hid (HKd.out.trans kn)
      have hge := HKd.out.size
      have HO1_1 : RowKit.Hid (W1.ownsRow W0.heap.size 32 9 (.slice (some ⟨Wd.heap.size, 0, none⟩) 0 0) 0 []) := Lib.hid (by rw [hWn]; exact own_base (own00 Wd _ 32 9 rfl) hge)
      refine hK.out _ _ (SC.out _ HK_1.out) (fun hHeld => ?_)
      clear hK K hWn kn hge
      try simp only [Act.put, List.setIfInBounds_toArray, List.set_cons_zero, List.set_cons_succ]
      refine wpAnyH_ready (rs := [3, 4, 9]) (by kernel_rfl) (by simp) ?_
      refine AllReadyH.cons rfl (fun K hK => ?_) ?_
      · refine step_copy rfl (.tmp 35) (.tmp 37) 22 rfl W0.heap.size 32 i1 _ 9 32 Tryz.underlying22 hi1 hz1a hz1b hz1c rfl (by decide) Wd.heap.size rfl HO1_1.out A n c (ms.flatMap mkC) rfl HL1.out (HN1.out _ HK_1.out) mkC_one (by have := HSZ.out; unfold maxLen; omega) (by have := HSZ.out; omega) HK_1.out.size ?_
        intro g2 d2 W2 hown hgrow hg
        have HK_2 := Lib.hid (HK_1.out.grown hgrow (fun q hq => by injection hq with hq; rw [← hq]; exact (HO1_1.out.lt _ rfl).1))
        have HO1_2 := Lib.hid hown
        refine hK.out _ _ (SC.out _ HK_2.out) (fun hHeld => ?_)
        clear hK K hown hgrow hg
        try simp only [Act.put, List.setIfInBounds_toArray, List.set_cons_zero, List.set_cons_succ]
        refine wpAnyH_ready (rs := [4, 9]) (by kernel_rfl) (by simp) ?_
        refine AllReadyH.cons rfl (fun K hK => ?_) ?_
        · rw [if_pos (by rfl)]
          go_simp
          obtain ⟨W3, hWn⟩ : ∃ W3, W3 = W2.alloc (.cells #[] 87) := ⟨_, rfl⟩
          rw [← hWn]
          have kn : Kept W2 W3 := by rw [hWn]; exact (Kept.refl _).alloc _
          have HK_3 := Lib.hid (HK_2.out.trans kn)
          have hge := HK_2.out.size
          have HO1_3 := Lib.hid (own_kept HO1_2.out kn)
          have HO2_3 : RowKit.Hid (W3.ownsRow W0.heap.size 87 2 (.slice (some ⟨W2.heap.size, 0, none⟩) 0 0) 0 []) := Lib.hid (by rw [hWn]; exact own_base (own00 W2 _ 87 2 rfl) hge)
          have HD21_3 : RowKit.Hid (W2.heap.size ≠ g2) := Lib.hid (fun e => by have := (show g2 < W2.heap.size from own_lt HO1_2.out rfl); omega)
          refine hK.out _ _ (SC.out _ HK_3.out) (fun hHeld => ?_)
          clear hK K hWn kn hge
          try simp only [Act.put, List.setIfInBounds_toArray, List.set_cons_zero, List.set_cons_succ]
          refine wpAnyH_ready (rs := [7, 9]) (by kernel_rfl) (by simp) ?_
          refine AllReadyH.cons rfl (fun K hK => ?_) ?_
          · refine step_copy rfl (.tmp 39) (.tmp 41) 23 rfl W0.heap.size 87 i2 _ 2 2 Tryz.underlying23 hi2 hz2a hz2b hz2c rfl (by decide) W2.heap.size rfl HO2_3.out B m d (fs.flatMap fdC) rfl HL2.out (HN2.out _ HK_3.out) fdC_one (by have := HSZ.out; unfold maxLen; omega) (by have := HSZ.out; omega) HK_3.out.size ?_
            intro g4 d4 W4 hown hgrow hg
            have HK_4 := Lib.hid (HK_3.out.grown hgrow (fun q hq => by injection hq with hq; rw [← hq]; exact (HO2_3.out.lt _ rfl).1))
            have HO1_4 := Lib.hid (own_far HO1_3.out hgrow (fun g hg => by injection hg with hg; intro e; injection e with e; exact HD21_3.out (e.trans hg.symm)))
            have HO2_4 := Lib.hid hown
            have HD21_4 : RowKit.Hid (g4 ≠ g2) := Lib.hid (fun e => by
              rcases hg with h | h
              · exact HD21_3.out (h.symm.trans e)
              · have := (show g2 < W3.heap.size from own_lt HO1_3.out rfl); omega)
            refine hK.out _ _ (SC.out _ HK_4.out) (fun hHeld => ?_)
            clear hK K hown hgrow hg
            try simp only [Act.put, List.setIfInBounds_toArray, List.set_cons_zero, List.set_cons_succ]
            refine take_at (i := 8) (d := some 43) (v := ?_) rfl rfl (by kernel_rfl) (by kernel_rfl) (by kernel_rfl) (fun _ _ _ h => h) (Or.inl ⟨by rfl, ?_⟩) hHeld ?_
            rotate_left
            · intro w hSw
              try dsimp only at hSw
              go_simp
              try (with_reducible rfl)
            try simp only [Act.put, List.setIfInBounds_toArray, List.set_cons_zero, List.set_cons_succ]
            refine wpAnyH_ready (rs := [9]) (by kernel_rfl) (by simp) ?_
            refine AllReadyH.cons rfl (fun K hK => ?_) AllReadyH.nil
            rw [if_pos (by rfl)]
            go_simp
            obtain ⟨W5, hWn⟩ : ∃ W5, W5 = W4.alloc (.cells #[.slice none 0 0, .slice none 0 0] 25) := ⟨_, rfl⟩
            rw [← hWn]
            have kn : Kept W4 W5 := by rw [hWn]; exact (Kept.refl _).alloc _
            have HK_5 := Lib.hid (HK_4.out.trans kn)
            have hge := HK_4.out.size
            have HO1_5 := Lib.hid (own_kept HO1_4.out kn)
            have HO2_5 := Lib.hid (own_kept HO2_4.out kn)
            have HB_5 : RowKit.Hid (RowC W5 W4.heap.size [.slice none 0 0, .slice none 0 0]) := Lib.hid (by rw [hWn]; exact RowC.new W4 [.slice none 0 0, .slice none 0 0] 25)
            have HG_5 : RowKit.Hid (W0.heap.size ≤ W4.heap.size) := Lib.hid hge
            have HDz1_5 : RowKit.Hid (W4.heap.size ≠ g2) := Lib.hid (fun e => by have := (show g2 < W4.heap.size from own_lt HO1_4.out rfl); omega)
            have HDz2_5 : RowKit.Hid (W4.heap.size ≠ g4) := Lib.hid (fun e => by have := (show g4 < W4.heap.size from own_lt HO2_4.out rfl); omega)
            refine hK.out _ _ (SC.out _ HK_5.out) (fun hHeld => ?_)
            clear hK K hWn kn hge
            try simp only [Act.put, List.setIfInBounds_toArray, List.set_cons_zero, List.set_cons_succ]
            have c0 := (HB_5.out 0 _ rfl).1
            have c1 := (HB_5.out 1 _ rfl).1
            have f0 := (HB_5.out 0 _ rfl).2
            have f1 := (HB_5.out 1 _ rfl).2
            refine wpAnyH_ready (rs := [10]) (by kernel_rfl) (by simp) ?_
            refine AllReadyH.cons rfl (fun K hK => ?_) AllReadyH.nil
            rw [if_pos (by rfl)]
            go_simp
            have kz : Kept W0 ((W5.setCell ⟨W4.heap.size, 0, none⟩ (.slice (some ⟨g2, 0, none⟩) n d2)).setCell ⟨W4.heap.size, 1, none⟩ (.slice (some ⟨g4, 0, none⟩) m d4)) := (HK_5.out.setCell (p := ⟨W4.heap.size, 0, none⟩) (by have := HG_5.out; simpa using this) _).setCell (p := ⟨W4.heap.size, 1, none⟩) (by have := HG_5.out; simpa using this) _
            refine hK.out _ _ (SC.out _ kz) (fun hHeld => ?_)
            clear hK K
            try simp only [Act.put, List.setIfInBounds_toArray, List.set_cons_zero, List.set_cons_succ]
            refine wpAnyH_done (by kernel_rfl) ?_ _
            go_wp2
            go_meet
            refine ⟨W4.heap.size, g2, d2, g4, d4, rfl, ?_, ?_, ?_, (Ne.symm HDz1_5.out), (Ne.symm HDz2_5.out), (Ne.symm HD21_4.out), HG_5.out, kz⟩
            · exact (HB_5.out.put (j := 0) (by simp) (.slice (some ⟨g2, 0, none⟩) n d2)).put (j := 1) (by simp) (.slice (some ⟨g4, 0, none⟩) m d4)
            · exact ownsRow_setCell_other (ownsRow_setCell_other HO1_5.out (fun e => by injection e with e; exact (Ne.symm HDz1_5.out) e) _) (fun e => by injection e with e; exact (Ne.symm HDz1_5.out) e) _
            · exact ownsRow_setCell_other (ownsRow_setCell_other HO2_5.out (fun e => by injection e with e; exact (Ne.symm HDz2_5.out) e) _) (fun e => by injection e with e; exact (Ne.symm HDz2_5.out) e) _
          refine AllReadyH.cons rfl (fun K hK => ?_) AllReadyH.nil
          rw [if_pos (by rfl)]
          go_simp
          obtain ⟨W6, hWn⟩ : ∃ W6, W6 = W3.alloc (.cells #[.slice none 0 0, .slice none 0 0] 25) := ⟨_, rfl⟩
          rw [← hWn]
          have kn : Kept W3 W6 := by rw [hWn]; exact (Kept.refl _).alloc _
          have HK_6 := Lib.hid (HK_3.out.trans kn)
          have hge := HK_3.out.size
          have HO1_6 := Lib.hid (own_kept HO1_3.out kn)
          have HO2_6 := Lib.hid (own_kept HO2_3.out kn)
          have HB_6 : RowKit.Hid (RowC W6 W3.heap.size [.slice none 0 0, .slice none 0 0]) := Lib.hid (by rw [hWn]; exact RowC.new W3 [.slice none 0 0, .slice none 0 0] 25)
          have HG_6 : RowKit.Hid (W0.heap.size ≤ W3.heap.size) := Lib.hid hge
          have HDz1_6 : RowKit.Hid (W3.heap.size ≠ g2) := Lib.hid (fun e => by have := (show g2 < W3.heap.size from own_lt HO1_3.out rfl); omega)
          have HDz2_6 : RowKit.Hid (W3.heap.size ≠ W2.heap.size) := Lib.hid (fun e => by have := (show W2.heap.size < W3.heap.size from own_lt HO2_3.out rfl); omega)
          refine hK.out _ _ (SC.out _ HK_6.out) (fun hHeld => ?_)
          clear hK K hWn kn hge
          try simp only [Act.put, List.setIfInBounds_toArray, List.set_cons_zero, List.set_cons_succ]
          refine wpAnyH_ready (rs := [7]) (by kernel_rfl) (by simp) ?_
          refine AllReadyH.cons rfl (fun K hK => ?_) AllReadyH.nil
          refine step_copy rfl (.tmp 39) (.tmp 41) 23 rfl W0.heap.size 87 i2 _ 2 2 Tryz.underlying23 hi2 hz2a hz2b hz2c rfl (by decide) W2.heap.size rfl HO2_6.out B m d (fs.flatMap fdC) rfl HL2.out (HN2.out _ HK_6.out) fdC_one (by have := HSZ.out; unfold maxLen; omega) (by have := HSZ.out; omega) HK_6.out.size ?_
          intro g7 d7 W7 hown hgrow hg
          have HK_7 := Lib.hid (HK_6.out.grown hgrow (fun q hq => by injection hq with hq; rw [← hq]; exact (HO2_6.out.lt _ rfl).1))
          have HO1_7 := Lib.hid (own_far HO1_6.out hgrow (fun g hg => by injection hg with hg; intro e; injection e with e; exact HD21_3.out (e.trans hg.symm)))
          have HB_7 := Lib.hid (rowC_grown HB_6.out hgrow (fun e => by injection e with e; exact (Ne.symm HDz2_6.out) e))
          have HO2_7 := Lib.hid hown
          have HD21_7 : RowKit.Hid (g7 ≠ g2) := Lib.hid (fun e => by
            rcases hg with h | h
            · exact HD21_3.out (h.symm.trans e)
            · have := (show g2 < W6.heap.size from own_lt HO1_6.out rfl); omega)
          have HD2z_7 : RowKit.Hid (g7 ≠ W3.heap.size) := Lib.hid (fun e => by
            rcases hg with h | h
            · exact (Ne.symm HDz2_6.out) (h.symm.trans e)
            · have := cell_lt (HB_6.out 0 _ rfl).1; omega)
          refine hK.out _ _ (SC.out _ HK_7.out) (fun hHeld => ?_)
          clear hK K hown hgrow hg
          try simp only [Act.put, List.setIfInBounds_toArray, List.set_cons_zero, List.set_cons_succ]
          refine take_at (i := 8) (d := some 43) (v := ?_) rfl rfl (by kernel_rfl) (by kernel_rfl) (by kernel_rfl) (fun _ _ _ h => h) (Or.inl ⟨by rfl, ?_⟩) hHeld ?_
          rotate_left
          · intro w hSw
            try dsimp only at hSw
            go_simp
            try (with_reducible rfl)
          try simp only [Act.put, List.setIfInBounds_toArray, List.set_cons_zero, List.set_cons_succ]
          have c0 := (HB_7.out 0 _ rfl).1
          have c1 := (HB_7.out 1 _ rfl).1
          have f0 := (HB_7.out 0 _ rfl).2
          have f1 := (HB_7.out 1 _ rfl).2
          refine wpAnyH_ready (rs := [10]) (by kernel_rfl) (by simp) ?_
          refine AllReadyH.cons rfl (fun K hK => ?_) AllReadyH.nil
          rw [if_pos (by rfl)]
          go_simp
          have kz : Kept W0 ((W7.setCell ⟨W3.heap.size, 0, none⟩ (.slice (some ⟨g2, 0, none⟩) n d2)).setCell ⟨W3.heap.size, 1, none⟩ (.slice (some ⟨g7, 0, none⟩) m d7)) := (HK_7.out.setCell (p := ⟨W3.heap.size, 0, none⟩) (by have := HG_6.out; simpa using this) _).setCell (p := ⟨W3.heap.size, 1, none⟩) (by have := HG_6.out; simpa using this) _
          refine hK.out _ _ (SC.out _ kz) (fun hHeld => ?_)
          clear hK K
          try simp only [Act.put, List.setIfInBounds_toArray, List.set_cons_zero, List.set_cons_succ]
          refine wpAnyH_done (by kernel_rfl) ?_ _
          go_wp2
          go_meet
          refine ⟨W3.heap.size, g2, d2, g7, d7, rfl, ?_, ?_, ?_, (Ne.symm HDz1_6.out), HD2z_7.out, (Ne.symm HD21_7.out), HG_6.out, kz⟩
          · exact (HB_7.out.put (j := 0) (by simp) (.slice (some ⟨g2, 0, none⟩) n d2)).put (j := 1) (by simp) (.slice (some ⟨g7, 0, none⟩) m d7)
          · exact ownsRow_setCell_other (ownsRow_setCell_other HO1_7.out (fun e => by injection e with e; exact (Ne.symm HDz1_6.out) e) _) (fun e => by injection e with e; exact (Ne.symm HDz1_6.out) e) _
          · exact ownsRow_setCell_other (ownsRow_setCell_other HO2_7.out (fun e => by injection e with e; exact HD2z_7.out e) _) (fun e => by injection e with e; exact HD2z_7.out e) _
        refine AllReadyH.cons rfl (fun K hK => ?_) AllReadyH.nil
        rw [if_pos (by rfl)]
        go_simp
        obtain ⟨W8, hWn⟩ : ∃ W8, W8 = W2.alloc (.cells #[.slice none 0 0, .slice none 0 0] 25) := ⟨_, rfl⟩
        rw [← hWn]
        have kn : Kept W2 W8 := by rw [hWn]; exact (Kept.refl _).alloc _
        have HK_8 := Lib.hid (HK_2.out.trans kn)
        have hge := HK_2.out.size
        have HO1_8 := Lib.hid (own_kept HO1_2.out kn)
        have HB_8 : RowKit.Hid (RowC W8 W2.heap.size [.slice none 0 0, .slice none 0 0]) := Lib.hid (by rw [hWn]; exact RowC.new W2 [.slice none 0 0, .slice none 0 0] 25)
        have HG_8 : RowKit.Hid (W0.heap.size ≤ W2.heap.size) := Lib.hid hge
        have HDz1_8 : RowKit.Hid (W2.heap.size ≠ g2) := Lib.hid (fun e => by have := (show g2 < W2.heap.size from own_lt HO1_2.out rfl); omega)
        refine hK.out _ _ (SC.out _ HK_8.out) (fun hHeld => ?_)
        clear hK K hWn kn hge
        try simp only [Act.put, List.setIfInBounds_toArray, List.set_cons_zero, List.set_cons_succ]
        refine wpAnyH_ready (rs := [4]) (by kernel_rfl) (by simp) ?_
        refine AllReadyH.cons rfl (fun K hK => ?_) AllReadyH.nil
        rw [if_pos (by rfl)]
        go_simp
        obtain ⟨W9, hWn⟩ : ∃ W9, W9 = W8.alloc (.cells #[] 87) := ⟨_, rfl⟩
        rw [← hWn]
        have kn : Kept W8 W9 := by rw [hWn]; exact (Kept.refl _).alloc _
        have HK_9 := Lib.hid (HK_8.out.trans kn)
        have hge := HK_8.out.size
        have HO1_9 := Lib.hid (own_kept HO1_8.out kn)
        have HB_9 := Lib.hid (HB_8.out.kept kn)
        have HO2_9 : RowKit.Hid (W9.ownsRow W0.heap.size 87 2 (.slice (some ⟨W8.heap.size, 0, none⟩) 0 0) 0 []) := Lib.hid (by rw [hWn]; exact own_base (own00 W8 _ 87 2 rfl) hge)
        have HD21_9 : RowKit.Hid (W8.heap.size ≠ g2) := Lib.hid (fun e => by have := (show g2 < W8.heap.size from own_lt HO1_8.out rfl); omega)
        have HD2z_9 : RowKit.Hid (W8.heap.size ≠ W2.heap.size) := Lib.hid (fun e => by have := cell_lt (HB_8.out 0 _ rfl).1; omega)
        refine hK.out _ _ (SC.out _ HK_9.out) (fun hHeld => ?_)
        clear hK K hWn kn hge
        try simp only [Act.put, List.setIfInBounds_toArray, List.set_cons_zero, List.set_cons_succ]
        refine wpAnyH_ready (rs := [7]) (by kernel_rfl) (by simp) ?_
        refine AllReadyH.cons rfl (fun K hK => ?_) AllReadyH.nil
        refine step_copy rfl (.tmp 39) (.tmp 41) 23 rfl W0.heap.size 87 i2 _ 2 2 Tryz.underlying23 hi2 hz2a hz2b hz2c rfl (by decide) W8.heap.size rfl HO2_9.out B m d (fs.flatMap fdC) rfl HL2.out (HN2.out _ HK_9.out) fdC_one (by have := HSZ.out; unfold maxLen; omega) (by have := HSZ.out; omega) HK_9.out.size ?_
        intro g10 d10 W10 hown hgrow hg
        have HK_10 := Lib.hid (HK_9.out.grown hgrow (fun q hq => by injection hq with hq; rw [← hq]; exact (HO2_9.out.lt _ rfl).1))
        have HO1_10 := Lib.hid (own_far HO1_9.out hgrow (fun g hg => by injection hg with hg; intro e; injection e with e; exact HD21_9.out (e.trans hg.symm)))
        have HB_10 := Lib.hid (rowC_grown HB_9.out hgrow (fun e => by injection e with e; exact HD2z_9.out e))
        have HO2_10 := Lib.hid hown
        have HD21_10 : RowKit.Hid (g10 ≠ g2) := Lib.hid (fun e => by
          rcases hg with h | h
          · exact HD21_9.out (h.symm.trans e)
          · have := (show g2 < W9.heap.size from own_lt HO1_9.out rfl); omega)
        have HD2z_10 : RowKit.Hid (g10 ≠ W2.heap.size) := Lib.hid (fun e => by
          rcases hg with h | h
          · exact HD2z_9.out (h.symm.trans e)
          · have := cell_lt (HB_9.out 0 _ rfl).1; omega)
        refine hK.out _ _ (SC.out _ HK_10.out) (fun hHeld => ?_)
        clear hK K hown hgrow hg
        try simp only [Act.put, List.setIfInBounds_toArray, List.set_cons_zero, List.set_cons_succ]
        refine take_at (i := 8) (d := some 43) (v := ?_) rfl rfl (by kernel_rfl) (by kernel_rfl) (by kernel_rfl) (fun _ _ _ h => h) (Or.inl ⟨by rfl, ?_⟩) hHeld ?_
        rotate_left
        · intro w hSw
          try dsimp only at hSw
          go_simp
          try (with_reducible rfl)
        try simp only [Act.put, List.setIfInBounds_toArray, List.set_cons_zero, List.set_cons_succ]
        have c0 := (HB_10.out 0 _ rfl).1
        have c1 := (HB_10.out 1 _ rfl).1
        have f0 := (HB_10.out 0 _ rfl).2
        have f1 := (HB_10.out 1 _ rfl).2
        refine wpAnyH_ready (rs := [10]) (by kernel_rfl) (by simp) ?_
        refine AllReadyH.cons rfl (fun K hK => ?_) AllReadyH.nil
        rw [if_pos (by rfl)]
        go_simp
        have kz : Kept W0 ((W10.setCell ⟨W2.heap.size, 0, none⟩ (.slice (some ⟨g2, 0, none⟩) n d2)).setCell ⟨W2.heap.size, 1, none⟩ (.slice (some ⟨g10, 0, none⟩) m d10)) := (HK_10.out.setCell (p := ⟨W2.heap.size, 0, none⟩) (by have := HG_8.out; simpa using this) _).setCell (p := ⟨W2.heap.size, 1, none⟩) (by have := HG_8.out; simpa using this) _
        refine hK.out _ _ (SC.out _ kz) (fun hHeld => ?_)
        clear hK K
        try simp only [Act.put, List.setIfInBounds_toArray, List.set_cons_zero, List.set_cons_succ]
        refine wpAnyH_done (by kernel_rfl) ?_ _
        go_wp2
        go_meet
        refine ⟨W2.heap.size, g2, d2, g10, d10, rfl, ?_, ?_, ?_, (Ne.symm HDz1_8.out), HD2z_10.out, (Ne.symm HD21_10.out), HG_8.out, kz⟩
        · exact (HB_10.out.put (j := 0) (by simp) (.slice (some ⟨g2, 0, none⟩) n d2)).put (j := 1) (by simp) (.slice (some ⟨g10, 0, none⟩) m d10)
        · exact ownsRow_setCell_other (ownsRow_setCell_other HO1_10.out (fun e => by injection e with e; exact (Ne.symm HDz1_8.out) e) _) (fun e => by injection e with e; exact (Ne.symm HDz1_8.out) e) _
        · exact ownsRow_setCell_other (ownsRow_setCell_other HO2_10.out (fun e => by injection e with e; exact HD2z_10.out e) _) (fun e => by injection e with e; exact HD2z_10.out e) _
      refine AllReadyH.cons rfl (fun K hK => ?_) ?_
      · rw [if_pos (by rfl)]
        go_simp
        obtain ⟨W11, hWn⟩ : ∃ W11, W11 = W1.alloc (.cells #[] 87) := ⟨_, rfl⟩
        rw [← hWn]
        have kn : Kept W1 W11 := by rw [hWn]; exact (Kept.refl _).alloc _
        have HK_11 := Lib.hid (HK_1.out.trans kn)
        have hge := HK_1.out.size
        have HO1_11 := Lib.hid (own_kept HO1_1.out kn)
        have HO2_11 : RowKit.Hid (W11.ownsRow W0.heap.size 87 2 (.slice (some ⟨W1.heap.size, 0, none⟩) 0 0) 0 []) := Lib.hid (by rw [hWn]; exact own_base (own00 W1 _ 87 2 rfl) hge)
        have HD21_11 : RowKit.Hid (W1.heap.size ≠ Wd.heap.size) := Lib.hid (fun e => by have := (show Wd.heap.size < W1.heap.size from own_lt HO1_1.out rfl); omega)
        refine hK.out _ _ (SC.out _ HK_11.out) (fun hHeld => ?_)
        clear hK K hWn kn hge
        try simp only [Act.put, List.setIfInBounds_toArray, List.set_cons_zero, List.set_cons_succ]
        refine wpAnyH_ready (rs := [3, 9]) (by kernel_rfl) (by simp) ?_
        refine AllReadyH.cons rfl (fun K hK => ?_) ?_
        · refine step_copy rfl (.tmp 35) (.tmp 37) 22 rfl W0.heap.size 32 i1 _ 9 32 Tryz.underlying22 hi1 hz1a hz1b hz1c rfl (by decide) Wd.heap.size rfl HO1_11.out A n c (ms.flatMap mkC) rfl HL1.out (HN1.out _ HK_11.out) mkC_one (by have := HSZ.out; unfold maxLen; omega) (by have := HSZ.out; omega) HK_11.out.size ?_
          intro g12 d12 W12 hown hgrow hg
          have HK_12 := Lib.hid (HK_11.out.grown hgrow (fun q hq => by injection hq with hq; rw [← hq]; exact (HO1_11.out.lt _ rfl).1))
          have HO2_12 := Lib.hid (own_far HO2_11.out hgrow (fun g hg => by injection hg with hg; intro e; injection e with e; exact (Ne.symm HD21_11.out) (e.trans hg.symm)))
          have HO1_12 := Lib.hid hown
          have HD12_12 : RowKit.Hid (g12 ≠ W1.heap.size) := Lib.hid (fun e => by
            rcases hg with h | h
            · exact (Ne.symm HD21_11.out) (h.symm.trans e)
            · have := (show W1.heap.size < W11.heap.size from own_lt HO2_11.out rfl); omega)
          refine hK.out _ _ (SC.out _ HK_12.out) (fun hHeld => ?_)
          clear hK K hown hgrow hg
          try simp only [Act.put, List.setIfInBounds_toArray, List.set_cons_zero, List.set_cons_succ]
          refine wpAnyH_ready (rs := [7, 9]) (by kernel_rfl) (by simp) ?_
          refine AllReadyH.cons rfl (fun K hK => ?_) ?_
          · refine step_copy rfl (.tmp 39) (.tmp 41) 23 rfl W0.heap.size 87 i2 _ 2 2 Tryz.underlying23 hi2 hz2a hz2b hz2c rfl (by decide) W1.heap.size rfl HO2_12.out B m d (fs.flatMap fdC) rfl HL2.out (HN2.out _ HK_12.out) fdC_one (by have := HSZ.out; unfold maxLen; omega) (by have := HSZ.out; omega) HK_12.out.size ?_
            intro g13 d13 W13 hown hgrow hg
            have HK_13 := Lib.hid (HK_12.out.grown hgrow (fun q hq => by injection hq with hq; rw [← hq]; exact (HO2_12.out.lt _ rfl).1))
            have HO1_13 := Lib.hid (own_far HO1_12.out hgrow (fun g hg => by injection hg with hg; intro e; injection e with e; exact (Ne.symm HD12_12.out) (e.trans hg.symm)))
            have HO2_13 := Lib.hid hown
            have HD21_13 : RowKit.Hid (g13 ≠ g12) := Lib.hid (fun e => by
              rcases hg with h | h
              · exact (Ne.symm HD12_12.out) (h.symm.trans e)
              · have := (show g12 < W12.heap.size from own_lt HO1_12.out rfl); omega)
            refine hK.out _ _ (SC.out _ HK_13.out) (fun hHeld => ?_)
            clear hK K hown hgrow hg
            try simp only [Act.put, List.setIfInBounds_toArray, List.set_cons_zero, List.set_cons_succ]
            refine take_at (i := 8) (d := some 43) (v := ?_) rfl rfl (by kernel_rfl) (by kernel_rfl) (by kernel_rfl) (fun _ _ _ h => h) (Or.inl ⟨by rfl, ?_⟩) hHeld ?_
            rotate_left
            · intro w hSw
              try dsimp only at hSw
              go_simp
              try (with_reducible rfl)
            try simp only [Act.put, List.setIfInBounds_toArray, List.set_cons_zero, List.set_cons_succ]
            refine wpAnyH_ready (rs := [9]) (by kernel_rfl) (by simp) ?_
            refine AllReadyH.cons rfl (fun K hK => ?_) AllReadyH.nil
            rw [if_pos (by rfl)]
            go_simp
            obtain ⟨W14, hWn⟩ : ∃ W14, W14 = W13.alloc (.cells #[.slice none 0 0, .slice none 0 0] 25) := ⟨_, rfl⟩
            rw [← hWn]
            have kn : Kept W13 W14 := by rw [hWn]; exact (Kept.refl _).alloc _
            have HK_14 := Lib.hid (HK_13.out.trans kn)
            have hge := HK_13.out.size
            have HO1_14 := Lib.hid (own_kept HO1_13.out kn)
            have HO2_14 := Lib.hid (own_kept HO2_13.out kn)
            have HB_14 : RowKit.Hid (RowC W14 W13.heap.size [.slice none 0 0, .slice none 0 0]) := Lib.hid (by rw [hWn]; exact RowC.new W13 [.slice none 0 0, .slice none 0 0] 25)
            have HG_14 : RowKit.Hid (W0.heap.size ≤ W13.heap.size) := Lib.hid hge
            have HDz1_14 : RowKit.Hid (W13.heap.size ≠ g12) := Lib.hid (fun e => by have := (show g12 < W13.heap.size from own_lt HO1_13.out rfl); omega)
            have HDz2_14 : RowKit.Hid (W13.heap.size ≠ g13) := Lib.hid (fun e => by have := (show g13 < W13.heap.size from own_lt HO2_13.out rfl); omega)
            refine hK.out _ _ (SC.out _ HK_14.out) (fun hHeld => ?_)
            clear hK K hWn kn hge
            try simp only [Act.put, List.setIfInBounds_toArray, List.set_cons_zero, List.set_cons_succ]
            have c0 := (HB_14.out 0 _ rfl).1
            have c1 := (HB_14.out 1 _ rfl).1
            have f0 := (HB_14.out 0 _ rfl).2
            have f1 := (HB_14.out 1 _ rfl).2
            refine wpAnyH_ready (rs := [10]) (by kernel_rfl) (by simp) ?_
            refine AllReadyH.cons rfl (fun K hK => ?_) AllReadyH.nil
            rw [if_pos (by rfl)]
            go_simp
            have kz : Kept W0 ((W14.setCell ⟨W13.heap.size, 0, none⟩ (.slice (some ⟨g12, 0, none⟩) n d12)).setCell ⟨W13.heap.size, 1, none⟩ (.slice (some ⟨g13, 0, none⟩) m d13)) := (HK_14.out.setCell (p := ⟨W13.heap.size, 0, none⟩) (by have := HG_14.out; simpa using this) _).setCell (p := ⟨W13.heap.size, 1, none⟩) (by have := HG_14.out; simpa using this) _
            refine hK.out _ _ (SC.out _ kz) (fun hHeld => ?_)
            clear hK K
            try simp only [Act.put, List.setIfInBounds_toArray, List.set_cons_zero, List.set_cons_succ]
            refine wpAnyH_done (by kernel_rfl) ?_ _
            go_wp2
            go_meet
            refine ⟨W13.heap.size, g12, d12, g13, d13, rfl, ?_, ?_, ?_, (Ne.symm HDz1_14.out), (Ne.symm HDz2_14.out), (Ne.symm HD21_13.out), HG_14.out, kz⟩
            · exact (HB_14.out.put (j := 0) (by simp) (.slice (some ⟨g12, 0, none⟩) n d12)).put (j := 1) (by simp) (.slice (some ⟨g13, 0, none⟩) m d13)
            · exact ownsRow_setCell_other (ownsRow_setCell_other HO1_14.out (fun e => by injection e with e; exact (Ne.symm HDz1_14.out) e) _) (fun e => by injection e with e; exact (Ne.symm HDz1_14.out) e) _
            · exact ownsRow_setCell_other (ownsRow_setCell_other HO2_14.out (fun e => by injection e with e; exact (Ne.symm HDz2_14.out) e) _) (fun e => by injection e with e; exact (Ne.symm HDz2_14.out) e) _
          refine AllReadyH.cons rfl (fun K hK => ?_) AllReadyH.nil
          rw [if_pos (by rfl)]
          go_simp
          obtain ⟨W15, hWn⟩ : ∃ W15, W15 = W12.alloc (.cells #[.slice none 0 0, .slice none 0 0] 25) := ⟨_, rfl⟩
          rw [← hWn]
          have kn : Kept W12 W15 := by rw [hWn]; exact (Kept.refl _).alloc _
          have HK_15 := Lib.hid (HK_12.out.trans kn)
          have hge := HK_12.out.size
          have HO1_15 := Lib.hid (own_kept HO1_12.out kn)
          have HO2_15 := Lib.hid (own_kept HO2_12.out kn)
          have HB_15 : RowKit.Hid (RowC W15 W12.heap.size [.slice none 0 0, .slice none 0 0]) := Lib.hid (by rw [hWn]; exact RowC.new W12 [.slice none 0 0, .slice none 0 0] 25)
          have HG_15 : RowKit.Hid (W0.heap.size ≤ W12.heap.size) := Lib.hid hge
          have HDz1_15 : RowKit.Hid (W12.heap.size ≠ g12) := Lib.hid (fun e => by have := (show g12 < W12.heap.size from own_lt HO1_12.out rfl); omega)
          have HDz2_15 : RowKit.Hid (W12.heap.size ≠ W1.heap.size) := Lib.hid (fun e => by have := (show W1.heap.size < W12.heap.size from own_lt HO2_12.out rfl); omega)
          refine hK.out _ _ (SC.out _ HK_15.out) (fun hHeld => ?_)
          clear hK K hWn kn hge
          try simp only [Act.put, List.setIfInBounds_toArray, List.set_cons_zero, List.set_cons_succ]
          refine wpAnyH_ready (rs := [7]) (by kernel_rfl) (by simp) ?_
          refine AllReadyH.cons rfl (fun K hK => ?_) AllReadyH.nil
          refine step_copy rfl (.tmp 39) (.tmp 41) 23 rfl W0.heap.size 87 i2 _ 2 2 Tryz.underlying23 hi2 hz2a hz2b hz2c rfl (by decide) W1.heap.size rfl HO2_15.out B m d (fs.flatMap fdC) rfl HL2.out (HN2.out _ HK_15.out) fdC_one (by have := HSZ.out; unfold maxLen; omega) (by have := HSZ.out; omega) HK_15.out.size ?_
          intro g16 d16 W16 hown hgrow hg
          have HK_16 := Lib.hid (HK_15.out.grown hgrow (fun q hq => by injection hq with hq; rw [← hq]; exact (HO2_15.out.lt _ rfl).1))
          have HO1_16 := Lib.hid (own_far HO1_15.out hgrow (fun g hg => by injection hg with hg; intro e; injection e with e; exact (Ne.symm HD12_12.out) (e.trans hg.symm)))
          have HB_16 := Lib.hid (rowC_grown HB_15.out hgrow (fun e => by injection e with e; exact (Ne.symm HDz2_15.out) e))
          have HO2_16 := Lib.hid hown
          have HD21_16 : RowKit.Hid (g16 ≠ g12) := Lib.hid (fun e => by
            rcases hg with h | h
            · exact (Ne.symm HD12_12.out) (h.symm.trans e)
            · have := (show g12 < W15.heap.size from own_lt HO1_15.out rfl); omega)
          have HD2z_16 : RowKit.Hid (g16 ≠ W12.heap.size) := Lib.hid (fun e => by
            rcases hg with h | h
            · exact (Ne.symm HDz2_15.out) (h.symm.trans e)
            · have := cell_lt (HB_15.out 0 _ rfl).1; omega)
          refine hK.out _ _ (SC.out _ HK_16.out) (fun hHeld => ?_)
          clear hK K hown hgrow hg
          try simp only [Act.put, List.setIfInBounds_toArray, List.set_cons_zero, List.set_cons_succ]
          refine take_at (i := 8) (d := some 43) (v := ?_) rfl rfl (by kernel_rfl) (by kernel_rfl) (by kernel_rfl) (fun _ _ _ h => h) (Or.inl ⟨by rfl, ?_⟩) hHeld ?_
          rotate_left
          · intro w hSw
            try dsimp only at hSw
            go_simp
            try (with_reducible rfl)
          try simp only [Act.put, List.setIfInBounds_toArray, List.set_cons_zero, List.set_cons_succ]
          have c0 := (HB_16.out 0 _ rfl).1
          have c1 := (HB_16.out 1 _ rfl).1
          have f0 := (HB_16.out 0 _ rfl).2
          have f1 := (HB_16.out 1 _ rfl).2
          refine wpAnyH_ready (rs := [10]) (by kernel_rfl) (by simp) ?_
          refine AllReadyH.cons rfl (fun K hK => ?_) AllReadyH.nil
          rw [if_pos (by rfl)]
          go_simp
          have kz : Kept W0 ((W16.setCell ⟨W12.heap.size, 0, none⟩ (.slice (some ⟨g12, 0, none⟩) n d12)).setCell ⟨W12.heap.size, 1, none⟩ (.slice (some ⟨g16, 0, none⟩) m d16)) := (HK_16.out.setCell (p := ⟨W12.heap.size, 0, none⟩) (by have := HG_15.out; simpa using this) _).setCell (p := ⟨W12.heap.size, 1, none⟩) (by have := HG_15.out; simpa using this) _
          refine hK.out _ _ (SC.out _ kz) (fun hHeld => ?_)
          clear hK K
          try simp only [Act.put, List.setIfInBounds_toArray, List.set_cons_zero, List.set_cons_succ]
          refine wpAnyH_done (by kernel_rfl) ?_ _
          go_wp2
          go_meet
          refine ⟨W12.heap.size, g12, d12, g16, d16, rfl, ?_, ?_, ?_, (Ne.symm HDz1_15.out), HD2z_16.out, (Ne.symm HD21_16.out), HG_15.out, kz⟩
          · exact (HB_16.out.put (j := 0) (by simp) (.slice (some ⟨g12, 0, none⟩) n d12)).put (j := 1) (by simp) (.slice (some ⟨g16, 0, none⟩) m d16)
          · exact ownsRow_setCell_other (ownsRow_setCell_other HO1_16.out (fun e => by injection e with e; exact (Ne.symm HDz1_15.out) e) _) (fun e => by injection e with e; exact (Ne.symm HDz1_15.out) e) _
          · exact ownsRow_setCell_other (ownsRow_setCell_other HO2_16.out (fun e => by injection e with e; exact HD2z_16.out e) _) (fun e => by injection e with e; exact HD2z_16.out e) _
        refine AllReadyH.cons rfl (fun K hK => ?_) AllReadyH.nil
        rw [if_pos (by rfl)]
        go_simp
        obtain ⟨W17, hWn⟩ : ∃ W17, W17 = W11.alloc (.cells #[.slice none 0 0, .slice none 0 0] 25) := ⟨_, rfl⟩
        rw [← hWn]
        have kn : Kept W11 W17 := by rw [hWn]; exact (Kept.refl _).alloc _
        have HK_17 := Lib.hid (HK_11.out.trans kn)
        have hge := HK_11.out.size
        have HO1_17 := Lib.hid (own_kept HO1_11.out kn)
        have HO2_17 := Lib.hid (own_kept HO2_11.out kn)
        have HB_17 : RowKit.Hid (RowC W17 W11.heap.size [.slice none 0 0, .slice none 0 0]) := Lib.hid (by rw [hWn]; exact RowC.new W11 [.slice none 0 0, .slice none 0 0] 25)
        have HG_17 : RowKit.Hid (W0.heap.size ≤ W11.heap.size) := Lib.hid hge
        have HDz1_17 : RowKit.Hid (W11.heap.size ≠ Wd.heap.size) := Lib.hid (fun e => by have := (show Wd.heap.size < W11.heap.size from own_lt HO1_11.out rfl); omega)
        have HDz2_17 : RowKit.Hid (W11.heap.size ≠ W1.heap.size) := Lib.hid (fun e => by have := (show W1.heap.size < W11.heap.size from own_lt HO2_11.out rfl); omega)
        refine hK.out _ _ (SC.out _ HK_17.out) (fun hHeld => ?_)
        clear hK K hWn kn hge
        try simp only [Act.put, List.setIfInBounds_toArray, List.set_cons_zero, List.set_cons_succ]
        refine wpAnyH_ready (rs := [3]) (by kernel_rfl) (by simp) ?_
        refine AllReadyH.cons rfl (fun K hK => ?_) AllReadyH.nil
        refine step_copy rfl (.tmp 35) (.tmp 37) 22 rfl W0.heap.size 32 i1 _ 9 32 Tryz.underlying22 hi1 hz1a hz1b hz1c rfl (by decide) Wd.heap.size rfl HO1_17.out A n c (ms.flatMap mkC) rfl HL1.out (HN1.out _ HK_17.out) mkC_one (by have := HSZ.out; unfold maxLen; omega) (by have := HSZ.out; omega) HK_17.out.size ?_
        intro g18 d18 W18 hown hgrow hg
        have HK_18 := Lib.hid (HK_17.out.grown hgrow (fun q hq => by injection hq with hq; rw [← hq]; exact (HO1_17.out.lt _ rfl).1))
        have HO2_18 := Lib.hid (own_far HO2_17.out hgrow (fun g hg => by injection hg with hg; intro e; injection e with e; exact (Ne.symm HD21_11.out) (e.trans hg.symm)))
        have HB_18 := Lib.hid (rowC_grown HB_17.out hgrow (fun e => by injection e with e; exact (Ne.symm HDz1_17.out) e))
        have HO1_18 := Lib.hid hown
        have HD12_18 : RowKit.Hid (g18 ≠ W1.heap.size) := Lib.hid (fun e => by
          rcases hg with h | h
          · exact (Ne.symm HD21_11.out) (h.symm.trans e)
          · have := (show W1.heap.size < W17.heap.size from own_lt HO2_17.out rfl); omega)
        have HD1z_18 : RowKit.Hid (g18 ≠ W11.heap.size) := Lib.hid (fun e => by
          rcases hg with h | h
          · exact (Ne.symm HDz1_17.out) (h.symm.trans e)
          · have := cell_lt (HB_17.out 0 _ rfl).1; omega)
        refine hK.out _ _ (SC.out _ HK_18.out) (fun hHeld => ?_)
        clear hK K hown hgrow hg
        try simp only [Act.put, List.setIfInBounds_toArray, List.set_cons_zero, List.set_cons_succ]
        refine wpAnyH_ready (rs := [7]) (by kernel_rfl) (by simp) ?_
        refine AllReadyH.cons rfl (fun K hK => ?_) AllReadyH.nil
        refine step_copy rfl (.tmp 39) (.tmp 41) 23 rfl W0.heap.size 87 i2 _ 2 2 Tryz.underlying23 hi2 hz2a hz2b hz2c rfl (by decide) W1.heap.size rfl HO2_18.out B m d (fs.flatMap fdC) rfl HL2.out (HN2.out _ HK_18.out) fdC_one (by have := HSZ.out; unfold maxLen; omega) (by have := HSZ.out; omega) HK_18.out.size ?_
        intro g19 d19 W19 hown hgrow hg
        have HK_19 := Lib.hid (HK_18.out.grown hgrow (fun q hq => by injection hq with hq; rw [← hq]; exact (HO2_18.out.lt _ rfl).1))
        have HO1_19 := Lib.hid (own_far HO1_18.out hgrow (fun g hg => by injection hg with hg; intro e; injection e with e; exact (Ne.symm HD12_18.out) (e.trans hg.symm)))
        have HB_19 := Lib.hid (rowC_grown HB_18.out hgrow (fun e => by injection e with e; exact (Ne.symm HDz2_17.out) e))
        have HO2_19 := Lib.hid hown
        have HD21_19 : RowKit.Hid (g19 ≠ g18) := Lib.hid (fun e => by
          rcases hg with h | h
          · exact (Ne.symm HD12_18.out) (h.symm.trans e)
          · have := (show g18 < W18.heap.size from own_lt HO1_18.out rfl); omega)
        have HD2z_19 : RowKit.Hid (g19 ≠ W11.heap.size) := Lib.hid (fun e => by
          rcases hg with h | h
          · exact (Ne.symm HDz2_17.out) (h.symm.trans e)
          · have := cell_lt (HB_18.out 0 _ rfl).1; omega)
        refine hK.out _ _ (SC.out _ HK_19.out) (fun hHeld => ?_)
        clear hK K hown hgrow hg
        try simp only [Act.put, List.setIfInBounds_toArray, List.set_cons_zero, List.set_cons_succ]
        refine take_at (i := 8) (d := some 43) (v := ?_) rfl rfl (by kernel_rfl) (by kernel_rfl) (by kernel_rfl) (fun _ _ _ h => h) (Or.inl ⟨by rfl, ?_⟩) hHeld ?_
        rotate_left
        · intro w hSw
          try dsimp only at hSw
          go_simp
          try (with_reducible rfl)
        try simp only [Act.put, List.setIfInBounds_toArray, List.set_cons_zero, List.set_cons_succ]
        have c0 := (HB_19.out 0 _ rfl).1
        have c1 := (HB_19.out 1 _ rfl).1
        have f0 := (HB_19.out 0 _ rfl).2
        have f1 := (HB_19.out 1 _ rfl).2
        refine wpAnyH_ready (rs := [10]) (by kernel_rfl) (by simp) ?_
        refine AllReadyH.cons rfl (fun K hK => ?_) AllReadyH.nil
        rw [if_pos (by rfl)]
        go_simp
        have kz : Kept W0 ((W19.setCell ⟨W11.heap.size, 0, none⟩ (.slice (some ⟨g18, 0, none⟩) n d18)).setCell ⟨W11.heap.size, 1, none⟩ (.slice (some ⟨g19, 0, none⟩) m d19)) := (HK_19.out.setCell (p := ⟨W11.heap.size, 0, none⟩) (by have := HG_17.out; simpa using this) _).setCell (p := ⟨W11.heap.size, 1, none⟩) (by have := HG_17.out; simpa using this) _
        refine hK.out _ _ (SC.out _ kz) (fun hHeld => ?_)
        clear hK K
        try simp only [Act.put, List.setIfInBounds_toArray, List.set_cons_zero, List.set_cons_succ]
        refine wpAnyH_done (by kernel_rfl) ?_ _
        go_wp2
        go_meet
        refine ⟨W11.heap.size, g18, d18, g19, d19, rfl, ?_, ?_, ?_, HD1z_18.out, HD2z_19.out, (Ne.symm HD21_19.out), HG_17.out, kz⟩
        · exact (HB_19.out.put (j := 0) (by simp) (.slice (some ⟨g18, 0, none⟩) n d18)).put (j := 1) (by simp) (.slice (some ⟨g19, 0, none⟩) m d19)
        · exact ownsRow_setCell_other (ownsRow_setCell_other HO1_19.out (fun e => by injection e with e; exact HD1z_18.out e) _) (fun e => by injection e with e; exact HD1z_18.out e) _
        · exact ownsRow_setCell_other (ownsRow_setCell_other HO2_19.out (fun e => by injection e with e; exact HD2z_19.out e) _) (fun e => by injection e with e; exact HD2z_19.out e) _
      refine AllReadyH.cons rfl (fun K hK => ?_) AllReadyH.nil
      rw [if_pos (by rfl)]
      go_simp
      obtain ⟨W20, hWn⟩ : ∃ W20, W20 = W1.alloc (.cells #[.slice none 0 0, .slice none 0 0] 25) := ⟨_, rfl⟩
      rw [← hWn]
      have kn : Kept W1 W20 := by rw [hWn]; exact (Kept.refl _).alloc _
      have HK_20 := Lib.hid (HK_1.out.trans kn)
      have hge := HK_1.out.size
      have HO1_20 := Lib.hid (own_kept HO1_1.out kn)
      have HB_20 : RowKit.Hid (RowC W20 W1.heap.size [.slice none 0 0, .slice none 0 0]) := Lib.hid (by rw [hWn]; exact RowC.new W1 [.slice none 0 0, .slice none 0 0] 25)
      have HG_20 : RowKit.Hid (W0.heap.size ≤ W1.heap.size) := Lib.hid hge
      have HDz1_20 : RowKit.Hid (W1.heap.size ≠ Wd.heap.size) := Lib.hid (fun e => by have := (show Wd.heap.size < W1.heap.size from own_lt HO1_1.out rfl); omega)
      refine hK.out _ _ (SC.out _ HK_20.out) (fun hHeld => ?_)
      clear hK K hWn kn hge
      try simp only [Act.put, List.setIfInBounds_toArray, List.set_cons_zero, List.set_cons_succ]
      refine wpAnyH_ready (rs := [3, 4]) (by kernel_rfl) (by simp) ?_
      refine AllReadyH.cons rfl (fun K hK => ?_) ?_
      · refine step_copy rfl (.tmp 35) (.tmp 37) 22 rfl W0.heap.size 32 i1 _ 9 32 Tryz.underlying22 hi1 hz1a hz1b hz1c rfl (by decide) Wd.heap.size rfl HO1_20.out A n c (ms.flatMap mkC) rfl HL1.out (HN1.out _ HK_20.out) mkC_one (by have := HSZ.out; unfold maxLen; omega) (by have := HSZ.out; omega) HK_20.out.size ?_
        intro g21 d21 W21 hown hgrow hg
        have HK_21 := Lib.hid (HK_20.out.grown hgrow (fun q hq => by injection hq with hq; rw [← hq]; exact (HO1_20.out.lt _ rfl).1))
        have HB_21 := Lib.hid (rowC_grown HB_20.out hgrow (fun e => by injection e with e; exact (Ne.symm HDz1_20.out) e))
        have HO1_21 := Lib.hid hown
        have HD1z_21 : RowKit.Hid (g21 ≠ W1.heap.size) := Lib.hid (fun e => by
          rcases hg with h | h
          · exact (Ne.symm HDz1_20.out) (h.symm.trans e)
          · have := cell_lt (HB_20.out 0 _ rfl).1; omega)
        refine hK.out _ _ (SC.out _ HK_21.out) (fun hHeld => ?_)
        clear hK K hown hgrow hg
        try simp only [Act.put, List.setIfInBounds_toArray, List.set_cons_zero, List.set_cons_succ]
        refine wpAnyH_ready (rs := [4]) (by kernel_rfl) (by simp) ?_
        refine AllReadyH.cons rfl (fun K hK => ?_) AllReadyH.nil
        rw [if_pos (by rfl)]
        go_simp
        obtain ⟨W22, hWn⟩ : ∃ W22, W22 = W21.alloc (.cells #[] 87) := ⟨_, rfl⟩
        rw [← hWn]
        have kn : Kept W21 W22 := by rw [hWn]; exact (Kept.refl _).alloc _
        have HK_22 := Lib.hid (HK_21.out.trans kn)
        have hge := HK_21.out.size
        have HO1_22 := Lib.hid (own_kept HO1_21.out kn)
        have HB_22 := Lib.hid (HB_21.out.kept kn)
        have HO2_22 : RowKit.Hid (W22.ownsRow W0.heap.size 87 2 (.slice (some ⟨W21.heap.size, 0, none⟩) 0 0) 0 []) := Lib.hid (by rw [hWn]; exact own_base (own00 W21 _ 87 2 rfl) hge)
        have HD21_22 : RowKit.Hid (W21.heap.size ≠ g21) := Lib.hid (fun e => by have := (show g21 < W21.heap.size from own_lt HO1_21.out rfl); omega)
        have HD2z_22 : RowKit.Hid (W21.heap.size ≠ W1.heap.size) := Lib.hid (fun e => by have := cell_lt (HB_21.out 0 _ rfl).1; omega)
        refine hK.out _ _ (SC.out _ HK_22.out) (fun hHeld => ?_)
        clear hK K hWn kn hge
        try simp only [Act.put, List.setIfInBounds_toArray, List.set_cons_zero, List.set_cons_succ]
        refine wpAnyH_ready (rs := [7]) (by kernel_rfl) (by simp) ?_
        refine AllReadyH.cons rfl (fun K hK => ?_) AllReadyH.nil
        refine step_copy rfl (.tmp 39) (.tmp 41) 23 rfl W0.heap.size 87 i2 _ 2 2 Tryz.underlying23 hi2 hz2a hz2b hz2c rfl (by decide) W21.heap.size rfl HO2_22.out B m d (fs.flatMap fdC) rfl HL2.out (HN2.out _ HK_22.out) fdC_one (by have := HSZ.out; unfold maxLen; omega) (by have := HSZ.out; omega) HK_22.out.size ?_
        intro g23 d23 W23 hown hgrow hg
        have HK_23 := Lib.hid (HK_22.out.grown hgrow (fun q hq => by injection hq with hq; rw [← hq]; exact (HO2_22.out.lt _ rfl).1))
        have HO1_23 := Lib.hid (own_far HO1_22.out hgrow (fun g hg => by injection hg with hg; intro e; injection e with e; exact HD21_22.out (e.trans hg.symm)))
        have HB_23 := Lib.hid (rowC_grown HB_22.out hgrow (fun e => by injection e with e; exact HD2z_22.out e))
        have HO2_23 := Lib.hid hown
        have HD21_23 : RowKit.Hid (g23 ≠ g21) := Lib.hid (fun e => by
          rcases hg with h | h
          · exact HD21_22.out (h.symm.trans e)
          · have := (show g21 < W22.heap.size from own_lt HO1_22.out rfl); omega)
        have HD2z_23 : RowKit.Hid (g23 ≠ W1.heap.size) := Lib.hid (fun e => by
          rcases hg with h | h
          · exact HD2z_22.out (h.symm.trans e)
          · have := cell_lt (HB_22.out 0 _ rfl).1; omega)
        refine hK.out _ _ (SC.out _ HK_23.out) (fun hHeld => ?_)
        clear hK K hown hgrow hg
        try simp only [Act.put, List.setIfInBounds_toArray, List.set_cons_zero, List.set_cons_succ]
        refine take_at (i := 8) (d := some 43) (v := ?_) rfl rfl (by kernel_rfl) (by kernel_rfl) (by kernel_rfl) (fun _ _ _ h => h) (Or.inl ⟨by rfl, ?_⟩) hHeld ?_
        rotate_left
        · intro w hSw
          try dsimp only at hSw
          go_simp
          try (with_reducible rfl)
        try simp only [Act.put, List.setIfInBounds_toArray, List.set_cons_zero, List.set_cons_succ]
        have c0 := (HB_23.out 0 _ rfl).1
        have c1 := (HB_23.out 1 _ rfl).1
        have f0 := (HB_23.out 0 _ rfl).2
        have f1 := (HB_23.out 1 _ rfl).2
        refine wpAnyH_ready (rs := [10]) (by kernel_rfl) (by simp) ?_
        refine AllReadyH.cons rfl (fun K hK => ?_) AllReadyH.nil
        rw [if_pos (by rfl)]
        go_simp
        have kz : Kept W0 ((W23.setCell ⟨W1.heap.size, 0, none⟩ (.slice (some ⟨g21, 0, none⟩) n d21)).setCell ⟨W1.heap.size, 1, none⟩ (.slice (some ⟨g23, 0, none⟩) m d23)) := (HK_23.out.setCell (p := ⟨W1.heap.size, 0, none⟩) (by have := HG_20.out; simpa using this) _).setCell (p := ⟨W1.heap.size, 1, none⟩) (by have := HG_20.out; simpa using this) _
        refine hK.out _ _ (SC.out _ kz) (fun hHeld => ?_)
        clear hK K
        try simp only [Act.put, List.setIfInBounds_toArray, List.set_cons_zero, List.set_cons_succ]
        refine wpAnyH_done (by kernel_rfl) ?_ _
        go_wp2
        go_meet
        refine ⟨W1.heap.size, g21, d21, g23, d23, rfl, ?_, ?_, ?_, HD1z_21.out, HD2z_23.out, (Ne.symm HD21_23.out), HG_20.out, kz⟩
        · exact (HB_23.out.put (j := 0) (by simp) (.slice (some ⟨g21, 0, none⟩) n d21)).put (j := 1) (by simp) (.slice (some ⟨g23, 0, none⟩) m d23)
        · exact ownsRow_setCell_other (ownsRow_setCell_other HO1_23.out (fun e => by injection e with e; exact HD1z_21.out e) _) (fun e => by injection e with e; exact HD1z_21.out e) _
        · exact ownsRow_setCell_other (ownsRow_setCell_other HO2_23.out (fun e => by injection e with e; exact HD2z_23.out e) _) (fun e => by injection e with e; exact HD2z_23.out e) _
      refine AllReadyH.cons rfl (fun K hK => ?_) AllReadyH.nil
      rw [if_pos (by rfl)]
      go_simp
      obtain ⟨W24, hWn⟩ : ∃ W24, W24 = W20.alloc (.cells #[] 87) := ⟨_, rfl⟩
      rw [← hWn]
      have kn : Kept W20 W24 := by rw [hWn]; exact (Kept.refl _).alloc _
      have HK_24 := Lib.hid (HK_20.out.trans kn)
      have hge := HK_20.out.size
      have HO1_24 := Lib.hid (own_kept HO1_20.out kn)
      have HB_24 := Lib.hid (HB_20.out.kept kn)
      have HO2_24 : RowKit.Hid (W24.ownsRow W0.heap.size 87 2 (.slice (some ⟨W20.heap.size, 0, none⟩) 0 0) 0 []) := Lib.hid (by rw [hWn]; exact own_base (own00 W20 _ 87 2 rfl) hge)
      have HD21_24 : RowKit.Hid (W20.heap.size ≠ Wd.heap.size) := Lib.hid (fun e => by have := (show Wd.heap.size < W20.heap.size from own_lt HO1_20.out rfl); omega)
      have HD2z_24 : RowKit.Hid (W20.heap.size ≠ W1.heap.size) := Lib.hid (fun e => by have := cell_lt (HB_20.out 0 _ rfl).1; omega)
      refine hK.out _ _ (SC.out _ HK_24.out) (fun hHeld => ?_)
      clear hK K hWn kn hge
      try simp only [Act.put, List.setIfInBounds_toArray, List.set_cons_zero, List.set_cons_succ]
      refine wpAnyH_ready (rs := [3]) (by kernel_rfl) (by simp) ?_
      refine AllReadyH.cons rfl (fun K hK => ?_) AllReadyH.nil
      refine step_copy rfl (.tmp 35) (.tmp 37) 22 rfl W0.heap.size 32 i1 _ 9 32 Tryz.underlying22 hi1 hz1a hz1b hz1c rfl (by decide) Wd.heap.size rfl HO1_24.out A n c (ms.flatMap mkC) rfl HL1.out (HN1.out _ HK_24.out) mkC_one (by have := HSZ.out; unfold maxLen; omega) (by have := HSZ.out; omega) HK_24.out.size ?_
      intro g25 d25 W25 hown hgrow hg
      have HK_25 := Lib.hid (HK_24.out.grown hgrow (fun q hq => by injection hq with hq; rw [← hq]; exact (HO1_24.out.lt _ rfl).1))
      have HO2_25 := Lib.hid (own_far HO2_24.out hgrow (fun g hg => by injection hg with hg; intro e; injection e with e; exact (Ne.symm HD21_24.out) (e.trans hg.symm)))
      have HB_25 := Lib.hid (rowC_grown HB_24.out hgrow (fun e => by injection e with e; exact (Ne.symm HDz1_20.out) e))
      have HO1_25 := Lib.hid hown
      have HD12_25 : RowKit.Hid (g25 ≠ W20.heap.size) := Lib.hid (fun e => by
        rcases hg with h | h
        · exact (Ne.symm HD21_24.out) (h.symm.trans e)
        · have := (show W20.heap.size < W24.heap.size from own_lt HO2_24.out rfl); omega)
      have HD1z_25 : RowKit.Hid (g25 ≠ W1.heap.size) := Lib.hid (fun e => by
        rcases hg with h | h
        · exact (Ne.symm HDz1_20.out) (h.symm.trans e)
        · have := cell_lt (HB_24.out 0 _ rfl).1; omega)
      refine hK.out _ _ (SC.out _ HK_25.out) (fun hHeld => ?_)
      clear hK K hown hgrow hg
      try simp only [Act.put, List.setIfInBounds_toArray, List.set_cons_zero, List.set_cons_succ]
      refine wpAnyH_ready (rs := [7]) (by kernel_rfl) (by simp) ?_
      refine AllReadyH.cons rfl (fun K hK => ?_) AllReadyH.nil
      refine step_copy rfl (.tmp 39) (.tmp 41) 23 rfl W0.heap.size 87 i2 _ 2 2 Tryz.underlying23 hi2 hz2a hz2b hz2c rfl (by decide) W20.heap.size rfl HO2_25.out B m d (fs.flatMap fdC) rfl HL2.out (HN2.out _ HK_25.out) fdC_one (by have := HSZ.out; unfold maxLen; omega) (by have := HSZ.out; omega) HK_25.out.size ?_
      intro g26 d26 W26 hown hgrow hg
      have HK_26 := Lib.hid (HK_25.out.grown hgrow (fun q hq => by injection hq with hq; rw [← hq]; exact (HO2_25.out.lt _ rfl).1))
      have HO1_26 := Lib.hid (own_far HO1_25.out hgrow (fun g hg => by injection hg with hg; intro e; injection e with e; exact (Ne.symm HD12_25.out) (e.trans hg.symm)))
      have HB_26 := Lib.hid (rowC_grown HB_25.out hgrow (fun e => by injection e with e; exact HD2z_24.out e))
      have HO2_26 := Lib.hid hown
      have HD21_26 : RowKit.Hid (g26 ≠ g25) := Lib.hid (fun e => by
        rcases hg with h | h
        · exact (Ne.symm HD12_25.out) (h.symm.trans e)
        · have := (show g25 < W25.heap.size from own_lt HO1_25.out rfl); omega)
      have HD2z_26 : RowKit.Hid (g26 ≠ W1.heap.size) := Lib.hid (fun e => by
        rcases hg with h | h
        · exact HD2z_24.out (h.symm.trans e)
        · have := cell_lt (HB_25.out 0 _ rfl).1; omega)
      refine hK.out _ _ (SC.out _ HK_26.out) (fun hHeld => ?_)
      clear hK K hown hgrow hg
      try simp only [Act.put, List.setIfInBounds_toArray, List.set_cons_zero, List.set_cons_succ]
      refine take_at (i := 8) (d := some 43) (v := ?_) rfl rfl (by kernel_rfl) (by kernel_rfl) (by kernel_rfl) (fun _ _ _ h => h) (Or.inl ⟨by rfl, ?_⟩) hHeld ?_
      rotate_left
      · intro w hSw
        try dsimp only at hSw
        go_simp
        try (with_reducible rfl)
      try simp only [Act.put, List.setIfInBounds_toArray, List.set_cons_zero, List.set_cons_succ]
      have c0 := (HB_26.out 0 _ rfl).1
      have c1 := (HB_26.out 1 _ rfl).1
      have f0 := (HB_26.out 0 _ rfl).2
      have f1 := (HB_26.out 1 _ rfl).2
      refine wpAnyH_ready (rs := [10]) (by kernel_rfl) (by simp) ?_
      refine AllReadyH.cons rfl (fun K hK => ?_) AllReadyH.nil
      rw [if_pos (by rfl)]
      go_simp
      have kz : Kept W0 ((W26.setCell ⟨W1.heap.size, 0, none⟩ (.slice (some ⟨g25, 0, none⟩) n d25)).setCell ⟨W1.heap.size, 1, none⟩ (.slice (some ⟨g26, 0, none⟩) m d26)) := (HK_26.out.setCell (p := ⟨W1.heap.size, 0, none⟩) (by have := HG_20.out; simpa using this) _).setCell (p := ⟨W1.heap.size, 1, none⟩) (by have := HG_20.out; simpa using this) _
      refine hK.out _ _ (SC.out _ kz) (fun hHeld => ?_)
      clear hK K
      try simp only [Act.put, List.setIfInBounds_toArray, List.set_cons_zero, List.set_cons_succ]
      refine wpAnyH_done (by kernel_rfl) ?_ _
      go_wp2
      go_meet
      refine ⟨W1.heap.size, g25, d25, g26, d26, rfl, ?_, ?_, ?_, HD1z_25.out, HD2z_26.out, (Ne.symm HD21_26.out), HG_20.out, kz⟩
      · exact (HB_26.out.put (j := 0) (by simp) (.slice (some ⟨g25, 0, none⟩) n d25)).put (j := 1) (by simp) (.slice (some ⟨g26, 0, none⟩) m d26)
      · exact ownsRow_setCell_other (ownsRow_setCell_other HO1_26.out (fun e => by injection e with e; exact HD1z_25.out e) _) (fun e => by injection e with e; exact HD1z_25.out e) _
      · exact ownsRow_setCell_other (ownsRow_setCell_other HO2_26.out (fun e => by injection e with e; exact HD2z_26.out e) _) (fun e => by injection e with e; exact HD2z_26.out e) _
    refine AllReadyH.cons rfl (fun K hK => ?_) ?_
    · rw [if_pos (by rfl)]
      go_simp
      obtain ⟨W27, hWn⟩ : ∃ W27, W27 = Wd.alloc (.cells #[] 87) := ⟨_, rfl⟩
      rw [← hWn]
      have kn : Kept Wd W27 := by rw [hWn]; exact (Kept.refl _).alloc _
      have HK_27 := Lib.hid (HKd.out.trans kn)
      have hge := HKd.out.size
      have HO2_27 : RowKit.Hid (W27.ownsRow W0.heap.size 87 2 (.slice (some ⟨Wd.heap.size, 0, none⟩) 0 0) 0 []) := Lib.hid (by rw [hWn]; exact own_base (own00 Wd _ 87 2 rfl) hge)
      refine hK.out _ _ (SC.out _ HK_27.out) (fun hHeld => ?_)
      clear hK K hWn kn hge
      try simp only [Act.put, List.setIfInBounds_toArray, List.set_cons_zero, List.set_cons_succ]
      refine wpAnyH_ready (rs := [0, 9]) (by kernel_rfl) (by simp) ?_
      refine AllReadyH.cons rfl (fun K hK => ?_) ?_
      · rw [if_pos (by rfl)]
        go_simp
        obtain ⟨W28, hWn⟩ : ∃ W28, W28 = W27.alloc (.cells #[] 32) := ⟨_, rfl⟩
        rw [← hWn]
        have kn : Kept W27 W28 := by rw [hWn]; exact (Kept.refl _).alloc _
        have HK_28 := Lib.hid (HK_27.out.trans kn)
        have hge := HK_27.out.size
        have HO2_28 := Lib.hid (own_kept HO2_27.out kn)
        have HO1_28 : RowKit.Hid (W28.ownsRow W0.heap.size 32 9 (.slice (some ⟨W27.heap.size, 0, none⟩) 0 0) 0 []) := Lib.hid (by rw [hWn]; exact own_base (own00 W27 _ 32 9 rfl) hge)
        have HD12_28 : RowKit.Hid (W27.heap.size ≠ Wd.heap.size) := Lib.hid (fun e => by have := (show Wd.heap.size < W27.heap.size from own_lt HO2_27.out rfl); omega)
        refine hK.out _ _ (SC.out _ HK_28.out) (fun hHeld => ?_)
        clear hK K hWn kn hge
        try simp only [Act.put, List.setIfInBounds_toArray, List.set_cons_zero, List.set_cons_succ]
        refine wpAnyH_ready (rs := [3, 9]) (by kernel_rfl) (by simp) ?_
        refine AllReadyH.cons rfl (fun K hK => ?_) ?_
        · refine step_copy rfl (.tmp 35) (.tmp 37) 22 rfl W0.heap.size 32 i1 _ 9 32 Tryz.underlying22 hi1 hz1a hz1b hz1c rfl (by decide) W27.heap.size rfl HO1_28.out A n c (ms.flatMap mkC) rfl HL1.out (HN1.out _ HK_28.out) mkC_one (by have := HSZ.out; unfold maxLen; omega) (by have := HSZ.out; omega) HK_28.out.size ?_
          intro g29 d29 W29 hown hgrow hg
          have HK_29 := Lib.hid (HK_28.out.grown hgrow (fun q hq => by injection hq with hq; rw [← hq]; exact (HO1_28.out.lt _ rfl).1))
          have HO2_29 := Lib.hid (own_far HO2_28.out hgrow (fun g hg => by injection hg with hg; intro e; injection e with e; exact HD12_28.out (e.trans hg.symm)))
          have HO1_29 := Lib.hid hown
          have HD12_29 : RowKit.Hid (g29 ≠ Wd.heap.size) := Lib.hid (fun e => by
            rcases hg with h | h
            · exact HD12_28.out (h.symm.trans e)
            · have := (show Wd.heap.size < W28.heap.size from own_lt HO2_28.out rfl); omega)
          refine hK.out _ _ (SC.out _ HK_29.out) (fun hHeld => ?_)
          clear hK K hown hgrow hg
          try simp only [Act.put, List.setIfInBounds_toArray, List.set_cons_zero, List.set_cons_succ]
          refine wpAnyH_ready (rs := [7, 9]) (by kernel_rfl) (by simp) ?_
          refine AllReadyH.cons rfl (fun K hK => ?_) ?_
          · refine step_copy rfl (.tmp 39) (.tmp 41) 23 rfl W0.heap.size 87 i2 _ 2 2 Tryz.underlying23 hi2 hz2a hz2b hz2c rfl (by decide) Wd.heap.size rfl HO2_29.out B m d (fs.flatMap fdC) rfl HL2.out (HN2.out _ HK_29.out) fdC_one (by have := HSZ.out; unfold maxLen; omega) (by have := HSZ.out; omega) HK_29.out.size ?_
            intro g30 d30 W30 hown hgrow hg
            have HK_30 := Lib.hid (HK_29.out.grown hgrow (fun q hq => by injection hq with hq; rw [← hq]; exact (HO2_29.out.lt _ rfl).1))
            have HO1_30 := Lib.hid (own_far HO1_29.out hgrow (fun g hg => by injection hg with hg; intro e; injection e with e; exact (Ne.symm HD12_29.out) (e.trans hg.symm)))
            have HO2_30 := Lib.hid hown
            have HD21_30 : RowKit.Hid (g30 ≠ g29) := Lib.hid (fun e => by
              rcases hg with h | h
              · exact (Ne.symm HD12_29.out) (h.symm.trans e)
              · have := (show g29 < W29.heap.size from own_lt HO1_29.out rfl); omega)
            refine hK.out _ _ (SC.out _ HK_30.out) (fun hHeld => ?_)
            clear hK K hown hgrow hg
            try simp only [Act.put, List.setIfInBounds_toArray, List.set_cons_zero, List.set_cons_succ]
            refine take_at (i := 8) (d := some 43) (v := ?_) rfl rfl (by kernel_rfl) (by kernel_rfl) (by kernel_rfl) (fun _ _ _ h => h) (Or.inl ⟨by rfl, ?_⟩) hHeld ?_
            rotate_left
            · intro w hSw
              try dsimp only at hSw
              go_simp
              try (with_reducible rfl)
            try simp only [Act.put, List.setIfInBounds_toArray, List.set_cons_zero, List.set_cons_succ]
            refine wpAnyH_ready (rs := [9]) (by kernel_rfl) (by simp) ?_
            refine AllReadyH.cons rfl (fun K hK => ?_) AllReadyH.nil
            rw [if_pos (by rfl)]
            go_simp
            obtain ⟨W31, hWn⟩ : ∃ W31, W31 = W30.alloc (.cells #[.slice none 0 0, .slice none 0 0] 25) := ⟨_, rfl⟩
            rw [← hWn]
            have kn : Kept W30 W31 := by rw [hWn]; exact (Kept.refl _).alloc _
            have HK_31 := Lib.hid (HK_30.out.trans kn)
            have hge := HK_30.out.size
            have HO1_31 := Lib.hid (own_kept HO1_30.out kn)
            have HO2_31 := Lib.hid (own_kept HO2_30.out kn)
            have HB_31 : RowKit.Hid (RowC W31 W30.heap.size [.slice none 0 0, .slice none 0 0]) := Lib.hid (by rw [hWn]; exact RowC.new W30 [.slice none 0 0, .slice none 0 0] 25)
            have HG_31 : RowKit.Hid (W0.heap.size ≤ W30.heap.size) := Lib.hid hge
            have HDz1_31 : RowKit.Hid (W30.heap.size ≠ g29) := Lib.hid (fun e => by have := (show g29 < W30.heap.size from own_lt HO1_30.out rfl); omega)
            have HDz2_31 : RowKit.Hid (W30.heap.size ≠ g30) := Lib.hid (fun e => by have := (show g30 < W30.heap.size from own_lt HO2_30.out rfl); omega)
            refine hK.out _ _ (SC.out _ HK_31.out) (fun hHeld => ?_)
            clear hK K hWn kn hge
            try simp only [Act.put, List.setIfInBounds_toArray, List.set_cons_zero, List.set_cons_succ]
            have c0 := (HB_31.out 0 _ rfl).1
            have c1 := (HB_31.out 1 _ rfl).1
            have f0 := (HB_31.out 0 _ rfl).2
            have f1 := (HB_31.out 1 _ rfl).2
            refine wpAnyH_ready (rs := [10]) (by kernel_rfl) (by simp) ?_
            refine AllReadyH.cons rfl (fun K hK => ?_) AllReadyH.nil
            rw [if_pos (by rfl)]
            go_simp
            have kz : Kept W0 ((W31.setCell ⟨W30.heap.size, 0, none⟩ (.slice (some ⟨g29, 0, none⟩) n d29)).setCell ⟨W30.heap.size, 1, none⟩ (.slice (some ⟨g30, 0, none⟩) m d30)) := (HK_31.out.setCell (p := ⟨W30.heap.size, 0, none⟩) (by have := HG_31.out; simpa using this) _).setCell (p := ⟨W30.heap.size, 1, none⟩) (by have := HG_31.out; simpa using this) _
            refine hK.out _ _ (SC.out _ kz) (fun hHeld => ?_)
            clear hK K
            try simp only [Act.put, List.setIfInBounds_toArray, List.set_cons_zero, List.set_cons_succ]
            refine wpAnyH_done (by kernel_rfl) ?_ _
            go_wp2
            go_meet
            refine ⟨W30.heap.size, g29, d29, g30, d30, rfl, ?_, ?_, ?_, (Ne.symm HDz1_31.out), (Ne.symm HDz2_31.out), (Ne.symm HD21_30.out), HG_31.out, kz⟩
            · exact (HB_31.out.put (j := 0) (by simp) (.slice (some ⟨g29, 0, none⟩) n d29)).put (j := 1) (by simp) (.slice (some ⟨g30, 0, none⟩) m d30)
            · exact ownsRow_setCell_other (ownsRow_setCell_other HO1_31.out (fun e => by injection e with e; exact (Ne.symm HDz1_31.out) e) _) (fun e => by injection e with e; exact (Ne.symm HDz1_31.out) e) _
            · exact ownsRow_setCell_other (ownsRow_setCell_other HO2_31.out (fun e => by injection e with e; exact (Ne.symm HDz2_31.out) e) _) (fun e => by injection e with e; exact (Ne.symm HDz2_31.out) e) _
          refine AllReadyH.cons rfl (fun K hK => ?_) AllReadyH.nil
          rw [if_pos (by rfl)]
          go_simp
          obtain ⟨W32, hWn⟩ : ∃ W32, W32 = W29.alloc (.cells #[.slice none 0 0, .slice none 0 0] 25) := ⟨_, rfl⟩
          rw [← hWn]
          have kn : Kept W29 W32 := by rw [hWn]; exact (Kept.refl _).alloc _
          have HK_32 := Lib.hid (HK_29.out.trans kn)
          have hge := HK_29.out.size
          have HO1_32 := Lib.hid (own_kept HO1_29.out kn)
          have HO2_32 := Lib.hid (own_kept HO2_29.out kn)
          have HB_32 : RowKit.Hid (RowC W32 W29.heap.size [.slice none 0 0, .slice none 0 0]) := Lib.hid (by rw [hWn]; exact RowC.new W29 [.slice none 0 0, .slice none 0 0] 25)
          have HG_32 : RowKit.Hid (W0.heap.size ≤ W29.heap.size) := Lib.hid hge
          have HDz1_32 : RowKit.Hid (W29.heap.size ≠ g29) := Lib.hid (fun e => by have := (show g29 < W29.heap.size from own_lt HO1_29.out rfl); omega)
          have HDz2_32 : RowKit.Hid (W29.heap.size ≠ Wd.heap.size) := Lib.hid (fun e => by have := (show Wd.heap.size < W29.heap.size from own_lt HO2_29.out rfl); omega)
          refine hK.out _ _ (SC.out _ HK_32.out) (fun hHeld => ?_)
          clear hK K hWn kn hge
          try simp only [Act.put, List.setIfInBounds_toArray, List.set_cons_zero, List.set_cons_succ]
          refine wpAnyH_ready (rs := [7]) (by kernel_rfl) (by simp) ?_
          refine AllReadyH.cons rfl (fun K hK => ?_) AllReadyH.nil
          refine step_copy rfl (.tmp 39) (.tmp 41) 23 rfl W0.heap.size 87 i2 _ 2 2 Tryz.underlying23 hi2 hz2a hz2b hz2c rfl (by decide) Wd.heap.size rfl HO2_32.out B m d (fs.flatMap fdC) rfl HL2.out (HN2.out _ HK_32.out) fdC_one (by have := HSZ.out; unfold maxLen; omega) (by have := HSZ.out; omega) HK_32.out.size ?_
          intro g33 d33 W33 hown hgrow hg
          have HK_33 := Lib.hid (HK_32.out.grown hgrow (fun q hq => by injection hq with hq; rw [← hq]; exact (HO2_32.out.lt _ rfl).1))
          have HO1_33 := Lib.hid (own_far HO1_32.out hgrow (fun g hg => by injection hg with hg; intro e; injection e with e; exact (Ne.symm HD12_29.out) (e.trans hg.symm)))
          have HB_33 := Lib.hid (rowC_grown HB_32.out hgrow (fun e => by injection e with e; exact (Ne.symm HDz2_32.out) e))
          have HO2_33 := Lib.hid hown
          have HD21_33 : RowKit.Hid (g33 ≠ g29) := Lib.hid (fun e => by
            rcases hg with h | h
            · exact (Ne.symm HD12_29.out) (h.symm.trans e)
            · have := (show g29 < W32.heap.size from own_lt HO1_32.out rfl); omega)
          have HD2z_33 : RowKit.Hid (g33 ≠ W29.heap.size) := Lib.hid (fun e => by
            rcases hg with h | h
            · exact (Ne.symm HDz2_32.out) (h.symm.trans e)
            · have := cell_lt (HB_32.out 0 _ rfl).1; omega)
          refine hK.out _ _ (SC.out _ HK_33.out) (fun hHeld => ?_)
          clear hK K hown hgrow hg
          try simp only [Act.put, List.setIfInBounds_toArray, List.set_cons_zero, List.set_cons_succ]
          refine take_at (i := 8) (d := some 43) (v := ?_) rfl rfl (by kernel_rfl) (by kernel_rfl) (by kernel_rfl) (fun _ _ _ h => h) (Or.inl ⟨by rfl, ?_⟩) hHeld ?_
          rotate_left
          · intro w hSw
            try dsimp only at hSw
            go_simp
            try (with_reducible rfl)
          try simp only [Act.put, List.setIfInBounds_toArray, List.set_cons_zero, List.set_cons_succ]
          have c0 := (HB_33.out 0 _ rfl).1
          have c1 := (HB_33.out 1 _ rfl).1
          have f0 := (HB_33.out 0 _ rfl).2
          have f1 := (HB_33.out 1 _ rfl).2
          refine wpAnyH_ready (rs := [10]) (by kernel_rfl) (by simp) ?_
          refine AllReadyH.cons rfl (fun K hK => ?_) AllReadyH.nil
          rw [if_pos (by rfl)]
          go_simp
          have kz : Kept W0 ((W33.setCell ⟨W29.heap.size, 0, none⟩ (.slice (some ⟨g29, 0, none⟩) n d29)).setCell ⟨W29.heap.size, 1, none⟩ (.slice (some ⟨g33, 0, none⟩) m d33)) := (HK_33.out.setCell (p := ⟨W29.heap.size, 0, none⟩) (by have := HG_32.out; simpa using this) _).setCell (p := ⟨W29.heap.size, 1, none⟩) (by have := HG_32.out; simpa using this) _
          refine hK.out _ _ (SC.out _ kz) (fun hHeld => ?_)
          clear hK K
          try simp only [Act.put, List.setIfInBounds_toArray, List.set_cons_zero, List.set_cons_succ]
          refine wpAnyH_done (by kernel_rfl) ?_ _
          go_wp2
          go_meet
          refine ⟨W29.heap.size, g29, d29, g33, d33, rfl, ?_, ?_, ?_, (Ne.symm HDz1_32.out), HD2z_33.out, (Ne.symm HD21_33.out), HG_32.out, kz⟩
          · exact (HB_33.out.put (j := 0) (by simp) (.slice (some ⟨g29, 0, none⟩) n d29)).put (j := 1) (by simp) (.slice (some ⟨g33, 0, none⟩) m d33)
          · exact ownsRow_setCell_other (ownsRow_setCell_other HO1_33.out (fun e => by injection e with e; exact (Ne.symm HDz1_32.out) e) _) (fun e => by injection e with e; exact (Ne.symm HDz1_32.out) e) _
          · exact ownsRow_setCell_other (ownsRow_setCell_other HO2_33.out (fun e => by injection e with e; exact HD2z_33.out e) _) (fun e => by injection e with e; exact HD2z_33.out e) _
        refine AllReadyH.cons rfl (fun K hK => ?_) AllReadyH.nil
        rw [if_pos (by rfl)]
        go_simp
        obtain ⟨W34, hWn⟩ : ∃ W34, W34 = W28.alloc (.cells #[.slice none 0 0, .slice none 0 0] 25) := ⟨_, rfl⟩
        rw [← hWn]
        have kn : Kept W28 W34 := by rw [hWn]; exact (Kept.refl _).alloc _
        have HK_34 := Lib.hid (HK_28.out.trans kn)
        have hge := HK_28.out.size
        have HO1_34 := Lib.hid (own_kept HO1_28.out kn)
        have HO2_34 := Lib.hid (own_kept HO2_28.out kn)
        have HB_34 : RowKit.Hid (RowC W34 W28.heap.size [.slice none 0 0, .slice none 0 0]) := Lib.hid (by rw [hWn]; exact RowC.new W28 [.slice none 0 0, .slice none 0 0] 25)
        have HG_34 : RowKit.Hid (W0.heap.size ≤ W28.heap.size) := Lib.hid hge
        have HDz1_34 : RowKit.Hid (W28.heap.size ≠ W27.heap.size) := Lib.hid (fun e => by have := (show W27.heap.size < W28.heap.size from own_lt HO1_28.out rfl); omega)
        have HDz2_34 : RowKit.Hid (W28.heap.size ≠ Wd.heap.size) := Lib.hid (fun e => by have := (show Wd.heap.size < W28.heap.size from own_lt HO2_28.out rfl); omega)
        refine hK.out _ _ (SC.out _ HK_34.out) (fun hHeld => ?_)
        clear hK K hWn kn hge
        try simp only [Act.put, List.setIfInBounds_toArray, List.set_cons_zero, List.set_cons_succ]
        refine wpAnyH_ready (rs := [3]) (by kernel_rfl) (by simp) ?_
        refine AllReadyH.cons rfl (fun K hK => ?_) AllReadyH.nil
        refine step_copy rfl (.tmp 35) (.tmp 37) 22 rfl W0.heap.size 32 i1 _ 9 32 Tryz.underlying22 hi1 hz1a hz1b hz1c rfl (by decide) W27.heap.size rfl HO1_34.out A n c (ms.flatMap mkC) rfl HL1.out (HN1.out _ HK_34.out) mkC_one (by have := HSZ.out; unfold maxLen; omega) (by have := HSZ.out; omega) HK_34.out.size ?_
        intro g35 d35 W35 hown hgrow hg
        have HK_35 := Lib.hid (HK_34.out.grown hgrow (fun q hq => by injection hq with hq; rw [← hq]; exact (HO1_34.out.lt _ rfl).1))
        have HO2_35 := Lib.hid (own_far HO2_34.out hgrow (fun g hg => by injection hg with hg; intro e; injection e with e; exact HD12_28.out (e.trans hg.symm)))
        have HB_35 := Lib.hid (rowC_grown HB_34.out hgrow (fun e => by injection e with e; exact (Ne.symm HDz1_34.out) e))
        have HO1_35 := Lib.hid hown
        have HD12_35 : RowKit.Hid (g35 ≠ Wd.heap.size) := Lib.hid (fun e => by
          rcases hg with h | h
          · exact HD12_28.out (h.symm.trans e)
          · have := (show Wd.heap.size < W34.heap.size from own_lt HO2_34.out rfl); omega)
        have HD1z_35 : RowKit.Hid (g35 ≠ W28.heap.size) := Lib.hid (fun e => by
          rcases hg with h | h
          · exact (Ne.symm HDz1_34.out) (h.symm.trans e)
          · have := cell_lt (HB_34.out 0 _ rfl).1; omega)
        refine hK.out _ _ (SC.out _ HK_35.out) (fun hHeld => ?_)
        clear hK K hown hgrow hg
        try simp only [Act.put, List.setIfInBounds_toArray, List.set_cons_zero, List.set_cons_succ]
        refine wpAnyH_ready (rs := [7]) (by kernel_rfl) (by simp) ?_
        refine AllReadyH.cons rfl (fun K hK => ?_) AllReadyH.nil
        refine step_copy rfl (.tmp 39) (.tmp 41) 23 rfl W0.heap.size 87 i2 _ 2 2 Tryz.underlying23 hi2 hz2a hz2b hz2c rfl (by decide) Wd.heap.size rfl HO2_35.out B m d (fs.flatMap fdC) rfl HL2.out (HN2.out _ HK_35.out) fdC_one (by have := HSZ.out; unfold maxLen; omega) (by have := HSZ.out; omega) HK_35.out.size ?_
        intro g36 d36 W36 hown hgrow hg
        have HK_36 := Lib.hid (HK_35.out.grown hgrow (fun q hq => by injection hq with hq; rw [← hq]; exact (HO2_35.out.lt _ rfl).1))
        have HO1_36 := Lib.hid (own_far HO1_35.out hgrow (fun g hg => by injection hg with hg; intro e; injection e with e; exact (Ne.symm HD12_35.out) (e.trans hg.symm)))
        have HB_36 := Lib.hid (rowC_grown HB_35.out hgrow (fun e => by injection e with e; exact (Ne.symm HDz2_34.out) e))
        have HO2_36 := Lib.hid hown
        have HD21_36 : RowKit.Hid (g36 ≠ g35) := Lib.hid (fun e => by
          rcases hg with h | h
          · exact (Ne.symm HD12_35.out) (h.symm.trans e)
          · have := (show g35 < W35.heap.size from own_lt HO1_35.out rfl); omega)
        have HD2z_36 : RowKit.Hid (g36 ≠ W28.heap.size) := Lib.hid (fun e => by
          rcases hg with h | h
          · exact (Ne.symm HDz2_34.out) (h.symm.trans e)
          · have := cell_lt (HB_35.out 0 _ rfl).1; omega)
        refine hK.out _ _ (SC.out _ HK_36.out) (fun hHeld => ?_)
        clear hK K hown hgrow hg
        try simp only [Act.put, List.setIfInBounds_toArray, List.set_cons_zero, List.set_cons_succ]
        refine take_at (i := 8) (d := some 43) (v := ?_) rfl rfl (by kernel_rfl) (by kernel_rfl) (by kernel_rfl) (fun _ _ _ h => h) (Or.inl ⟨by rfl, ?_⟩) hHeld ?_
        rotate_left
        · intro w hSw
          try dsimp only at hSw
          go_simp
          try (with_reducible rfl)
        try simp only [Act.put, List.setIfInBounds_toArray, List.set_cons_zero, List.set_cons_succ]
        have c0 := (HB_36.out 0 _ rfl).1
        have c1 := (HB_36.out 1 _ rfl).1
        have f0 := (HB_36.out 0 _ rfl).2
        have f1 := (HB_36.out 1 _ rfl).2
        refine wpAnyH_ready (rs := [10]) (by kernel_rfl) (by simp) ?_
        refine AllReadyH.cons rfl (fun K hK => ?_) AllReadyH.nil
        rw [if_pos (by rfl)]
        go_simp
        have kz : Kept W0 ((W36.setCell ⟨W28.heap.size, 0, none⟩ (.slice (some ⟨g35, 0, none⟩) n d35)).setCell ⟨W28.heap.size, 1, none⟩ (.slice (some ⟨g36, 0, none⟩) m d36)) := (HK_36.out.setCell (p := ⟨W28.heap.size, 0, none⟩) (by have := HG_34.out; simpa using this) _).setCell (p := ⟨W28.heap.size, 1, none⟩) (by have := HG_34.out; simpa using this) _
        refine hK.out _ _ (SC.out _ kz) (fun hHeld => ?_)
        clear hK K
        try simp only [Act.put, List.setIfInBounds_toArray, List.set_cons_zero, List.set_cons_succ]
        refine wpAnyH_done (by kernel_rfl) ?_ _
        go_wp2
        go_meet
        refine ⟨W28.heap.size, g35, d35, g36, d36, rfl, ?_, ?_, ?_, HD1z_35.out, HD2z_36.out, (Ne.symm HD21_36.out), HG_34.out, kz⟩
        · exact (HB_36.out.put (j := 0) (by simp) (.slice (some ⟨g35, 0, none⟩) n d35)).put (j := 1) (by simp) (.slice (some ⟨g36, 0, none⟩) m d36)
        · exact ownsRow_setCell_other (ownsRow_setCell_other HO1_36.out (fun e => by injection e with e; exact HD1z_35.out e) _) (fun e => by injection e with e; exact HD1z_35.out e) _
        · exact ownsRow_setCell_other (ownsRow_setCell_other HO2_36.out (fun e => by injection e with e; exact HD2z_36.out e) _) (fun e => by injection e with e; exact HD2z_36.out e) _
      refine AllReadyH.cons rfl (fun K hK => ?_) AllReadyH.nil
      rw [if_pos (by rfl)]
      go_simp
      obtain ⟨W37, hWn⟩ : ∃ W37, W37 = W27.alloc (.cells #[.slice none 0 0, .slice none 0 0] 25) := ⟨_, rfl⟩
      rw [← hWn]
      have kn : Kept W27 W37 := by rw [hWn]; exact (Kept.refl _).alloc _
      have HK_37 := Lib.hid (HK_27.out.trans kn)
      have hge := HK_27.out.size
      have HO2_37 := Lib.hid (own_kept HO2_27.out kn)
      have HB_37 : RowKit.Hid (RowC W37 W27.heap.size [.slice none 0 0, .slice none 0 0]) := Lib.hid (by rw [hWn]; exact RowC.new W27 [.slice none 0 0, .slice none 0 0] 25)
      have HG_37 : RowKit.Hid (W0.heap.size ≤ W27.heap.size) := Lib.hid hge
      have HDz2_37 : RowKit.Hid (W27.heap.size ≠ Wd.heap.size) := Lib.hid (fun e => by have := (show Wd.heap.size < W27.heap.size from own_lt HO2_27.out rfl); omega)
      refine hK.out _ _ (SC.out _ HK_37.out) (fun hHeld => ?_)
      clear hK K hWn kn hge
      try simp only [Act.put, List.setIfInBounds_toArray, List.set_cons_zero, List.set_cons_succ]
      refine wpAnyH_ready (rs := [0]) (by kernel_rfl) (by simp) ?_
      refine AllReadyH.cons rfl (fun K hK => ?_) AllReadyH.nil
      rw [if_pos (by rfl)]
      go_simp
      obtain ⟨W38, hWn⟩ : ∃ W38, W38 = W37.alloc (.cells #[] 32) := ⟨_, rfl⟩
      rw [← hWn]
      have kn : Kept W37 W38 := by rw [hWn]; exact (Kept.refl _).alloc _
      have HK_38 := Lib.hid (HK_37.out.trans kn)
      have hge := HK_37.out.size
      have HO2_38 := Lib.hid (own_kept HO2_37.out kn)
      have HB_38 := Lib.hid (HB_37.out.kept kn)
      have HO1_38 : RowKit.Hid (W38.ownsRow W0.heap.size 32 9 (.slice (some ⟨W37.heap.size, 0, none⟩) 0 0) 0 []) := Lib.hid (by rw [hWn]; exact own_base (own00 W37 _ 32 9 rfl) hge)
      have HD12_38 : RowKit.Hid (W37.heap.size ≠ Wd.heap.size) := Lib.hid (fun e => by have := (show Wd.heap.size < W37.heap.size from own_lt HO2_37.out rfl); omega)
      have HD1z_38 : RowKit.Hid (W37.heap.size ≠ W27.heap.size) := Lib.hid (fun e => by have := cell_lt (HB_37.out 0 _ rfl).1; omega)
      refine hK.out _ _ (SC.out _ HK_38.out) (fun hHeld => ?_)
      clear hK K hWn kn hge
      try simp only [Act.put, List.setIfInBounds_toArray, List.set_cons_zero, List.set_cons_succ]
      refine wpAnyH_ready (rs := [3]) (by kernel_rfl) (by simp) ?_
      refine AllReadyH.cons rfl (fun K hK => ?_) AllReadyH.nil
      refine step_copy rfl (.tmp 35) (.tmp 37) 22 rfl W0.heap.size 32 i1 _ 9 32 Tryz.underlying22 hi1 hz1a hz1b hz1c rfl (by decide) W37.heap.size rfl HO1_38.out A n c (ms.flatMap mkC) rfl HL1.out (HN1.out _ HK_38.out) mkC_one (by have := HSZ.out; unfold maxLen; omega) (by have := HSZ.out; omega) HK_38.out.size ?_
      intro g39 d39 W39 hown hgrow hg
      have HK_39 := Lib.hid (HK_38.out.grown hgrow (fun q hq => by injection hq with hq; rw [← hq]; exact (HO1_38.out.lt _ rfl).1))
      have HO2_39 := Lib.hid (own_far HO2_38.out hgrow (fun g hg => by injection hg with hg; intro e; injection e with e; exact HD12_38.out (e.trans hg.symm)))
      have HB_39 := Lib.hid (rowC_grown HB_38.out hgrow (fun e => by injection e with e; exact HD1z_38.out e))
      have HO1_39 := Lib.hid hown
      have HD12_39 : RowKit.Hid (g39 ≠ Wd.heap.size) := Lib.hid (fun e => by
        rcases hg with h | h
        · exact HD12_38.out (h.symm.trans e)
        · have := (show Wd.heap.size < W38.heap.size from own_lt HO2_38.out rfl); omega)
      have HD1z_39 : RowKit.Hid (g39 ≠ W27.heap.size) := Lib.hid (fun e => by
        rcases hg with h | h
        · exact HD1z_38.out (h.symm.trans e)
        · have := cell_lt (HB_38.out 0 _ rfl).1; omega)
      refine hK.out _ _ (SC.out _ HK_39.out) (fun hHeld => ?_)
      clear hK K hown hgrow hg
      try simp only [Act.put, List.setIfInBounds_toArray, List.set_cons_zero, List.set_cons_succ]
      refine wpAnyH_ready (rs := [7]) (by kernel_rfl) (by simp) ?_
      refine AllReadyH.cons rfl (fun K hK => ?_) AllReadyH.nil
      refine step_copy rfl (.tmp 39) (.tmp 41) 23 rfl W0.heap.size 87 i2 _ 2 2 Tryz.underlying23 hi2 hz2a hz2b hz2c rfl (by decide) Wd.heap.size rfl HO2_39.out B m d (fs.flatMap fdC) rfl HL2.out (HN2.out _ HK_39.out) fdC_one (by have := HSZ.out; unfold maxLen; omega) (by have := HSZ.out; omega) HK_39.out.size ?_
      intro g40 d40 W40 hown hgrow hg
      have HK_40 := Lib.hid (HK_39.out.grown hgrow (fun q hq => by injection hq with hq; rw [← hq]; exact (HO2_39.out.lt _ rfl).1))
      have HO1_40 := Lib.hid (own_far HO1_39.out hgrow (fun g hg => by injection hg with hg; intro e; injection e with e; exact (Ne.symm HD12_39.out) (e.trans hg.symm)))
      have HB_40 := Lib.hid (rowC_grown HB_39.out hgrow (fun e => by injection e with e; exact (Ne.symm HDz2_37.out) e))
      have HO2_40 := Lib.hid hown
      have HD21_40 : RowKit.Hid (g40 ≠ g39) := Lib.hid (fun e => by
        rcases hg with h | h
        · exact (Ne.symm HD12_39.out) (h.symm.trans e)
        · have := (show g39 < W39.heap.size from own_lt HO1_39.out rfl); omega)
      have HD2z_40 : RowKit.Hid (g40 ≠ W27.heap.size) := Lib.hid (fun e => by
        rcases hg with h | h
        · exact (Ne.symm HDz2_37.out) (h.symm.trans e)
        · have := cell_lt (HB_39.out 0 _ rfl).1; omega)
      refine hK.out _ _ (SC.out _ HK_40.out) (fun hHeld => ?_)
      clear hK K hown hgrow hg
      try simp only [Act.put, List.setIfInBounds_toArray, List.set_cons_zero, List.set_cons_succ]
      refine take_at (i := 8) (d := some 43) (v := ?_) rfl rfl (by kernel_rfl) (by kernel_rfl) (by kernel_rfl) (fun _ _ _ h => h) (Or.inl ⟨by rfl, ?_⟩) hHeld ?_
      rotate_left
      · intro w hSw
        try dsimp only at hSw
        go_simp
        try (with_reducible rfl)
      try simp only [Act.put, List.setIfInBounds_toArray, List.set_cons_zero, List.set_cons_succ]
      have c0 := (HB_40.out 0 _ rfl).1
      have c1 := (HB_40.out 1 _ rfl).1
      have f0 := (HB_40.out 0 _ rfl).2
      have f1 := (HB_40.out 1 _ rfl).2
      refine wpAnyH_ready (rs := [10]) (by kernel_rfl) (by simp) ?_
      refine AllReadyH.cons rfl (fun K hK => ?_) AllReadyH.nil
      rw [if_pos (by rfl)]
      go_simp
      have kz : Kept W0 ((W40.setCell ⟨W27.heap.size, 0, none⟩ (.slice (some ⟨g39, 0, none⟩) n d39)).setCell ⟨W27.heap.size, 1, none⟩ (.slice (some ⟨g40, 0, none⟩) m d40)) := (HK_40.out.setCell (p := ⟨W27.heap.size, 0, none⟩) (by have := HG_37.out; simpa using this) _).setCell (p := ⟨W27.heap.size, 1, none⟩) (by have := HG_37.out; simpa using this) _
      refine hK.out _ _ (SC.out _ kz) (fun hHeld => ?_)
      clear hK K
      try simp only [Act.put, List.setIfInBounds_toArray, List.set_cons_zero, List.set_cons_succ]
      refine wpAnyH_done (by kernel_rfl) ?_ _
      go_wp2
      go_meet
      refine ⟨W27.heap.size, g39, d39, g40, d40, rfl, ?_, ?_, ?_, HD1z_39.out, HD2z_40.out, (Ne.symm HD21_40.out), HG_37.out, kz⟩
      · exact (HB_40.out.put (j := 0) (by simp) (.slice (some ⟨g39, 0, none⟩) n d39)).put (j := 1) (by simp) (.slice (some ⟨g40, 0, none⟩) m d40)
      · exact ownsRow_setCell_other (ownsRow_setCell_other HO1_40.out (fun e => by injection e with e; exact HD1z_39.out e) _) (fun e => by injection e with e; exact HD1z_39.out e) _
      · exact ownsRow_setCell_other (ownsRow_setCell_other HO2_40.out (fun e => by injection e with e; exact HD2z_40.out e) _) (fun e => by injection e with e; exact HD2z_40.out e) _
    refine AllReadyH.cons rfl (fun K hK => ?_) AllReadyH.nil
    rw [if_pos (by rfl)]
    go_simp
    obtain ⟨W41, hWn⟩ : ∃ W41, W41 = Wd.alloc (.cells #[.slice none 0 0, .slice none 0 0] 25) := ⟨_, rfl⟩
    rw [← hWn]
    have kn : Kept Wd W41 := by rw [hWn]; exact (Kept.refl _).alloc _
    have HK_41 := Lib.hid (HKd.out.trans kn)
    have hge := HKd.out.size
    have HB_41 : RowKit.Hid (RowC W41 Wd.heap.size [.slice none 0 0, .slice none 0 0]) := Lib.hid (by rw [hWn]; exact RowC.new Wd [.slice none 0 0, .slice none 0 0] 25)
    have HG_41 : RowKit.Hid (W0.heap.size ≤ Wd.heap.size) := Lib.hid hge
    refine hK.out _ _ (SC.out _ HK_41.out) (fun hHeld => ?_)
    clear hK K hWn kn hge
    try simp only [Act.put, List.setIfInBounds_toArray, List.set_cons_zero, List.set_cons_succ]
    refine wpAnyH_ready (rs := [0, 4]) (by kernel_rfl) (by simp) ?_
    refine AllReadyH.cons rfl (fun K hK => ?_) ?_
    · rw [if_pos (by rfl)]
      go_simp
      obtain ⟨W42, hWn⟩ : ∃ W42, W42 = W41.alloc (.cells #[] 32) := ⟨_, rfl⟩
      rw [← hWn]
      have kn : Kept W41 W42 := by rw [hWn]; exact (Kept.refl _).alloc _
      have HK_42 := Lib.hid (HK_41.out.trans kn)
      have hge := HK_41.out.size
      have HB_42 := Lib.hid (HB_41.out.kept kn)
      have HO1_42 : RowKit.Hid (W42.ownsRow W0.heap.size 32 9 (.slice (some ⟨W41.heap.size, 0, none⟩) 0 0) 0 []) := Lib.hid (by rw [hWn]; exact own_base (own00 W41 _ 32 9 rfl) hge)
      have HD1z_42 : RowKit.Hid (W41.heap.size ≠ Wd.heap.size) := Lib.hid (fun e => by have := cell_lt (HB_41.out 0 _ rfl).1; omega)
      refine hK.out _ _ (SC.out _ HK_42.out) (fun hHeld => ?_)
      clear hK K hWn kn hge
      try simp only [Act.put, List.setIfInBounds_toArray, List.set_cons_zero, List.set_cons_succ]
      refine wpAnyH_ready (rs := [3, 4]) (by kernel_rfl) (by simp) ?_
      refine AllReadyH.cons rfl (fun K hK => ?_) ?_
      · refine step_copy rfl (.tmp 35) (.tmp 37) 22 rfl W0.heap.size 32 i1 _ 9 32 Tryz.underlying22 hi1 hz1a hz1b hz1c rfl (by decide) W41.heap.size rfl HO1_42.out A n c (ms.flatMap mkC) rfl HL1.out (HN1.out _ HK_42.out) mkC_one (by have := HSZ.out; unfold maxLen; omega) (by have := HSZ.out; omega) HK_42.out.size ?_
        intro g43 d43 W43 hown hgrow hg
        have HK_43 := Lib.hid (HK_42.out.grown hgrow (fun q hq => by injection hq with hq; rw [← hq]; exact (HO1_42.out.lt _ rfl).1))
        have HB_43 := Lib.hid (rowC_grown HB_42.out hgrow (fun e => by injection e with e; exact HD1z_42.out e))
        have HO1_43 := Lib.hid hown
        have HD1z_43 : RowKit.Hid (g43 ≠ Wd.heap.size) := Lib.hid (fun e => by
          rcases hg with h | h
          · exact HD1z_42.out (h.symm.trans e)
          · have := cell_lt (HB_42.out 0 _ rfl).1; omega)
        refine hK.out _ _ (SC.out _ HK_43.out) (fun hHeld => ?_)
        clear hK K hown hgrow hg
        try simp only [Act.put, List.setIfInBounds_toArray, List.set_cons_zero, List.set_cons_succ]
        refine wpAnyH_ready (rs := [4]) (by kernel_rfl) (by simp) ?_
        refine AllReadyH.cons rfl (fun K hK => ?_) AllReadyH.nil
        rw [if_pos (by rfl)]
        go_simp
        obtain ⟨W44, hWn⟩ : ∃ W44, W44 = W43.alloc (.cells #[] 87) := ⟨_, rfl⟩
        rw [← hWn]
        have kn : Kept W43 W44 := by rw [hWn]; exact (Kept.refl _).alloc _
        have HK_44 := Lib.hid (HK_43.out.trans kn)
        have hge := HK_43.out.size
        have HO1_44 := Lib.hid (own_kept HO1_43.out kn)
        have HB_44 := Lib.hid (HB_43.out.kept kn)
        have HO2_44 : RowKit.Hid (W44.ownsRow W0.heap.size 87 2 (.slice (some ⟨W43.heap.size, 0, none⟩) 0 0) 0 []) := Lib.hid (by rw [hWn]; exact own_base (own00 W43 _ 87 2 rfl) hge)
        have HD21_44 : RowKit.Hid (W43.heap.size ≠ g43) := Lib.hid (fun e => by have := (show g43 < W43.heap.size from own_lt HO1_43.out rfl); omega)
        have HD2z_44 : RowKit.Hid (W43.heap.size ≠ Wd.heap.size) := Lib.hid (fun e => by have := cell_lt (HB_43.out 0 _ rfl).1; omega)
        refine hK.out _ _ (SC.out _ HK_44.out) (fun hHeld => ?_)
        clear hK K hWn kn hge
        try simp only [Act.put, List.setIfInBounds_toArray, List.set_cons_zero, List.set_cons_succ]
        refine wpAnyH_ready (rs := [7]) (by kernel_rfl) (by simp) ?_
        refine AllReadyH.cons rfl (fun K hK => ?_) AllReadyH.nil
        refine step_copy rfl (.tmp 39) (.tmp 41) 23 rfl W0.heap.size 87 i2 _ 2 2 Tryz.underlying23 hi2 hz2a hz2b hz2c rfl (by decide) W43.heap.size rfl HO2_44.out B m d (fs.flatMap fdC) rfl HL2.out (HN2.out _ HK_44.out) fdC_one (by have := HSZ.out; unfold maxLen; omega) (by have := HSZ.out; omega) HK_44.out.size ?_
        intro g45 d45 W45 hown hgrow hg
        have HK_45 := Lib.hid (HK_44.out.grown hgrow (fun q hq => by injection hq with hq; rw [← hq]; exact (HO2_44.out.lt _ rfl).1))
        have HO1_45 := Lib.hid (own_far HO1_44.out hgrow (fun g hg => by injection hg with hg; intro e; injection e with e; exact HD21_44.out (e.trans hg.symm)))
        have HB_45 := Lib.hid (rowC_grown HB_44.out hgrow (fun e => by injection e with e; exact HD2z_44.out e))
        have HO2_45 := Lib.hid hown
        have HD21_45 : RowKit.Hid (g45 ≠ g43) := Lib.hid (fun e => by
          rcases hg with h | h
          · exact HD21_44.out (h.symm.trans e)
          · have := (show g43 < W44.heap.size from own_lt HO1_44.out rfl); omega)
        have HD2z_45 : RowKit.Hid (g45 ≠ Wd.heap.size) := Lib.hid (fun e => by
          rcases hg with h | h
          · exact HD2z_44.out (h.symm.trans e)
          · have := cell_lt (HB_44.out 0 _ rfl).1; omega)
        refine hK.out _ _ (SC.out _ HK_45.out) (fun hHeld => ?_)
        clear hK K hown hgrow hg
        try simp only [Act.put, List.setIfInBounds_toArray, List.set_cons_zero, List.set_cons_succ]
        refine take_at (i := 8) (d := some 43) (v := ?_) rfl rfl (by kernel_rfl) (by kernel_rfl) (by kernel_rfl) (fun _ _ _ h => h) (Or.inl ⟨by rfl, ?_⟩) hHeld ?_
        rotate_left
        · intro w hSw
          try dsimp only at hSw
          go_simp
          try (with_reducible rfl)
        try simp only [Act.put, List.setIfInBounds_toArray, List.set_cons_zero, List.set_cons_succ]
        have c0 := (HB_45.out 0 _ rfl).1
        have c1 := (HB_45.out 1 _ rfl).1
        have f0 := (HB_45.out 0 _ rfl).2
        have f1 := (HB_45.out 1 _ rfl).2
        refine wpAnyH_ready (rs := [10]) (by kernel_rfl) (by simp) ?_
        refine AllReadyH.cons rfl (fun K hK => ?_) AllReadyH.nil
        rw [if_pos (by rfl)]
        go_simp
        have kz : Kept W0 ((W45.setCell ⟨Wd.heap.size, 0, none⟩ (.slice (some ⟨g43, 0, none⟩) n d43)).setCell ⟨Wd.heap.size, 1, none⟩ (.slice (some ⟨g45, 0, none⟩) m d45)) := (HK_45.out.setCell (p := ⟨Wd.heap.size, 0, none⟩) (by have := HG_41.out; simpa using this) _).setCell (p := ⟨Wd.heap.size, 1, none⟩) (by have := HG_41.out; simpa using this) _
        refine hK.out _ _ (SC.out _ kz) (fun hHeld => ?_)
        clear hK K
        try simp only [Act.put, List.setIfInBounds_toArray, List.set_cons_zero, List.set_cons_succ]
        refine wpAnyH_done (by kernel_rfl) ?_ _
        go_wp2
        go_meet
        refine ⟨Wd.heap.size, g43, d43, g45, d45, rfl, ?_, ?_, ?_, HD1z_43.out, HD2z_45.out, (Ne.symm HD21_45.out), HG_41.out, kz⟩
        · exact (HB_45.out.put (j := 0) (by simp) (.slice (some ⟨g43, 0, none⟩) n d43)).put (j := 1) (by simp) (.slice (some ⟨g45, 0, none⟩) m d45)
        · exact ownsRow_setCell_other (ownsRow_setCell_other HO1_45.out (fun e => by injection e with e; exact HD1z_43.out e) _) (fun e => by injection e with e; exact HD1z_43.out e) _
        · exact ownsRow_setCell_other (ownsRow_setCell_other HO2_45.out (fun e => by injection e with e; exact HD2z_45.out e) _) (fun e => by injection e with e; exact HD2z_45.out e) _
      refine AllReadyH.cons rfl (fun K hK => ?_) AllReadyH.nil
      rw [if_pos (by rfl)]
      go_simp
      obtain ⟨W46, hWn⟩ : ∃ W46, W46 = W42.alloc (.cells #[] 87) := ⟨_, rfl⟩
      rw [← hWn]
      have kn : Kept W42 W46 := by rw [hWn]; exact (Kept.refl _).alloc _
      have HK_46 := Lib.hid (HK_42.out.trans kn)
      have hge := HK_42.out.size
      have HO1_46 := Lib.hid (own_kept HO1_42.out kn)
      have HB_46 := Lib.hid (HB_42.out.kept kn)
      have HO2_46 : RowKit.Hid (W46.ownsRow W0.heap.size 87 2 (.slice (some ⟨W42.heap.size, 0, none⟩) 0 0) 0 []) := Lib.hid (by rw [hWn]; exact own_base (own00 W42 _ 87 2 rfl) hge)
      have HD21_46 : RowKit.Hid (W42.heap.size ≠ W41.heap.size) := Lib.hid (fun e => by have := (show W41.heap.size < W42.heap.size from own_lt HO1_42.out rfl); omega)
      have HD2z_46 : RowKit.Hid (W42.heap.size ≠ Wd.heap.size) := Lib.hid (fun e => by have := cell_lt (HB_42.out 0 _ rfl).1; omega)
      refine hK.out _ _ (SC.out _ HK_46.out) (fun hHeld => ?_)
      clear hK K hWn kn hge
      try simp only [Act.put, List.setIfInBounds_toArray, List.set_cons_zero, List.set_cons_succ]
      refine wpAnyH_ready (rs := [3]) (by kernel_rfl) (by simp) ?_
      refine AllReadyH.cons rfl (fun K hK => ?_) AllReadyH.nil
      refine step_copy rfl (.tmp 35) (.tmp 37) 22 rfl W0.heap.size 32 i1 _ 9 32 Tryz.underlying22 hi1 hz1a hz1b hz1c rfl (by decide) W41.heap.size rfl HO1_46.out A n c (ms.flatMap mkC) rfl HL1.out (HN1.out _ HK_46.out) mkC_one (by have := HSZ.out; unfold maxLen; omega) (by have := HSZ.out; omega) HK_46.out.size ?_
      intro g47 d47 W47 hown hgrow hg
      have HK_47 := Lib.hid (HK_46.out.grown hgrow (fun q hq => by injection hq with hq; rw [← hq]; exact (HO1_46.out.lt _ rfl).1))
      have HO2_47 := Lib.hid (own_far HO2_46.out hgrow (fun g hg => by injection hg with hg; intro e; injection e with e; exact (Ne.symm HD21_46.out) (e.trans hg.symm)))
      have HB_47 := Lib.hid (rowC_grown HB_46.out hgrow (fun e => by injection e with e; exact HD1z_42.out e))
      have HO1_47 := Lib.hid hown
      have HD12_47 : RowKit.Hid (g47 ≠ W42.heap.size) := Lib.hid (fun e => by
        rcases hg with h | h
        · exact (Ne.symm HD21_46.out) (h.symm.trans e)
        · have := (show W42.heap.size < W46.heap.size from own_lt HO2_46.out rfl); omega)
      have HD1z_47 : RowKit.Hid (g47 ≠ Wd.heap.size) := Lib.hid (fun e => by
        rcases hg with h | h
        · exact HD1z_42.out (h.symm.trans e)
        · have := cell_lt (HB_46.out 0 _ rfl).1; omega)
      refine hK.out _ _ (SC.out _ HK_47.out) (fun hHeld => ?_)
      clear hK K hown hgrow hg
      try simp only [Act.put, List.setIfInBounds_toArray, List.set_cons_zero, List.set_cons_succ]
      refine wpAnyH_ready (rs := [7]) (by kernel_rfl) (by simp) ?_
      refine AllReadyH.cons rfl (fun K hK => ?_) AllReadyH.nil
      refine step_copy rfl (.tmp 39) (.tmp 41) 23 rfl W0.heap.size 87 i2 _ 2 2 Tryz.underlying23 hi2 hz2a hz2b hz2c rfl (by decide) W42.heap.size rfl HO2_47.out B m d (fs.flatMap fdC) rfl HL2.out (HN2.out _ HK_47.out) fdC_one (by have := HSZ.out; unfold maxLen; omega) (by have := HSZ.out; omega) HK_47.out.size ?_
      intro g48 d48 W48 hown hgrow hg
      have HK_48 := Lib.hid (HK_47.out.grown hgrow (fun q hq => by injection hq with hq; rw [← hq]; exact (HO2_47.out.lt _ rfl).1))
      have HO1_48 := Lib.hid (own_far HO1_47.out hgrow (fun g hg => by injection hg with hg; intro e; injection e with e; exact (Ne.symm HD12_47.out) (e.trans hg.symm)))
      have HB_48 := Lib.hid (rowC_grown HB_47.out hgrow (fun e => by injection e with e; exact HD2z_46.out e))
      have HO2_48 := Lib.hid hown
      have HD21_48 : RowKit.Hid (g48 ≠ g47) := Lib.hid (fun e => by
        rcases hg with h | h
        · exact (Ne.symm HD12_47.out) (h.symm.trans e)
        · have := (show g47 < W47.heap.size from own_lt HO1_47.out rfl); omega)
      have HD2z_48 : RowKit.Hid (g48 ≠ Wd.heap.size) := Lib.hid (fun e => by
        rcases hg with h | h
        · exact HD2z_46.out (h.symm.trans e)
        · have := cell_lt (HB_47.out 0 _ rfl).1; omega)
      refine hK.out _ _ (SC.out _ HK_48.out) (fun hHeld => ?_)
      clear hK K hown hgrow hg
      try simp only [Act.put, List.setIfInBounds_toArray, List.set_cons_zero, List.set_cons_succ]
      refine take_at (i := 8) (d := some 43) (v := ?_) rfl rfl (by kernel_rfl) (by kernel_rfl) (by kernel_rfl) (fun _ _ _ h => h) (Or.inl ⟨by rfl, ?_⟩) hHeld ?_
      rotate_left
      · intro w hSw
        try dsimp only at hSw
        go_simp
        try (with_reducible rfl)
      try simp only [Act.put, List.setIfInBounds_toArray, List.set_cons_zero, List.set_cons_succ]
      have c0 := (HB_48.out 0 _ rfl).1
      have c1 := (HB_48.out 1 _ rfl).1
      have f0 := (HB_48.out 0 _ rfl).2
      have f1 := (HB_48.out 1 _ rfl).2
      refine wpAnyH_ready (rs := [10]) (by kernel_rfl) (by simp) ?_
      refine AllReadyH.cons rfl (fun K hK => ?_) AllReadyH.nil
      rw [if_pos (by rfl)]
      go_simp
      have kz : Kept W0 ((W48.setCell ⟨Wd.heap.size, 0, none⟩ (.slice (some ⟨g47, 0, none⟩) n d47)).setCell ⟨Wd.heap.size, 1, none⟩ (.slice (some ⟨g48, 0, none⟩) m d48)) := (HK_48.out.setCell (p := ⟨Wd.heap.size, 0, none⟩) (by have := HG_41.out; simpa using this) _).setCell (p := ⟨Wd.heap.size, 1, none⟩) (by have := HG_41.out; simpa using this) _
      refine hK.out _ _ (SC.out _ kz) (fun hHeld => ?_)
      clear hK K
      try simp only [Act.put, List.setIfInBounds_toArray, List.set_cons_zero, List.set_cons_succ]
      refine wpAnyH_done (by kernel_rfl) ?_ _
      go_wp2
      go_meet
      refine ⟨Wd.heap.size, g47, d47, g48, d48, rfl, ?_, ?_, ?_, HD1z_47.out, HD2z_48.out, (Ne.symm HD21_48.out), HG_41.out, kz⟩
      · exact (HB_48.out.put (j := 0) (by simp) (.slice (some ⟨g47, 0, none⟩) n d47)).put (j := 1) (by simp) (.slice (some ⟨g48, 0, none⟩) m d48)
      · exact ownsRow_setCell_other (ownsRow_setCell_other HO1_48.out (fun e => by injection e with e; exact HD1z_47.out e) _) (fun e => by injection e with e; exact HD1z_47.out e) _
      · exact ownsRow_setCell_other (ownsRow_setCell_other HO2_48.out (fun e => by injection e with e; exact HD2z_48.out e) _) (fun e => by injection e with e; exact HD2z_48.out e) _
    refine AllReadyH.cons rfl (fun K hK => ?_) AllReadyH.nil
    rw [if_pos (by rfl)]
    go_simp
    obtain ⟨W49, hWn⟩ : ∃ W49, W49 = W41.alloc (.cells #[] 87) := ⟨_, rfl⟩
    rw [← hWn]
    have kn : Kept W41 W49 := by rw [hWn]; exact (Kept.refl _).alloc _
    have HK_49 := Lib.hid (HK_41.out.trans kn)
    have hge := HK_41.out.size
    have HB_49 := Lib.hid (HB_41.out.kept kn)
    have HO2_49 : RowKit.Hid (W49.ownsRow W0.heap.size 87 2 (.slice (some ⟨W41.heap.size, 0, none⟩) 0 0) 0 []) := Lib.hid (by rw [hWn]; exact own_base (own00 W41 _ 87 2 rfl) hge)
    have HD2z_49 : RowKit.Hid (W41.heap.size ≠ Wd.heap.size) := Lib.hid (fun e => by have := cell_lt (HB_41.out 0 _ rfl).1; omega)
    refine hK.out _ _ (SC.out _ HK_49.out) (fun hHeld => ?_)
    clear hK K hWn kn hge
    try simp only [Act.put, List.setIfInBounds_toArray, List.set_cons_zero, List.set_cons_succ]
    refine wpAnyH_ready (rs := [0]) (by kernel_rfl) (by simp) ?_
    refine AllReadyH.cons rfl (fun K hK => ?_) AllReadyH.nil
    rw [if_pos (by rfl)]
    go_simp
    obtain ⟨W50, hWn⟩ : ∃ W50, W50 = W49.alloc (.cells #[] 32) := ⟨_, rfl⟩
    rw [← hWn]
    have kn : Kept W49 W50 := by rw [hWn]; exact (Kept.refl _).alloc _
    have HK_50 := Lib.hid (HK_49.out.trans kn)
    have hge := HK_49.out.size
    have HO2_50 := Lib.hid (own_kept HO2_49.out kn)
    have HB_50 := Lib.hid (HB_49.out.kept kn)
    have HO1_50 : RowKit.Hid (W50.ownsRow W0.heap.size 32 9 (.slice (some ⟨W49.heap.size, 0, none⟩) 0 0) 0 []) := Lib.hid (by rw [hWn]; exact own_base (own00 W49 _ 32 9 rfl) hge)
    have HD12_50 : RowKit.Hid (W49.heap.size ≠ W41.heap.size) := Lib.hid (fun e => by have := (show W41.heap.size < W49.heap.size from own_lt HO2_49.out rfl); omega)
    have HD1z_50 : RowKit.Hid (W49.heap.size ≠ Wd.heap.size) := Lib.hid (fun e => by have := cell_lt (HB_49.out 0 _ rfl).1; omega)
    refine hK.out _ _ (SC.out _ HK_50.out) (fun hHeld => ?_)
    clear hK K hWn kn hge
    try simp only [Act.put, List.setIfInBounds_toArray, List.set_cons_zero, List.set_cons_succ]
    refine wpAnyH_ready (rs := [3]) (by kernel_rfl) (by simp) ?_
    refine AllReadyH.cons rfl (fun K hK => ?_) AllReadyH.nil
    refine step_copy rfl (.tmp 35) (.tmp 37) 22 rfl W0.heap.size 32 i1 _ 9 32 Tryz.underlying22 hi1 hz1a hz1b hz1c rfl (by decide) W49.heap.size rfl HO1_50.out A n c (ms.flatMap mkC) rfl HL1.out (HN1.out _ HK_50.out) mkC_one (by have := HSZ.out; unfold maxLen; omega) (by have := HSZ.out; omega) HK_50.out.size ?_
    intro g51 d51 W51 hown hgrow hg
    have HK_51 := Lib.hid (HK_50.out.grown hgrow (fun q hq => by injection hq with hq; rw [← hq]; exact (HO1_50.out.lt _ rfl).1))
    have HO2_51 := Lib.hid (own_far HO2_50.out hgrow (fun g hg => by injection hg with hg; intro e; injection e with e; exact HD12_50.out (e.trans hg.symm)))
    have HB_51 := Lib.hid (rowC_grown HB_50.out hgrow (fun e => by injection e with e; exact HD1z_50.out e))
    have HO1_51 := Lib.hid hown
    have HD12_51 : RowKit.Hid (g51 ≠ W41.heap.size) := Lib.hid (fun e => by
      rcases hg with h | h
      · exact HD12_50.out (h.symm.trans e)
      · have := (show W41.heap.size < W50.heap.size from own_lt HO2_50.out rfl); omega)
    have HD1z_51 : RowKit.Hid (g51 ≠ Wd.heap.size) := Lib.hid (fun e => by
      rcases hg with h | h
      · exact HD1z_50.out (h.symm.trans e)
      · have := cell_lt (HB_50.out 0 _ rfl).1; omega)
    refine hK.out _ _ (SC.out _ HK_51.out) (fun hHeld => ?_)
    clear hK K hown hgrow hg
    try simp only [Act.put, List.setIfInBounds_toArray, List.set_cons_zero, List.set_cons_succ]
    refine wpAnyH_ready (rs := [7]) (by kernel_rfl) (by simp) ?_
    refine AllReadyH.cons rfl (fun K hK => ?_) AllReadyH.nil
    refine step_copy rfl (.tmp 39) (.tmp 41) 23 rfl W0.heap.size 87 i2 _ 2 2 Tryz.underlying23 hi2 hz2a hz2b hz2c rfl (by decide) W41.heap.size rfl HO2_51.out B m d (fs.flatMap fdC) rfl HL2.out (HN2.out _ HK_51.out) fdC_one (by have := HSZ.out; unfold maxLen; omega) (by have := HSZ.out; omega) HK_51.out.size ?_
    intro g52 d52 W52 hown hgrow hg
    have HK_52 := Lib.hid (HK_51.out.grown hgrow (fun q hq => by injection hq with hq; rw [← hq]; exact (HO2_51.out.lt _ rfl).1))
    have HO1_52 := Lib.hid (own_far HO1_51.out hgrow (fun g hg => by injection hg with hg; intro e; injection e with e; exact (Ne.symm HD12_51.out) (e.trans hg.symm)))
    have HB_52 := Lib.hid (rowC_grown HB_51.out hgrow (fun e => by injection e with e; exact HD2z_49.out e))
    have HO2_52 := Lib.hid hown
    have HD21_52 : RowKit.Hid (g52 ≠ g51) := Lib.hid (fun e => by
      rcases hg with h | h
      · exact (Ne.symm HD12_51.out) (h.symm.trans e)
      · have := (show g51 < W51.heap.size from own_lt HO1_51.out rfl); omega)
    have HD2z_52 : RowKit.Hid (g52 ≠ Wd.heap.size) := Lib.hid (fun e => by
      rcases hg with h | h
      · exact HD2z_49.out (h.symm.trans e)
      · have := cell_lt (HB_51.out 0 _ rfl).1; omega)
    refine hK.out _ _ (SC.out _ HK_52.out) (fun hHeld => ?_)
    clear hK K hown hgrow hg
    try simp only [Act.put, List.setIfInBounds_toArray, List.set_cons_zero, List.set_cons_succ]
    refine take_at (i := 8) (d := some 43) (v := ?_) rfl rfl (by kernel_rfl) (by kernel_rfl) (by kernel_rfl) (fun _ _ _ h => h) (Or.inl ⟨by rfl, ?_⟩) hHeld ?_
    rotate_left
    · intro w hSw
      try dsimp only at hSw
      go_simp
      try (with_reducible rfl)
    try simp only [Act.put, List.setIfInBounds_toArray, List.set_cons_zero, List.set_cons_succ]
    have c0 := (HB_52.out 0 _ rfl).1
    have c1 := (HB_52.out 1 _ rfl).1
    have f0 := (HB_52.out 0 _ rfl).2
    have f1 := (HB_52.out 1 _ rfl).2
    refine wpAnyH_ready (rs := [10]) (by kernel_rfl) (by simp) ?_
    refine AllReadyH.cons rfl (fun K hK => ?_) AllReadyH.nil
    rw [if_pos (by rfl)]
    go_simp
    have kz : Kept W0 ((W52.setCell ⟨Wd.heap.size, 0, none⟩ (.slice (some ⟨g51, 0, none⟩) n d51)).setCell ⟨Wd.heap.size, 1, none⟩ (.slice (some ⟨g52, 0, none⟩) m d52)) := (HK_52.out.setCell (p := ⟨Wd.heap.size, 0, none⟩) (by have := HG_41.out; simpa using this) _).setCell (p := ⟨Wd.heap.size, 1, none⟩) (by have := HG_41.out; simpa using this) _
    refine hK.out _ _ (SC.out _ kz) (fun hHeld => ?_)
    clear hK K
    try simp only [Act.put, List.setIfInBounds_toArray, List.set_cons_zero, List.set_cons_succ]
    refine wpAnyH_done (by kernel_rfl) ?_ _
    go_wp2
    go_meet
    refine ⟨Wd.heap.size, g51, d51, g52, d52, rfl, ?_, ?_, ?_, HD1z_51.out, HD2z_52.out, (Ne.symm HD21_52.out), HG_41.out, kz⟩
    · exact (HB_52.out.put (j := 0) (by simp) (.slice (some ⟨g51, 0, none⟩) n d51)).put (j := 1) (by simp) (.slice (some ⟨g52, 0, none⟩) m d52)
    · exact ownsRow_setCell_other (ownsRow_setCell_other HO1_52.out (fun e => by injection e with e; exact HD1z_51.out e) _) (fun e => by injection e with e; exact HD1z_51.out e) _
    · exact ownsRow_setCell_other (ownsRow_setCell_other HO2_52.out (fun e => by injection e with e; exact HD2z_52.out e) _) (fun e => by injection e with e; exact HD2z_52.out e) _
  case rest =>
    obtain ⟨g, g1, d1, g2, d2, rfl, hrb, ho1, ho2, hd1, hd2, hd12, hge, hkc⟩ := hcut
    have HRB := Lib.hid hrb
    have HO1 := Lib.hid ho1
    have HO2 := Lib.hid ho2
    have HD1 := Lib.hid hd1
    have HD2 := Lib.hid hd2
    have HD12 := Lib.hid hd12
    have HGE := Lib.hid hge
    have HKC := Lib.hid hkc
    clear hrb ho1 ho2 hd1 hd2 hd12 hge hkc
    cases fade with
    | true =>
      have y0 := (HRB.out 1 _ rfl).1
      have y1 := (HRB.out 1 _ rfl).2
      have ly := cell_lt y0
      have e0 := (show wc.cell? ⟨w.heap.size + 1 + 1 + 1, 0, none⟩ = _ from (RD.out.kept HKC.out 0 _ rfl).1)
      have e1 := (show wc.cell? ⟨w.heap.size + 1 + 1 + 1, 1, none⟩ = _ from (RD.out.kept HKC.out 1 _ rfl).1)
      have le := cell_lt e0
      obtain ⟨Wc, hWc⟩ : ∃ Wc, Wc = wc := ⟨_, rfl⟩
      have HNW := Lib.hid (news_of (W := wc) (cs := fdC f) (t := 87) (m := wc.heap.size) rfl)
      have HV9 : RowKit.Hid (∀ z ∈ fdC f, z.oneCell' = true) := Lib.hid (fun z hz => fdC_one (fs := [f]) z (by simpa using hz))
      have HA3 : RowKit.Hid (m + 1 ≤ maxLen) := Lib.hid (by unfold maxLen; omega)
      have HA4 : RowKit.Hid ((m + 1) * 2 ≤ 140737488355328) := Lib.hid (by omega)
      have HB9 : RowKit.Hid (W0.heap.size ≤ (wc.alloc (.cells (fdC f).toArray 87)).heap.size) := Lib.hid (by have := HKC.out.size; simp; omega)
      clear hWc
      go_upto_region 7 with (first
        | (at_builtin; refine wpList_append_lies _ rfl (.tmp 46) (.tmp 48) 23 rfl W0.heap.size 87 i2 _ 2 2 Tryz.underlying23 hi2 hz2a hz2b hz2c rfl (by decide) _ m _ rfl (own_kept HO2.out ((Kept.refl _).alloc _)) ⟨wc.heap.size, 0, none⟩ 1 1 (fdC f) rfl rfl HNW.out HV9.out (by decide) HA3.out HA4.out HB9.out _ rfl ?_; intro g9 c9 w9 hown9 hgrow9 hat9 hlt9
           have HO9 := Lib.hid hown9
           have HRB9 := Lib.hid (rowC_grown (HRB.out.kept ((Kept.refl _).alloc _)) hgrow9 (fun e => by injection e with e; exact HD2.out e))
           have HOO := Lib.hid (own_far (own_kept HO1.out ((Kept.refl _).alloc _)) hgrow9 (fun q hq e => by injection hq with hq; injection e with e; exact HD12.out (hq.trans e.symm)))
           have HK9 := Lib.hid ((HKC.out.alloc _).grown hgrow9 (fun q hq => by injection hq with hq; rw [← hq]; exact (HO2.out.lt _ rfl).1))
           have HD9 : RowKit.Hid (g9 ≠ g) := Lib.hid (by
             rcases hat9 with h | h
             · injection h with h
               exact fun e => HD2.out (h.trans e)
             · have := cell_lt y0
               simp at h
               omega)
           have y9 := (HRB9.out 1 _ rfl).1
           have z9 := (HRB9.out 1 _ rfl).2
           have l9 := cell_lt y9
           clear hown9 hgrow9 hat9 hlt9)
        | fail)
      obtain ⟨Wx, hWx⟩ : ∃ Wx, Wx = w9.setCell ⟨g, 1, none⟩ (.slice (some ⟨g9, 0, none⟩) (m + 1) c9) := ⟨_, rfl⟩
      rw [← hWx]
      have HKX : RowKit.Hid (Kept W0 Wx) := Lib.hid (by rw [hWx]; exact HK9.out.setCell (p := ⟨g, 1, none⟩) HGE.out _)
      have HRX : RowKit.Hid (RowC Wx g [.slice (some ⟨g1, 0, none⟩) n d1, .slice (some ⟨g9, 0, none⟩) (m + 1) c9]) := Lib.hid (by rw [hWx]; exact HRB9.out.put (j := 1) (by simp) _)
      have o9 := ownsRow_setCell_other HO9.out (a := ⟨g, 1, none⟩) (fun e => by injection e with e; exact HD9.out e) (.slice (some ⟨g9, 0, none⟩) (m + 1) c9)
      have o8 := ownsRow_setCell_other HOO.out (a := ⟨g, 1, none⟩) (fun e => by injection e with e; exact HD1.out e) (.slice (some ⟨g9, 0, none⟩) (m + 1) c9)
      rw [← hWx] at o9 o8
      have hfl : fs.flatMap fdC ++ fdC f = (fs ++ [f]).flatMap fdC := by rw [List.flatMap_append, List.flatMap_singleton]
      rw [hfl] at o9
      have s9 := own_slB (enc := fdC) (ok := Fd.ok) (fun _ => rfl) o9 (by rw [List.length_append, HFN.out]; rfl) (fun z hz => by
        rcases List.mem_append.1 hz with h | h
        · exact HFO.out z h
        · rw [List.mem_singleton] at h
          rw [h]
          exact HFK.out)
      have s8 := own_slB (enc := mkC) (ok := Mk.ok) (fun _ => rfl) o8 HMN.out HMO.out
      have HSX : RowKit.Hid (SmA Wx (some ⟨g1, 0, none⟩) n d1 ms (some ⟨g9, 0, none⟩) (m + 1) c9 (fs ++ [f])) := Lib.hid ⟨s8, s9⟩
      have HMR : RowKit.Hid (MoreR ms fs ms (fs ++ [f])) := Lib.hid (MoreR.fade ms fs f)
      clear hWx o9 o8 hfl s9 s8 y0 y1 ly le y9 z9 l9 e0 e1
      have a0 := (RA.out.kept HKX.out 0 _ rfl).1
      have a1 := (RA.out.kept HKX.out 1 _ rfl).1
      have la := cell_lt a0
      obtain ⟨E1, hE1⟩ : ∃ E, smE ms fs = E := ⟨_, rfl⟩
      have HC1 := Lib.hid (H25.out A B n c m d ms fs Wx (HS.out.kept HKX.out))
      rw [hE1] at HC1
      have HE1 := Lib.hid hE1
      obtain ⟨E2, hE2⟩ : ∃ E, smE ms (fs ++ [f]) = E := ⟨_, rfl⟩
      have HC2 := Lib.hid (fun W hW => H25.out (some ⟨g1, 0, none⟩) (some ⟨g9, 0, none⟩) n d1 (m + 1) c9 ms (fs ++ [f]) W (HSX.out.kept hW))
      rw [hE2] at HC2
      have HE2 := Lib.hid hE2
      clear hE1 hE2
      go_wp2_with fail
      refine HC1.out.mono ?_
      rintro e w2 ⟨rfl, hk2⟩
      have K2 := Lib.hid hk2
      clear hk2 a0 a1 la
      by_cases hE0 : E1 = 0
      rotate_left
      · have h1 : (E1 != 0) = true := by simpa using hE0
        go_wp2_with fail
        refine (HMK.out _ (HKX.out.trans K2.out)).mono ?_
        rintro e w3 ⟨rfl, hk3⟩
        have K3 := Lib.hid (K0.out.trans ((HKX.out.trans K2.out).trans hk3))
        clear hk3
        go_wp2_with fail
        go_ret
        exact ⟨rfl, K3.out⟩
      subst hE0
      have b0 := (HRX.out.kept K2.out 0 _ rfl).1
      have b1 := (HRX.out.kept K2.out 1 _ rfl).1
      have lb := cell_lt b0
      go_wp2_with fail
      refine (HC2.out _ K2.out).mono ?_
      rintro e w3 ⟨rfl, hk3⟩
      have K3 := Lib.hid (K2.out.trans hk3)
      clear hk3 b0 b1 lb
      by_cases hE0 : E2 = 0
      rotate_left
      · have h1 : (E2 != 0) = true := by simpa using hE0
        go_wp2_with fail
        refine (HMK.out _ (HKX.out.trans K3.out)).mono ?_
        rintro e w4 ⟨rfl, hk4⟩
        have K4 := Lib.hid (K0.out.trans ((HKX.out.trans K3.out).trans hk4))
        clear hk4
        go_wp2_with fail
        go_ret
        exact ⟨rfl, K4.out⟩
      subst hE0
      go_wp2_with fail
      go_loopw [14, 15, 16, 17, 18] (fun o _ _ _ _ wr => ∃ k : Nat, k ≤ 40 ∧ o = .int .i64 ((k : Int) + 1) ∧ Kept Wx wr) (fun o _ _ _ _ _ => 41 - (intOf o).toNat)
      case atStart => exact ⟨0, by omega, by first | rfl | go_num, K3.out⟩
      case round =>
        obtain ⟨k, hk, rfl, hkr⟩ := hrel
        have HKR := Lib.hid hkr
        clear hkr
        by_cases hlt : k < 40
        · have hk40 : ((k : Int) + 1) ≤ 40 := by omega
          obtain ⟨EE, hEE⟩ : ∃ E, ftE ms fs day s ((k : Int) + 1) = E := ⟨_, rfl⟩
          have hEE2 : ftE ms (fs ++ [f]) day s ((k : Int) + 1) = EE := by rw [← hEE]; unfold ftE; rw [HE1.out, HE2.out]
          obtain ⟨f1, hf1⟩ : ∃ b, ftb ms fs day s ((k : Int) + 1) = b := ⟨_, rfl⟩
          obtain ⟨f2, hf2⟩ : ∃ b, ftb ms (fs ++ [f]) day s ((k : Int) + 1) = b := ⟨_, rfl⟩
          have hff : f1 = true → f2 = true := fun h => by
            rw [← hf2]
            rw [← hf1] at h
            exact ftb_more HMR.out (hEE2.trans hEE.symm) h
          have HF1 := Lib.hid ((H28.out A B n c m d ms fs ((k : Int) + 1) wr (HS.out.kept (HKX.out.trans HKR.out))).mono fun e w' h => FtP.sum h)
          rw [hf1, hEE] at HF1
          have HF2 := Lib.hid (fun W hW => (H28.out (some ⟨g1, 0, none⟩) (some ⟨g9, 0, none⟩) n d1 (m + 1) c9 ms (fs ++ [f]) ((k : Int) + 1) W (HSX.out.kept hW)).mono fun e w' h => FtP.sum h)
          rw [hf2, hEE2] at HF2
          have a0 := (RA.out.kept (HKX.out.trans HKR.out) 0 _ rfl).1
          have a1 := (RA.out.kept (HKX.out.trans HKR.out) 1 _ rfl).1
          have la := cell_lt a0
          have s0 := (show wr.cell? ⟨w.heap.size + 1, 0, none⟩ = some (.int .u8 s.s0) from (RB.out.kept (HKX.out.trans HKR.out) 0 _ rfl).1)
          have s1 := (show wr.cell? ⟨w.heap.size + 1, 1, none⟩ = some (.int .u8 s.s1) from (RB.out.kept (HKX.out.trans HKR.out) 1 _ rfl).1)
          have s2 := (show wr.cell? ⟨w.heap.size + 1, 2, none⟩ = some (.int .u8 s.s2) from (RB.out.kept (HKX.out.trans HKR.out) 2 _ rfl).1)
          have s3 := (show wr.cell? ⟨w.heap.size + 1, 3, none⟩ = some (.int .u8 s.s3) from (RB.out.kept (HKX.out.trans HKR.out) 3 _ rfl).1)
          have s4 := (show wr.cell? ⟨w.heap.size + 1, 4, none⟩ = some (.int .u8 s.s4) from (RB.out.kept (HKX.out.trans HKR.out) 4 _ rfl).1)
          have s5 := (show wr.cell? ⟨w.heap.size + 1, 5, none⟩ = some (.int .u8 s.s5) from (RB.out.kept (HKX.out.trans HKR.out) 5 _ rfl).1)
          have ls := cell_lt s0
          clear hf1 hf2 hEE hEE2
          go_wp2_with fail
          refine HF1.out.mono ?_
          rintro e w4 ⟨rfl, hk4⟩
          have K4 := Lib.hid (HKR.out.trans hk4)
          clear hk4 a0 a1 la s0 s1 s2 s3 s4 s5 ls
          have b0 := (HRX.out.kept K4.out 0 _ rfl).1
          have b1 := (HRX.out.kept K4.out 1 _ rfl).1
          have lb := cell_lt b0
          have s0 := (show w4.cell? ⟨w.heap.size + 1, 0, none⟩ = some (.int .u8 s.s0) from (RB.out.kept (HKX.out.trans K4.out) 0 _ rfl).1)
          have s1 := (show w4.cell? ⟨w.heap.size + 1, 1, none⟩ = some (.int .u8 s.s1) from (RB.out.kept (HKX.out.trans K4.out) 1 _ rfl).1)
          have s2 := (show w4.cell? ⟨w.heap.size + 1, 2, none⟩ = some (.int .u8 s.s2) from (RB.out.kept (HKX.out.trans K4.out) 2 _ rfl).1)
          have s3 := (show w4.cell? ⟨w.heap.size + 1, 3, none⟩ = some (.int .u8 s.s3) from (RB.out.kept (HKX.out.trans K4.out) 3 _ rfl).1)
          have s4 := (show w4.cell? ⟨w.heap.size + 1, 4, none⟩ = some (.int .u8 s.s4) from (RB.out.kept (HKX.out.trans K4.out) 4 _ rfl).1)
          have s5 := (show w4.cell? ⟨w.heap.size + 1, 5, none⟩ = some (.int .u8 s.s5) from (RB.out.kept (HKX.out.trans K4.out) 5 _ rfl).1)
          have ls := cell_lt s0
          go_wp2_with fail
          refine (HF2.out _ K4.out).mono ?_
          rintro e w5 ⟨rfl, hk5⟩
          have K5 := Lib.hid (K4.out.trans hk5)
          clear hk5 b0 b1 lb s0 s1 s2 s3 s4 s5 ls
          have q : (EE != EE) = false := by simp
          cases f1 with
          | false =>
            go_wp2_with fail
            go_roundw
            case rel => exact ⟨k + 1, by omega, by go_num, K5.out⟩
            case measure => simp [intOf]; omega
          | true =>
            obtain rfl : f2 = true := hff rfl
            go_wp2_with fail
            go_roundw
            case rel => exact ⟨k + 1, by omega, by go_num, K5.out⟩
            case measure => simp [intOf]; omega
        · obtain rfl : k = 40 := by omega
          have a0 := (RA.out.kept (HKX.out.trans HKR.out) 0 _ rfl).1
          have a1 := (RA.out.kept (HKX.out.trans HKR.out) 1 _ rfl).1
          have la := cell_lt a0
          have HM1 := Lib.hid (H37.out A B n c m d ms fs wr (HS.out.kept (HKX.out.trans HKR.out)))
          obtain ⟨EI, hEI⟩ : ∃ E, inE ms fs day = E := ⟨_, rfl⟩
          have hEI2 : inE ms (fs ++ [f]) day = EI := by rw [← hEI]; unfold inE; rw [HE1.out, HE2.out]
          have HI1 := Lib.hid hEI
          have HI2 := Lib.hid hEI2
          clear hEI hEI2
          go_wp2_with fail
          refine HM1.out.mono ?_
          rintro e w6 ⟨h6, hk6⟩
          have K6 := Lib.hid (HKR.out.trans hk6)
          clear hk6 a0 a1 la
          have b0 := (HRX.out.kept K6.out 0 _ rfl).1
          have b1 := (HRX.out.kept K6.out 1 _ rfl).1
          have lb := cell_lt b0
          have HM2 := Lib.hid (H37.out (some ⟨g1, 0, none⟩) (some ⟨g9, 0, none⟩) n d1 (m + 1) c9 ms (fs ++ [f]) w6 (HSX.out.kept K6.out))
          rcases h6 with ⟨hne, rfl⟩ | ⟨h0, l, v, rfl, hp, hs, ho⟩
          · rw [HI1.out] at hne
            rw [HI1.out]
            have q : (EI != EI) = false := by simp
            have HNE := Lib.hid hne
            clear hne
            go_wp2_with fail
            refine HM2.out.mono ?_
            rintro e w7 ⟨⟨_, rfl⟩ | ⟨h0, _⟩, hk7⟩
            rotate_left
            · exact absurd (HI2.out.symm.trans h0) HNE.out
            rw [HI2.out]
            have K7 := Lib.hid (K6.out.trans hk7)
            clear hk7 b0 b1 lb
            go_wp2_with fail
            go_loopw [23] (fun i wr => i = .int .i64 0 ∧ wr = w7) (fun _ _ => 0)
            case atStart => exact ⟨by first | rfl | go_num, rfl⟩
            case round =>
              obtain ⟨rfl, rfl⟩ := hrel
              go_wp2_with fail
              refine (HMK.out _ (HKX.out.trans K7.out)).mono ?_
              rintro e w8 ⟨rfl, hk8⟩
              have K8 := Lib.hid (K0.out.trans ((HKX.out.trans K7.out).trans hk8))
              clear hk8
              go_wp2_with fail
              go_ret
              exact ⟨rfl, K8.out⟩
          · have HP := Lib.hid hp
            have HSS := Lib.hid hs
            obtain ⟨A5, c5, rfl, hsl⟩ := own_slA (enc := prC) (ok := fun _ => True) (fun _ => rfl) ho rfl (fun _ _ => trivial)
            have HSL := Lib.hid hsl
            have hm5 := hsl.2.1
            have hm6 := hsl.2.2.1
            obtain ⟨M, hM⟩ : ∃ M, (misL fs l).length = M := ⟨_, rfl⟩
            rw [hM] at HSL hm5 ⊢
            have HM := Lib.hid hM
            rw [HI1.out] at h0
            subst h0
            clear hp hs ho hsl hM
            go_wp2_with fail
            refine HM2.out.mono ?_
            rintro e w7 ⟨⟨hne, _⟩ | ⟨_, l', v', rfl, hp', hs', ho'⟩, hk7⟩
            · exact absurd HI2.out hne
            obtain ⟨A7, c7, rfl, hsl7⟩ := own_slA (enc := prC) (ok := fun _ => True) (fun _ => rfl) ho' rfl (fun _ _ => trivial)
            have HSL7 := Lib.hid hsl7
            have HIN : RowKit.Hid (∀ z, z ∈ misL fs l → decide (z ∈ misL (fs ++ [f]) l') = true) := Lib.hid (fun z hz => decide_eq_true (mis_more HMR.out HE1.out HE2.out HP.out HSS.out hp' hs' hz))
            have HSL6 := Lib.hid (HSL.out.kept hk7)
            have K7 := Lib.hid (K6.out.trans hk7)
            obtain ⟨M7, hM7⟩ : ∃ M, (misL (fs ++ [f]) l').length = M := ⟨_, rfl⟩
            rw [hM7] at HSL7 ⊢
            clear hk7 b0 b1 lb hp' hs' ho' hsl7 hM7
            go_wp2_with fail
            go_loopw [23] (fun i wr => ∃ k : Nat, k ≤ M ∧ i = .int .i64 k ∧ Kept w7 wr) (fun i _ => M - (intOf i).toNat)
            case atStart => exact ⟨0, by omega, by first | rfl | go_num, Kept.refl _⟩
            case round =>
              obtain ⟨k, hk, rfl, hkr⟩ := hrel
              have HKQ := Lib.hid hkr
              clear hkr
              by_cases hlt2 : k < M
              · obtain ⟨z, hz⟩ : ∃ z, (misL fs l)[k]? = some z := ⟨_, List.getElem?_eq_getElem (by rw [HM.out]; exact hlt2)⟩
                obtain ⟨b, off, hA5, ht⟩ := (HSL6.out.kept HKQ.out).2.2.2.2 (by omega)
                subst hA5
                have c0 := ht k z hz 0 _ rfl
                have c1 := ht k z hz 1 _ rfl
                rw [Nat.add_zero] at c0
                have lc := cell_lt c0
                have H1 := Lib.hid (H69.out A7 M7 c7 (misL (fs ++ [f]) l') z wr (HSL7.out.kept HKQ.out))
                rw [HIN.out z (List.mem_of_getElem? hz)] at H1
                have hi0 : (0 : Int) ≤ (k : Int) := by omega
                have hi1 : (k : Int) < (M : Int) := by omega
                clear ht hz
                go_wp2_with fail
                refine H1.out.mono ?_
                rintro e w8 ⟨rfl, hk8⟩
                have K8 := Lib.hid (HKQ.out.trans hk8)
                clear hk8
                go_wp2_with fail
                go_roundw
                case rel => exact ⟨k + 1, by omega, by go_num, K8.out⟩
                case measure => simp [intOf]; omega
              · obtain rfl : k = M := by omega
                go_wp2_with fail
                refine (HMK.out _ (HKX.out.trans (K7.out.trans HKQ.out))).mono ?_
                rintro e w8 ⟨rfl, hk8⟩
                have K8 := Lib.hid (K0.out.trans ((HKX.out.trans (K7.out.trans HKQ.out)).trans hk8))
                clear hk8
                go_wp2_with fail
                go_ret
                exact ⟨rfl, K8.out⟩
    | false =>
      have y0 := (HRB.out 0 _ rfl).1
      have y1 := (HRB.out 0 _ rfl).2
      have ly := cell_lt y0
      have e0 := (show wc.cell? ⟨w.heap.size + 1 + 1, 0, none⟩ = _ from (RC.out.kept HKC.out 0 _ rfl).1)
      have e1 := (show wc.cell? ⟨w.heap.size + 1 + 1, 1, none⟩ = _ from (RC.out.kept HKC.out 1 _ rfl).1)
      have e2 := (show wc.cell? ⟨w.heap.size + 1 + 1, 2, none⟩ = _ from (RC.out.kept HKC.out 2 _ rfl).1)
      have e3 := (show wc.cell? ⟨w.heap.size + 1 + 1, 3, none⟩ = _ from (RC.out.kept HKC.out 3 _ rfl).1)
      have e4 := (show wc.cell? ⟨w.heap.size + 1 + 1, 4, none⟩ = _ from (RC.out.kept HKC.out 4 _ rfl).1)
      have e5 := (show wc.cell? ⟨w.heap.size + 1 + 1, 5, none⟩ = _ from (RC.out.kept HKC.out 5 _ rfl).1)
      have e6 := (show wc.cell? ⟨w.heap.size + 1 + 1, 6, none⟩ = _ from (RC.out.kept HKC.out 6 _ rfl).1)
      have e7 := (show wc.cell? ⟨w.heap.size + 1 + 1, 7, none⟩ = _ from (RC.out.kept HKC.out 7 _ rfl).1)
      have e8 := (show wc.cell? ⟨w.heap.size + 1 + 1, 8, none⟩ = _ from (RC.out.kept HKC.out 8 _ rfl).1)
      have le := cell_lt e0
      obtain ⟨Wc, hWc⟩ : ∃ Wc, Wc = wc := ⟨_, rfl⟩
      have HNW := Lib.hid (news_of (W := wc) (cs := mkC x) (t := 32) (m := wc.heap.size) rfl)
      have HV9 : RowKit.Hid (∀ z ∈ mkC x, z.oneCell' = true) := Lib.hid (fun z hz => mkC_one (ms := [x]) z (by simpa using hz))
      have HA3 : RowKit.Hid (n + 1 ≤ maxLen) := Lib.hid (by unfold maxLen; omega)
      have HA4 : RowKit.Hid ((n + 1) * 32 ≤ 140737488355328) := Lib.hid (by omega)
      have HB9 : RowKit.Hid (W0.heap.size ≤ (wc.alloc (.cells (mkC x).toArray 32)).heap.size) := Lib.hid (by have := HKC.out.size; simp; omega)
      clear hWc
      go_upto_region 7 with (first
        | (at_builtin; refine wpList_append_lies _ rfl (.tmp 52) (.tmp 54) 22 rfl W0.heap.size 32 i1 _ 9 32 Tryz.underlying22 hi1 hz1a hz1b hz1c rfl (by decide) _ n _ rfl (own_kept HO1.out ((Kept.refl _).alloc _)) ⟨wc.heap.size, 0, none⟩ 1 1 (mkC x) rfl rfl HNW.out HV9.out (by decide) HA3.out HA4.out HB9.out _ rfl ?_; intro g9 c9 w9 hown9 hgrow9 hat9 hlt9
           have HO9 := Lib.hid hown9
           have HRB9 := Lib.hid (rowC_grown (HRB.out.kept ((Kept.refl _).alloc _)) hgrow9 (fun e => by injection e with e; exact HD1.out e))
           have HOO := Lib.hid (own_far (own_kept HO2.out ((Kept.refl _).alloc _)) hgrow9 (fun q hq e => by injection hq with hq; injection e with e; exact HD12.out (e.trans hq.symm)))
           have HK9 := Lib.hid ((HKC.out.alloc _).grown hgrow9 (fun q hq => by injection hq with hq; rw [← hq]; exact (HO1.out.lt _ rfl).1))
           have HD9 : RowKit.Hid (g9 ≠ g) := Lib.hid (by
             rcases hat9 with h | h
             · injection h with h
               exact fun e => HD1.out (h.trans e)
             · have := cell_lt y0
               simp at h
               omega)
           have y9 := (HRB9.out 0 _ rfl).1
           have z9 := (HRB9.out 0 _ rfl).2
           have l9 := cell_lt y9
           clear hown9 hgrow9 hat9 hlt9)
        | fail)
      obtain ⟨Wx, hWx⟩ : ∃ Wx, Wx = w9.setCell ⟨g, 0, none⟩ (.slice (some ⟨g9, 0, none⟩) (n + 1) c9) := ⟨_, rfl⟩
      rw [← hWx]
      have HKX : RowKit.Hid (Kept W0 Wx) := Lib.hid (by rw [hWx]; exact HK9.out.setCell (p := ⟨g, 0, none⟩) HGE.out _)
      have HRX : RowKit.Hid (RowC Wx g [.slice (some ⟨g9, 0, none⟩) (n + 1) c9, .slice (some ⟨g2, 0, none⟩) m d2]) := Lib.hid (by rw [hWx]; exact HRB9.out.put (j := 0) (by simp) _)
      have o9 := ownsRow_setCell_other HO9.out (a := ⟨g, 0, none⟩) (fun e => by injection e with e; exact HD9.out e) (.slice (some ⟨g9, 0, none⟩) (n + 1) c9)
      have o8 := ownsRow_setCell_other HOO.out (a := ⟨g, 0, none⟩) (fun e => by injection e with e; exact HD2.out e) (.slice (some ⟨g9, 0, none⟩) (n + 1) c9)
      rw [← hWx] at o9 o8
      have hfl : ms.flatMap mkC ++ mkC x = (ms ++ [x]).flatMap mkC := by rw [List.flatMap_append, List.flatMap_singleton]
      rw [hfl] at o9
      have s9 := own_slB (enc := mkC) (ok := Mk.ok) (fun _ => rfl) o9 (by rw [List.length_append, HMN.out]; rfl) (fun z hz => by
        rcases List.mem_append.1 hz with h | h
        · exact HMO.out z h
        · rw [List.mem_singleton] at h
          rw [h]
          exact HXO.out)
      have s8 := own_slB (enc := fdC) (ok := Fd.ok) (fun _ => rfl) o8 HFN.out HFO.out
      have HSX : RowKit.Hid (SmA Wx (some ⟨g9, 0, none⟩) (n + 1) c9 (ms ++ [x]) (some ⟨g2, 0, none⟩) m d2 fs) := Lib.hid ⟨s9, s8⟩
      have HMR : RowKit.Hid (MoreR ms fs (ms ++ [x]) fs) := Lib.hid (MoreR.mark ms fs x)
      clear hWx o9 o8 hfl s9 s8 y0 y1 ly le y9 z9 l9 e0 e1 e2 e3 e4 e5 e6 e7 e8
      have a0 := (RA.out.kept HKX.out 0 _ rfl).1
      have a1 := (RA.out.kept HKX.out 1 _ rfl).1
      have la := cell_lt a0
      obtain ⟨E1, hE1⟩ : ∃ E, smE ms fs = E := ⟨_, rfl⟩
      have HC1 := Lib.hid (H25.out A B n c m d ms fs Wx (HS.out.kept HKX.out))
      rw [hE1] at HC1
      have HE1 := Lib.hid hE1
      obtain ⟨E2, hE2⟩ : ∃ E, smE (ms ++ [x]) fs = E := ⟨_, rfl⟩
      have HC2 := Lib.hid (fun W hW => H25.out (some ⟨g9, 0, none⟩) (some ⟨g2, 0, none⟩) (n + 1) c9 m d2 (ms ++ [x]) fs W (HSX.out.kept hW))
      rw [hE2] at HC2
      have HE2 := Lib.hid hE2
      clear hE1 hE2
      go_wp2_with fail
      refine HC1.out.mono ?_
      rintro e w2 ⟨rfl, hk2⟩
      have K2 := Lib.hid hk2
      clear hk2 a0 a1 la
      by_cases hE0 : E1 = 0
      rotate_left
      · have h1 : (E1 != 0) = true := by simpa using hE0
        go_wp2_with fail
        refine (HMK.out _ (HKX.out.trans K2.out)).mono ?_
        rintro e w3 ⟨rfl, hk3⟩
        have K3 := Lib.hid (K0.out.trans ((HKX.out.trans K2.out).trans hk3))
        clear hk3
        go_wp2_with fail
        go_ret
        exact ⟨rfl, K3.out⟩
      subst hE0
      have b0 := (HRX.out.kept K2.out 0 _ rfl).1
      have b1 := (HRX.out.kept K2.out 1 _ rfl).1
      have lb := cell_lt b0
      go_wp2_with fail
      refine (HC2.out _ K2.out).mono ?_
      rintro e w3 ⟨rfl, hk3⟩
      have K3 := Lib.hid (K2.out.trans hk3)
      clear hk3 b0 b1 lb
      by_cases hE0 : E2 = 0
      rotate_left
      · have h1 : (E2 != 0) = true := by simpa using hE0
        go_wp2_with fail
        refine (HMK.out _ (HKX.out.trans K3.out)).mono ?_
        rintro e w4 ⟨rfl, hk4⟩
        have K4 := Lib.hid (K0.out.trans ((HKX.out.trans K3.out).trans hk4))
        clear hk4
        go_wp2_with fail
        go_ret
        exact ⟨rfl, K4.out⟩
      subst hE0
      go_wp2_with fail
      go_loopw [14, 15, 16, 17, 18] (fun o _ _ _ _ wr => ∃ k : Nat, k ≤ 40 ∧ o = .int .i64 ((k : Int) + 1) ∧ Kept Wx wr) (fun o _ _ _ _ _ => 41 - (intOf o).toNat)
      case atStart => exact ⟨0, by omega, by first | rfl | go_num, K3.out⟩
      case round =>
        obtain ⟨k, hk, rfl, hkr⟩ := hrel
        have HKR := Lib.hid hkr
        clear hkr
        by_cases hlt : k < 40
        · have hk40 : ((k : Int) + 1) ≤ 40 := by omega
          obtain ⟨EE, hEE⟩ : ∃ E, ftE ms fs day s ((k : Int) + 1) = E := ⟨_, rfl⟩
          have hEE2 : ftE (ms ++ [x]) fs day s ((k : Int) + 1) = EE := by rw [← hEE]; unfold ftE; rw [HE1.out, HE2.out]
          obtain ⟨f1, hf1⟩ : ∃ b, ftb ms fs day s ((k : Int) + 1) = b := ⟨_, rfl⟩
          obtain ⟨f2, hf2⟩ : ∃ b, ftb (ms ++ [x]) fs day s ((k : Int) + 1) = b := ⟨_, rfl⟩
          have hff : f1 = true → f2 = true := fun h => by
            rw [← hf2]
            rw [← hf1] at h
            exact ftb_more HMR.out (hEE2.trans hEE.symm) h
          have HF1 := Lib.hid ((H28.out A B n c m d ms fs ((k : Int) + 1) wr (HS.out.kept (HKX.out.trans HKR.out))).mono fun e w' h => FtP.sum h)
          rw [hf1, hEE] at HF1
          have HF2 := Lib.hid (fun W hW => (H28.out (some ⟨g9, 0, none⟩) (some ⟨g2, 0, none⟩) (n + 1) c9 m d2 (ms ++ [x]) fs ((k : Int) + 1) W (HSX.out.kept hW)).mono fun e w' h => FtP.sum h)
          rw [hf2, hEE2] at HF2
          have a0 := (RA.out.kept (HKX.out.trans HKR.out) 0 _ rfl).1
          have a1 := (RA.out.kept (HKX.out.trans HKR.out) 1 _ rfl).1
          have la := cell_lt a0
          have s0 := (show wr.cell? ⟨w.heap.size + 1, 0, none⟩ = some (.int .u8 s.s0) from (RB.out.kept (HKX.out.trans HKR.out) 0 _ rfl).1)
          have s1 := (show wr.cell? ⟨w.heap.size + 1, 1, none⟩ = some (.int .u8 s.s1) from (RB.out.kept (HKX.out.trans HKR.out) 1 _ rfl).1)
          have s2 := (show wr.cell? ⟨w.heap.size + 1, 2, none⟩ = some (.int .u8 s.s2) from (RB.out.kept (HKX.out.trans HKR.out) 2 _ rfl).1)
          have s3 := (show wr.cell? ⟨w.heap.size + 1, 3, none⟩ = some (.int .u8 s.s3) from (RB.out.kept (HKX.out.trans HKR.out) 3 _ rfl).1)
          have s4 := (show wr.cell? ⟨w.heap.size + 1, 4, none⟩ = some (.int .u8 s.s4) from (RB.out.kept (HKX.out.trans HKR.out) 4 _ rfl).1)
          have s5 := (show wr.cell? ⟨w.heap.size + 1, 5, none⟩ = some (.int .u8 s.s5) from (RB.out.kept (HKX.out.trans HKR.out) 5 _ rfl).1)
          have ls := cell_lt s0
          clear hf1 hf2 hEE hEE2
          go_wp2_with fail
          refine HF1.out.mono ?_
          rintro e w4 ⟨rfl, hk4⟩
          have K4 := Lib.hid (HKR.out.trans hk4)
          clear hk4 a0 a1 la s0 s1 s2 s3 s4 s5 ls
          have b0 := (HRX.out.kept K4.out 0 _ rfl).1
          have b1 := (HRX.out.kept K4.out 1 _ rfl).1
          have lb := cell_lt b0
          have s0 := (show w4.cell? ⟨w.heap.size + 1, 0, none⟩ = some (.int .u8 s.s0) from (RB.out.kept (HKX.out.trans K4.out) 0 _ rfl).1)
          have s1 := (show w4.cell? ⟨w.heap.size + 1, 1, none⟩ = some (.int .u8 s.s1) from (RB.out.kept (HKX.out.trans K4.out) 1 _ rfl).1)
          have s2 := (show w4.cell? ⟨w.heap.size + 1, 2, none⟩ = some (.int .u8 s.s2) from (RB.out.kept (HKX.out.trans K4.out) 2 _ rfl).1)
          have s3 := (show w4.cell? ⟨w.heap.size + 1, 3, none⟩ = some (.int .u8 s.s3) from (RB.out.kept (HKX.out.trans K4.out) 3 _ rfl).1)
          have s4 := (show w4.cell? ⟨w.heap.size + 1, 4, none⟩ = some (.int .u8 s.s4) from (RB.out.kept (HKX.out.trans K4.out) 4 _ rfl).1)
          have s5 := (show w4.cell? ⟨w.heap.size + 1, 5, none⟩ = some (.int .u8 s.s5) from (RB.out.kept (HKX.out.trans K4.out) 5 _ rfl).1)
          have ls := cell_lt s0
          go_wp2_with fail
          refine (HF2.out _ K4.out).mono ?_
          rintro e w5 ⟨rfl, hk5⟩
          have K5 := Lib.hid (K4.out.trans hk5)
          clear hk5 b0 b1 lb s0 s1 s2 s3 s4 s5 ls
          have q : (EE != EE) = false := by simp
          cases f1 with
          | false =>
            go_wp2_with fail
            go_roundw
            case rel => exact ⟨k + 1, by omega, by go_num, K5.out⟩
            case measure => simp [intOf]; omega
          | true =>
            obtain rfl : f2 = true := hff rfl
            go_wp2_with fail
            go_roundw
            case rel => exact ⟨k + 1, by omega, by go_num, K5.out⟩
            case measure => simp [intOf]; omega
        · obtain rfl : k = 40 := by omega
          have a0 := (RA.out.kept (HKX.out.trans HKR.out) 0 _ rfl).1
          have a1 := (RA.out.kept (HKX.out.trans HKR.out) 1 _ rfl).1
          have la := cell_lt a0
          have HM1 := Lib.hid (H37.out A B n c m d ms fs wr (HS.out.kept (HKX.out.trans HKR.out)))
          obtain ⟨EI, hEI⟩ : ∃ E, inE ms fs day = E := ⟨_, rfl⟩
          have hEI2 : inE (ms ++ [x]) fs day = EI := by rw [← hEI]; unfold inE; rw [HE1.out, HE2.out]
          have HI1 := Lib.hid hEI
          have HI2 := Lib.hid hEI2
          clear hEI hEI2
          go_wp2_with fail
          refine HM1.out.mono ?_
          rintro e w6 ⟨h6, hk6⟩
          have K6 := Lib.hid (HKR.out.trans hk6)
          clear hk6 a0 a1 la
          have b0 := (HRX.out.kept K6.out 0 _ rfl).1
          have b1 := (HRX.out.kept K6.out 1 _ rfl).1
          have lb := cell_lt b0
          have HM2 := Lib.hid (H37.out (some ⟨g9, 0, none⟩) (some ⟨g2, 0, none⟩) (n + 1) c9 m d2 (ms ++ [x]) fs w6 (HSX.out.kept K6.out))
          rcases h6 with ⟨hne, rfl⟩ | ⟨h0, l, v, rfl, hp, hs, ho⟩
          · rw [HI1.out] at hne
            rw [HI1.out]
            have q : (EI != EI) = false := by simp
            have HNE := Lib.hid hne
            clear hne
            go_wp2_with fail
            refine HM2.out.mono ?_
            rintro e w7 ⟨⟨_, rfl⟩ | ⟨h0, _⟩, hk7⟩
            rotate_left
            · exact absurd (HI2.out.symm.trans h0) HNE.out
            rw [HI2.out]
            have K7 := Lib.hid (K6.out.trans hk7)
            clear hk7 b0 b1 lb
            go_wp2_with fail
            go_loopw [23] (fun i wr => i = .int .i64 0 ∧ wr = w7) (fun _ _ => 0)
            case atStart => exact ⟨by first | rfl | go_num, rfl⟩
            case round =>
              obtain ⟨rfl, rfl⟩ := hrel
              go_wp2_with fail
              refine (HMK.out _ (HKX.out.trans K7.out)).mono ?_
              rintro e w8 ⟨rfl, hk8⟩
              have K8 := Lib.hid (K0.out.trans ((HKX.out.trans K7.out).trans hk8))
              clear hk8
              go_wp2_with fail
              go_ret
              exact ⟨rfl, K8.out⟩
          · have HP := Lib.hid hp
            have HSS := Lib.hid hs
            obtain ⟨A5, c5, rfl, hsl⟩ := own_slA (enc := prC) (ok := fun _ => True) (fun _ => rfl) ho rfl (fun _ _ => trivial)
            have HSL := Lib.hid hsl
            have hm5 := hsl.2.1
            have hm6 := hsl.2.2.1
            obtain ⟨M, hM⟩ : ∃ M, (misL fs l).length = M := ⟨_, rfl⟩
            rw [hM] at HSL hm5 ⊢
            have HM := Lib.hid hM
            rw [HI1.out] at h0
            subst h0
            clear hp hs ho hsl hM
            go_wp2_with fail
            refine HM2.out.mono ?_
            rintro e w7 ⟨⟨hne, _⟩ | ⟨_, l', v', rfl, hp', hs', ho'⟩, hk7⟩
            · exact absurd HI2.out hne
            obtain ⟨A7, c7, rfl, hsl7⟩ := own_slA (enc := prC) (ok := fun _ => True) (fun _ => rfl) ho' rfl (fun _ _ => trivial)
            have HSL7 := Lib.hid hsl7
            have HIN : RowKit.Hid (∀ z, z ∈ misL fs l → decide (z ∈ misL fs l') = true) := Lib.hid (fun z hz => decide_eq_true (mis_more HMR.out HE1.out HE2.out HP.out HSS.out hp' hs' hz))
            have HSL6 := Lib.hid (HSL.out.kept hk7)
            have K7 := Lib.hid (K6.out.trans hk7)
            obtain ⟨M7, hM7⟩ : ∃ M, (misL fs l').length = M := ⟨_, rfl⟩
            rw [hM7] at HSL7 ⊢
            clear hk7 b0 b1 lb hp' hs' ho' hsl7 hM7
            go_wp2_with fail
            go_loopw [23] (fun i wr => ∃ k : Nat, k ≤ M ∧ i = .int .i64 k ∧ Kept w7 wr) (fun i _ => M - (intOf i).toNat)
            case atStart => exact ⟨0, by omega, by first | rfl | go_num, Kept.refl _⟩
            case round =>
              obtain ⟨k, hk, rfl, hkr⟩ := hrel
              have HKQ := Lib.hid hkr
              clear hkr
              by_cases hlt2 : k < M
              · obtain ⟨z, hz⟩ : ∃ z, (misL fs l)[k]? = some z := ⟨_, List.getElem?_eq_getElem (by rw [HM.out]; exact hlt2)⟩
                obtain ⟨b, off, hA5, ht⟩ := (HSL6.out.kept HKQ.out).2.2.2.2 (by omega)
                subst hA5
                have c0 := ht k z hz 0 _ rfl
                have c1 := ht k z hz 1 _ rfl
                rw [Nat.add_zero] at c0
                have lc := cell_lt c0
                have H1 := Lib.hid (H69.out A7 M7 c7 (misL fs l') z wr (HSL7.out.kept HKQ.out))
                rw [HIN.out z (List.mem_of_getElem? hz)] at H1
                have hi0 : (0 : Int) ≤ (k : Int) := by omega
                have hi1 : (k : Int) < (M : Int) := by omega
                clear ht hz
                go_wp2_with fail
                refine H1.out.mono ?_
                rintro e w8 ⟨rfl, hk8⟩
                have K8 := Lib.hid (HKQ.out.trans hk8)
                clear hk8
                go_wp2_with fail
                go_roundw
                case rel => exact ⟨k + 1, by omega, by go_num, K8.out⟩
                case measure => simp [intOf]; omega
              · obtain rfl : k = M := by omega
                go_wp2_with fail
                refine (HMK.out _ (HKX.out.trans (K7.out.trans HKQ.out))).mono ?_
                rintro e w8 ⟨rfl, hk8⟩
                have K8 := Lib.hid (K0.out.trans ((HKX.out.trans (K7.out.trans HKQ.out)).trans hk8))
                clear hk8
                go_wp2_with fail
                go_ret
                exact ⟨rfl, K8.out⟩
end Go.Proofs.YtologmoanaccpaaGreatDoor
