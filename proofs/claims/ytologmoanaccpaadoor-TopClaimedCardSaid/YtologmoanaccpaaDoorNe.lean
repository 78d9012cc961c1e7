/-
  the law TopWorn
-/
import Derived.Test.YtologmoanaccpaaDoorNd
namespace Go.Proofs.YtologmoanaccpaaDoor
set_option linter.all false
open Go.RowKit Go.Shelf

theorem own_slice {w : World} {b : Nat} {e : TypeId} {s : Nat} {v : Value} {n : Nat} {ys : List Value} (h : w.ownsRow b e s v n ys) : ∃ A c, v = .slice A n c := by
  rcases h.2 with ⟨h1, h2⟩ | ⟨g, cap, cur, h1, _⟩
  · exact ⟨none, 0, by rw [h1, h2]⟩
  · exact ⟨_, cap, h1⟩
theorem worn_math {m d : Int} (hr : Tly.rateB m d = true) {N1 N2 cn : Nat} (h1 : N1 ≤ 30) (h2 : N2 ≤ 30) (h3 : N1 ≤ cn) (h4 : cn ≤ N1 + N2) :
    Tly.ocOk m d 1 0 1 (N1 : Int) (N2 : Int) = true ∧ (Tly.ocI m d 1 0 1 (N1 : Int) (N2 : Int)).2.2 = true ∧ (Tly.ocI m d 1 0 1 (N1 : Int) (N2 : Int)).1 ≤ (cn : Int) ∧ (cn : Int) ≤ (Tly.ocI m d 1 0 1 (N1 : Int) (N2 : Int)).2.1 := by
  obtain ⟨⟨hm0, hm1⟩, hd0, hd1⟩ := Tly.rateB_bd hr
  have hok : Tly.ocOk m d 1 0 1 (N1 : Int) (N2 : Int) = true := by
    unfold Tly.ocOk Tly.countB Tly.entryB
    rw [hr]
    simp [inB]
    omega
  have hl : Tly.leastOf d (N1 : Int) ≤ cn := by
    apply Nat.le_of_not_lt
    intro hlt
    have := Tly.firstN_lt (p := fun i => decide ((N1 : Int) ≤ Tly.hiI d i)) hlt
    have h := Tly.hiI_ge (d := d) (n := (cn : Int)) hd0 (by omega)
    simp at this
    omega
  have hb : Tly.belowOf m ((N1 : Int) + (N2 : Int)) ≤ 100000 - cn := by
    apply Nat.le_of_not_lt
    intro hlt
    have := Tly.firstN_lt (p := fun i => decide (Tly.loI m (100000 - (i : Nat)) ≤ ((N1 : Int) + (N2 : Int)))) hlt
    have h := Tly.loI_le (m := m) (n := (cn : Int)) hm0 (by omega)
    rw [show ((100000 : Int) - ((100000 - cn : Nat) : Int)) = (cn : Int) by omega] at this
    simp at this
    omega
  have hle : ((Tly.leastOf d (N1 : Int) : Nat) : Int) ≤ Tly.mostOf m ((N1 : Int) + (N2 : Int)) := by unfold Tly.mostOf; omega
  refine ⟨hok, ?_⟩
  unfold Tly.ocI
  rw [if_pos hok]
  unfold Tly.spI Tly.spL Tly.spH Tly.spS
  dsimp only
  rw [if_pos hle, if_pos hle]
  refine ⟨by simpa using hle, by omega, by unfold Tly.mostOf; omega⟩
def inC (x : Int) : List Value := [.int .i64 x]
theorem err_rate {m d : Int} (hr : Tly.rateB m d = false) (i dy s n x : Int) : Tly.ocOk m d i dy s n x = false := by unfold Tly.ocOk; rw [hr]; rfl

set_option maxRecDepth 100000 in
set_option maxHeartbeats 6400000 in
theorem worn_any (A B C D : Option Addr) (n c m d p q u v : Nat) (ms : List Mk) (fs : List Fd) (day owner rm rd : Int) (found : List Sg) (owners : List Int) (w : World) (hs : SmA w A n c ms B m d fs) (hfo : SlA sgV 6 Sg.ok w C p q found) (how : SlA inC 1 i64 w D u v owners) (hE : EnvT w) :
    Calls Tryd.prog 3 #[.agg #[.slice A n c, .slice B m d], .int .i64 day, .slice C p q, .slice D u v, .int .i64 owner, .agg #[.int .i64 rm, .int .i64 rd]] w fun e w' => e = .returned (.bool true) ∧ Kept w w' := by
  obtain ⟨W0, hW0⟩ : ∃ W0, W0 = (w.alloc (.cells #[.slice A n c, .slice B m d] 25)).alloc (.cells #[.int .i64 rm, .int .i64 rd] 29) := ⟨_, rfl⟩
  have K0 : RowKit.Hid (Kept w W0) := Lib.hid (by rw [hW0]; exact ((Kept.refl _).alloc _).alloc _)
  have R6 : RowKit.Hid (RowC W0 w.heap.size [.slice A n c, .slice B m d]) := Lib.hid (by rw [hW0]; exact (RowC.new w [.slice A n c, .slice B m d] 25).kept ((Kept.refl _).alloc _))
  have R11 : RowKit.Hid (RowC W0 (w.heap.size + 1) [.int .i64 rm, .int .i64 rd]) := Lib.hid (by rw [hW0]; have h := RowC.new (w.alloc (.cells #[.slice A n c, .slice B m d] 25)) [.int .i64 rm, .int .i64 rd] 29; rwa [World.size_alloc] at h)
  have HW := Lib.hid hW0
  have HS := Lib.hid (hs.kept K0.out)
  have HFO := Lib.hid (hfo.kept K0.out)
  have HOW := Lib.hid (how.kept K0.out)
  have HEV := Lib.hid (hE.kept K0.out)
  have hnc := hs.1.2.1
  have hcm := hs.1.2.2.1
  have hmd := hs.2.2.1
  have hdm := hs.2.2.2.1
  have hpq := hfo.2.1
  have hqm := hfo.2.2.1
  have huv := how.2.1
  have hvm := how.2.2.1
  have HTL : RowKit.Hid (∀ W, Calls Tryd.prog 5 #[] W fun e w' => e = .returned (.bool true) ∧ Kept W w') := Lib.hid told_any
  have a0 := (R6.out 0 _ rfl).1
  have a1 := (R6.out 1 _ rfl).1
  have la := cell_lt a0
  have lb := cell_lt (R11.out 0 _ rfl).1
  clear hW0 hs hfo how hE
  have HBAD : n ≤ 40 ∧ m ≤ 20 ∧ p ≤ 30 ∧ u = p ∨ 40 < n ∨ (n ≤ 40 ∧ 20 < m) ∨ (n ≤ 40 ∧ m ≤ 20 ∧ 30 < p) ∨ (n ≤ 40 ∧ m ≤ 20 ∧ p ≤ 30 ∧ u ≠ p) := by omega
  rcases HBAD with ⟨g1, g2, g3, g4⟩ | HBAD
  rotate_left
  · rcases HBAD with g1 | ⟨g1, g2⟩ | ⟨g1, g2, g3⟩ | ⟨g1, g2, g3, g4⟩
    · go_enter Tryd.func3, Tryd.ntmps3
      go_upto_region 1 with (fail)
      rw [← HW.out]
      go_wp2_with fail
      refine (HTL.out _).mono ?_
      rintro e w1 ⟨rfl, hk1⟩
      have HK1 := Lib.hid hk1
      clear hk1
      go_wp2
      go_ret
      exact ⟨rfl, K0.out.trans HK1.out⟩
    · go_enter Tryd.func3, Tryd.ntmps3
      go_upto_region 1 with (fail)
      rw [← HW.out]
      go_wp2_with fail
      refine (HTL.out _).mono ?_
      rintro e w1 ⟨rfl, hk1⟩
      have HK1 := Lib.hid hk1
      clear hk1
      go_wp2
      go_ret
      exact ⟨rfl, K0.out.trans HK1.out⟩
    · go_enter Tryd.func3, Tryd.ntmps3
      go_upto_region 1 with (fail)
      rw [← HW.out]
      go_wp2_with fail
      refine (HTL.out _).mono ?_
      rintro e w1 ⟨rfl, hk1⟩
      have HK1 := Lib.hid hk1
      clear hk1
      go_wp2
      go_ret
      exact ⟨rfl, K0.out.trans HK1.out⟩
    · have hnu : ((u : Int) != (p : Int)) = true := by simp; omega
      go_enter Tryd.func3, Tryd.ntmps3
      go_upto_region 1 with (fail)
      rw [← HW.out]
      go_wp2_with fail
      refine (HTL.out _).mono ?_
      rintro e w1 ⟨rfl, hk1⟩
      have HK1 := Lib.hid hk1
      clear hk1
      go_wp2
      go_ret
      exact ⟨rfl, K0.out.trans HK1.out⟩
  · subst g4
    go_enter Tryd.func3, Tryd.ntmps3
    go_upto_region 1 with (fail)
    rw [← HW.out]
    go_wp2_with fail
    refine (range_any A B C n c m d u q ms fs day owner found W0 HS.out HFO.out).mono ?_
    rintro e w1 ⟨⟨h0, rfl⟩ | ⟨h0, rfl⟩, hk1⟩
    · have HK1 := Lib.hid hk1
      have hne : (rgE ms fs day found owner != 0) = true := by simpa using h0
      generalize rgE ms fs day found owner = E at hne
      clear hk1 h0 a0 a1 la lb
      go_wp2_with fail
      refine (HTL.out _).mono ?_
      rintro e wt ⟨rfl, hkt⟩
      have HKT := Lib.hid hkt
      clear hkt
      go_wp2
      go_ret
      exact ⟨rfl, K0.out.trans ((HK1.out).trans HKT.out)⟩
    · have HK1 := Lib.hid hk1
      obtain ⟨e1, e2, e3, e4⟩ := fstE_four h0
      have hf := fn_ok e4
      have ho' := inB_iff.1 (errB_ok e3)
      obtain ⟨on, hon⟩ : ∃ on : Nat, owner = (on : Int) := ⟨owner.toNat, by omega⟩
      subst hon
      rw [Int.toNat_natCast]
      have HF2 := Lib.hid hf.2
      have HOE : RowKit.Hid (∀ s, sightB s = true → owE ms fs day s = 0) := Lib.hid (fun s h => by unfold owE; rw [e1, e2, h]; rfl)
      have HFE : RowKit.Hid (∀ s x, sightB s = true → ftE ms fs day s x = if inB x 1 40 = true then 0 else 1) := Lib.hid (fun s x h => by unfold ftE; rw [e1, e2, h]; cases inB x 1 40 <;> rfl)
      have HMB := Lib.hid (sm_ok e1).2.2.1
      obtain ⟨N1, hN1⟩ : ∃ N, cntN (sureB ms fs day on) found = N := ⟨_, rfl⟩
      obtain ⟨N2, hN2⟩ : ∃ N, cntN (perB ms fs day on) found = N := ⟨_, rfl⟩
      rw [hN1, hN2]
      have hfl : found.length = u := HFO.out.1
      have hb1 : N1 ≤ 30 := by have := cntN_le (sureB ms fs day on) found; omega
      have hb2 : N2 ≤ 30 := by have := cntN_le (perB ms fs day on) found; omega
      have HN1 := Lib.hid hN1
      have HN2 := Lib.hid hN2
      have hfl2 := Lib.hid hfl
      clear hk1 h0 e1 e2 e3 e4 hf ho' hN1 hN2 hfl a0 a1
      have la2 := HK1.out.size
      go_wp2_with fail
      go_loopw [16, 17] (fun t i wr => ∃ k cn : Nat, k ≤ u ∧ i = .int .i64 k ∧ t = .int .i64 cn ∧ cntN (sureB ms fs day on) (found.take k) ≤ cn ∧ cn ≤ cntN (sureB ms fs day on) (found.take k) + cntN (perB ms fs day on) (found.take k) ∧ Kept W0 wr) (fun _ i _ => u - (intOf i).toNat)
      case atStart => exact ⟨0, 0, by omega, by first | rfl | go_num, by first | rfl | go_num, by simp [cntN], by simp, HK1.out⟩
      case round =>
        obtain ⟨k, cn, hk, rfl, rfl, hc1, hc2, hkr⟩ := hrel
        have HKR := Lib.hid hkr
        clear hkr
        by_cases hlt : k < u
        · obtain ⟨s, hsk⟩ : ∃ s, found[k]? = some s := ⟨_, List.getElem?_eq_getElem (by rw [HFO.out.1]; exact hlt)⟩
          obtain ⟨x, hxk⟩ : ∃ x, owners[k]? = some x := ⟨_, List.getElem?_eq_getElem (by rw [HOW.out.1]; exact hlt)⟩
          have hsm := List.mem_of_getElem? hsk
          have HOK := Lib.hid (HFO.out.2.2.2.1 s hsm)
          have hss := HF2.out s hsm
          have hx64 := HOW.out.2.2.2.1 x (List.mem_of_getElem? hxk)
          obtain ⟨b, off, hA, ht⟩ := HFO.out.2.2.2.2 (by omega)
          obtain ⟨b2, off2, hA2, ht2⟩ := HOW.out.2.2.2.2 (by omega)
          subst hA hA2
          have CC : RowKit.Hid (∀ W, Kept W0 W → ∀ j y, (sgV s)[j]? = some y → W.cell? ⟨b, off + k * 6 + j, none⟩ = some y) := Lib.hid (fun W hW j y hy => (hW.cells _ _ (cell_lt (ht k s hsk j y hy))).trans (ht k s hsk j y hy))
          have CX : RowKit.Hid (∀ W, Kept W0 W → W.cell? ⟨b2, off2 + k, none⟩ = some (.int .i64 x)) := Lib.hid (fun W hW => by
            have h := ht2 k x hxk 0 _ rfl
            rw [Nat.mul_one, Nat.add_zero] at h
            exact (hW.cells _ _ (cell_lt h)).trans h)
          have hSl := ownN_lt fs s (frcL ms day) 0 (by omega) (fun y hy => by
            have := HMB.out y (List.mem_filter.1 hy).1
            unfold markB at this
            simp [inB] at this
            omega)
          obtain ⟨S, hSe⟩ : ∃ S, ownD ms fs day s = S := ⟨_, rfl⟩
          have hS64 : S < 2 ^ 64 := by
            have : ownN fs s (frcL ms day) = S := hSe
            unfold ownN at this
            omega
          obtain ⟨N, hN⟩ : ∃ N, (bitsK S 64).length = N := ⟨_, rfl⟩
          have hN0 : N = 0 ↔ S = 0 := by rw [← hN, List.length_eq_zero_iff]; exact bitsK_nil hS64
          obtain ⟨xb, hxb⟩ : ∃ t, inB x 1 40 = t := ⟨_, rfl⟩
          obtain ⟨tb, htb⟩ : ∃ t, S.testBit x.toNat = t := ⟨_, rfl⟩
          obtain ⟨fb, hfb⟩ : ∃ t, (xb && tb) = t := ⟨_, rfl⟩
          obtain ⟨e8, he8⟩ : ∃ t, (if xb = true then 0 else 1 : Int) = t := ⟨_, rfl⟩
          have HFB := Lib.hid hfb
          have HE8 := Lib.hid he8
          have H7 : RowKit.Hid (∀ W, Kept W0 W → Calls Tryd.prog 7 #[.agg #[.slice A n c, .slice B m d], .int .i64 day, .agg #[.int .u8 s.s0, .int .u8 s.s1, .int .u8 s.s2, .int .u8 s.s3, .int .u8 s.s4, .int .u8 s.s5]] W fun e w' => (∃ A' c', e = .returned (.tuple #[.slice A' N c', .int .i64 0])) ∧ Kept W w') := Lib.hid (fun W hW => by
            refine (ownersL_any A B n c m d ms fs day s W (HS.out.kept hW) HOK.out (HEV.out.kept hW)).mono ?_
            rintro e w' ⟨⟨v, ho, rfl⟩, hk⟩
            rw [if_pos (HOE.out s hss), hSe, hN] at ho
            obtain ⟨A', c', rfl⟩ := own_slice ho
            exact ⟨⟨A', c', by rw [HOE.out s hss]⟩, hk⟩)
          have H8 : RowKit.Hid (∀ W, Kept W0 W → Calls Tryd.prog 8 #[.agg #[.slice A n c, .slice B m d], .int .i64 day, .agg #[.int .u8 s.s0, .int .u8 s.s1, .int .u8 s.s2, .int .u8 s.s3, .int .u8 s.s4, .int .u8 s.s5], .int .i64 x] W fun e w' => e = .returned (.tuple #[.bool fb, .int .i64 e8]) ∧ Kept W w') := Lib.hid (fun W hW => by
            rw [← hfb, ← he8]
            refine (fitsM_any A B n c m d ms fs day x s W (HS.out.kept hW) HOK.out).mono ?_
            rintro e w' ⟨⟨h0, rfl⟩ | ⟨h0, rfl⟩, hk⟩
            · refine ⟨?_, hk⟩
              rw [HFE.out s x hss, hxb] at h0 ⊢
              cases xb
              · rfl
              · exact absurd rfl h0
            · refine ⟨?_, hk⟩
              rw [HFE.out s x hss, hxb] at h0
              rw [hSe, htb]
              cases xb
              · cases h0
              · rfl)
          obtain ⟨sb, hsb⟩ : ∃ t, ((S : Int) == (2 : Int) ^ on) = t := ⟨_, rfl⟩
          have HT1 : RowKit.Hid (cntN (sureB ms fs day on) (found.take (k + 1)) = if sb = true then cntN (sureB ms fs day on) (found.take k) + 1 else cntN (sureB ms fs day on) (found.take k)) := Lib.hid (by
            rw [take_snoc' hsk, cntN_snoc]
            have : sureB ms fs day on s = sb := by unfold sureB; rw [hSe]; exact hsb
            rw [this])
          have HT2 : RowKit.Hid (cntN (perB ms fs day on) (found.take (k + 1)) = if (!sb && S.testBit on) = true then cntN (perB ms fs day on) (found.take k) + 1 else cntN (perB ms fs day on) (found.take k)) := Lib.hid (by
            rw [take_snoc' hsk, cntN_snoc]
            have : perB ms fs day on s = (!sb && S.testBit on) := by unfold perB sureB; rw [hSe, hsb]
            rw [this])
          have hsS : sb = true → S = 2 ^ on := fun h => by
            rw [h] at hsb
            have h2 : (S : Int) = (2 : Int) ^ on := by simpa using hsb
            exact_mod_cast h2
          have hl1 := Nat.le_trans (cntN_le (sureB ms fs day on) (found.take k)) (List.length_take_le _ _)
          have hl2 := Nat.le_trans (cntN_le (perB ms fs day on) (found.take k)) (List.length_take_le _ _)
          generalize cntN (sureB ms fs day on) (found.take k) = M1 at hl1 hc1 hc2 HT1
          generalize cntN (perB ms fs day on) (found.take k) = M2 at hl2 hc2 HT2
          have hcn : cn ≤ 60 := by omega
          have HN0 := Lib.hid hN0
          have HTB := Lib.hid htb
          have HXB := Lib.hid hxb
          have HSS := Lib.hid hsS
          have hzr := HKR.out.size
          clear hfb he8 hsk hxk hsm hss ht ht2 hSl hSe hS64 hN hN0 hxb htb hsb hsS
          go_upto_region 10 with (fail)
          refine wp_region_held_drew (S := fun W' => W'.cell? ⟨w.heap.size, 0, none⟩ = some (.slice A n c) ∧ W'.cell? ⟨w.heap.size, 1, none⟩ = some (.slice B m d) ∧ W'.cell? ⟨b, off + k * 6, none⟩ = some (.int .u8 s.s0) ∧ W'.cell? ⟨b, off + k * 6 + 1, none⟩ = some (.int .u8 s.s1) ∧ W'.cell? ⟨b, off + k * 6 + 2, none⟩ = some (.int .u8 s.s2) ∧ W'.cell? ⟨b, off + k * 6 + 3, none⟩ = some (.int .u8 s.s3) ∧ W'.cell? ⟨b, off + k * 6 + 4, none⟩ = some (.int .u8 s.s4) ∧ W'.cell? ⟨b, off + k * 6 + 5, none⟩ = some (.int .u8 s.s5)) (by kernel_rfl) (⟨(R6.out.kept (HKR.out.drew) 0 _ rfl).1, (R6.out.kept (HKR.out.drew) 1 _ rfl).1, CC.out _ (HKR.out.drew) 0 _ rfl, CC.out _ (HKR.out.drew) 1 _ rfl, CC.out _ (HKR.out.drew) 2 _ rfl, CC.out _ (HKR.out.drew) 3 _ rfl, CC.out _ (HKR.out.drew) 4 _ rfl, CC.out _ (HKR.out.drew) 5 _ rfl⟩) (fun hHeld => ?_)
          refine take_at (i := 0) (d := some 66) (v := ?_) rfl rfl (by kernel_rfl) (by kernel_rfl) (by kernel_rfl) (fun _ _ _ h => h) (Or.inl ⟨by rfl, ?_⟩) hHeld ?_
          rotate_left
          · intro w hSw
            try dsimp only at hSw
            go_simp
            try (with_reducible rfl)
          try simp only [Act.put, List.setIfInBounds_toArray, List.set_cons_zero, List.set_cons_succ]
          refine take_at (i := 1) (d := some 67) (v := ?_) rfl rfl (by kernel_rfl) (by kernel_rfl) (by kernel_rfl) (fun _ _ _ h => h) (Or.inl ⟨by rfl, ?_⟩) hHeld ?_
          rotate_left
          · intro w hSw
            try dsimp only at hSw
            go_simp
            try (with_reducible rfl)
          try simp only [Act.put, List.setIfInBounds_toArray, List.set_cons_zero, List.set_cons_succ]
          refine take_at (i := 2) (d := some 68) (v := ?_) rfl rfl (by kernel_rfl) (by kernel_rfl) (by kernel_rfl) (fun _ _ _ h => h) (Or.inl ⟨by rfl, ?_⟩) hHeld ?_
          rotate_left
          · intro w hSw
            try dsimp only at hSw
            go_simp
            try (with_reducible rfl)
          try simp only [Act.put, List.setIfInBounds_toArray, List.set_cons_zero, List.set_cons_succ]
          refine take_at (i := 3) (d := some 69) (v := ?_) rfl rfl (by kernel_rfl) (by kernel_rfl) (by kernel_rfl) (fun _ _ _ h => h) (Or.inl ⟨by rfl, ?_⟩) hHeld ?_
          rotate_left
          · intro w hSw
            try dsimp only at hSw
            go_simp
            try (with_reducible rfl)
          try simp only [Act.put, List.setIfInBounds_toArray, List.set_cons_zero, List.set_cons_succ]
          refine take_at (i := 4) (d := some 70) (v := ?_) rfl rfl (by kernel_rfl) (by kernel_rfl) (by kernel_rfl) (fun _ _ _ h => h) (Or.inl ⟨by rfl, ?_⟩) hHeld ?_
          rotate_left
          · intro w hSw
            try dsimp only at hSw
            go_simp
            try (with_reducible rfl)
          try simp only [Act.put, List.setIfInBounds_toArray, List.set_cons_zero, List.set_cons_succ]
          refine take_at (i := 5) (d := some 71) (v := ?_) rfl rfl (by kernel_rfl) (by kernel_rfl) (by kernel_rfl) (fun _ _ _ h => h) (Or.inl ⟨by rfl, ?_⟩) hHeld ?_
          rotate_left
          · intro w hSw
            try dsimp only at hSw
            go_simp
            try (with_reducible rfl)
          try simp only [Act.put, List.setIfInBounds_toArray, List.set_cons_zero, List.set_cons_succ]
          refine wpAnyH_ready (rs := [6]) (by kernel_rfl) (by simp) ?_
          refine AllReadyH.cons rfl (fun K hK => ?_) AllReadyH.nil
          rw [if_pos (by rfl)]
          go_simp
          refine (H7.out _ (HKR.out.drew)).mono ?_
          rintro e w4 ⟨⟨A', c', rfl⟩, hk4⟩
          have K4 := Lib.hid ((HKR.out.drew).trans hk4)
          clear hk4
          go_wp2_with fail
          refine hK.out _ _ (⟨(R6.out.kept K4.out 0 _ rfl).1, (R6.out.kept K4.out 1 _ rfl).1, CC.out _ K4.out 0 _ rfl, CC.out _ K4.out 1 _ rfl, CC.out _ K4.out 2 _ rfl, CC.out _ K4.out 3 _ rfl, CC.out _ K4.out 4 _ rfl, CC.out _ K4.out 5 _ rfl⟩) (fun hHeld => ?_)
          clear hK K
          try simp only [Act.put, List.setIfInBounds_toArray, List.set_cons_zero, List.set_cons_succ]
          refine take_at (i := 7) (d := some 65) (v := ?_) rfl rfl (by kernel_rfl) (by kernel_rfl) (by kernel_rfl) (fun _ _ _ h => h) (Or.inl ⟨by rfl, ?_⟩) hHeld ?_
          rotate_left
          · intro w hSw
            try dsimp only at hSw
            go_simp
            try (with_reducible rfl)
          try simp only [Act.put, List.setIfInBounds_toArray, List.set_cons_zero, List.set_cons_succ]
          refine take_at (i := 8) (d := some 73) (v := ?_) rfl rfl (by kernel_rfl) (by kernel_rfl) (by kernel_rfl) (fun _ _ _ h => h) (Or.inl ⟨by rfl, ?_⟩) hHeld ?_
          rotate_left
          · intro w hSw
            try dsimp only at hSw
            go_simp
            try (with_reducible rfl)
          try simp only [Act.put, List.setIfInBounds_toArray, List.set_cons_zero, List.set_cons_succ]
          refine take_at (i := 9) (d := some 74) (v := ?_) rfl rfl (by kernel_rfl) (by kernel_rfl) (by kernel_rfl) (fun _ _ _ h => h) (Or.inl ⟨by rfl, ?_⟩) hHeld ?_
          rotate_left
          · intro w hSw
            try dsimp only at hSw
            go_simp
            try (with_reducible rfl)
          try simp only [Act.put, List.setIfInBounds_toArray, List.set_cons_zero, List.set_cons_succ]
          refine take_at (i := 10) (d := some 18) (v := ?_) rfl rfl (by kernel_rfl) (by kernel_rfl) (by kernel_rfl) (fun _ _ _ h => h) (Or.inl ⟨by rfl, ?_⟩) hHeld ?_
          rotate_left
          · intro w hSw
            try dsimp only at hSw
            go_simp
            try (with_reducible rfl)
          try simp only [Act.put, List.setIfInBounds_toArray, List.set_cons_zero, List.set_cons_succ]
          refine take_at (i := 11) (d := some 19) (v := ?_) rfl rfl (by kernel_rfl) (by kernel_rfl) (by kernel_rfl) (fun _ _ _ h => h) (Or.inl ⟨by rfl, ?_⟩) hHeld ?_
          rotate_left
          · intro w hSw
            try dsimp only at hSw
            go_simp
            try (with_reducible rfl)
          try simp only [Act.put, List.setIfInBounds_toArray, List.set_cons_zero, List.set_cons_succ]
          refine wpAnyH_done (by kernel_rfl) ?_ _
          go_upto_region 11 with (fail)
          refine wp_region_held_drew (S := fun W' => W'.cell? ⟨w.heap.size, 0, none⟩ = some (.slice A n c) ∧ W'.cell? ⟨w.heap.size, 1, none⟩ = some (.slice B m d) ∧ W'.cell? ⟨b, off + k * 6, none⟩ = some (.int .u8 s.s0) ∧ W'.cell? ⟨b, off + k * 6 + 1, none⟩ = some (.int .u8 s.s1) ∧ W'.cell? ⟨b, off + k * 6 + 2, none⟩ = some (.int .u8 s.s2) ∧ W'.cell? ⟨b, off + k * 6 + 3, none⟩ = some (.int .u8 s.s3) ∧ W'.cell? ⟨b, off + k * 6 + 4, none⟩ = some (.int .u8 s.s4) ∧ W'.cell? ⟨b, off + k * 6 + 5, none⟩ = some (.int .u8 s.s5) ∧ W'.cell? ⟨b2, off2 + k, none⟩ = some (.int .i64 x)) (by kernel_rfl) (⟨(R6.out.kept (K4.out.drew) 0 _ rfl).1, (R6.out.kept (K4.out.drew) 1 _ rfl).1, CC.out _ (K4.out.drew) 0 _ rfl, CC.out _ (K4.out.drew) 1 _ rfl, CC.out _ (K4.out.drew) 2 _ rfl, CC.out _ (K4.out.drew) 3 _ rfl, CC.out _ (K4.out.drew) 4 _ rfl, CC.out _ (K4.out.drew) 5 _ rfl, CX.out _ (K4.out.drew)⟩) (fun hHeld => ?_)
          refine take_at (i := 0) (d := some 76) (v := ?_) rfl rfl (by kernel_rfl) (by kernel_rfl) (by kernel_rfl) (fun _ _ _ h => h) (Or.inl ⟨by rfl, ?_⟩) hHeld ?_
          rotate_left
          · intro w hSw
            try dsimp only at hSw
            go_simp
            try (with_reducible rfl)
          try simp only [Act.put, List.setIfInBounds_toArray, List.set_cons_zero, List.set_cons_succ]
          refine take_at (i := 1) (d := some 77) (v := ?_) rfl rfl (by kernel_rfl) (by kernel_rfl) (by kernel_rfl) (fun _ _ _ h => h) (Or.inl ⟨by rfl, ?_⟩) hHeld ?_
          rotate_left
          · intro w hSw
            try dsimp only at hSw
            go_simp
            try (with_reducible rfl)
          try simp only [Act.put, List.setIfInBounds_toArray, List.set_cons_zero, List.set_cons_succ]
          refine take_at (i := 2) (d := some 78) (v := ?_) rfl rfl (by kernel_rfl) (by kernel_rfl) (by kernel_rfl) (fun _ _ _ h => h) (Or.inl ⟨by rfl, ?_⟩) hHeld ?_
          rotate_left
          · intro w hSw
            try dsimp only at hSw
            go_simp
            try (with_reducible rfl)
          try simp only [Act.put, List.setIfInBounds_toArray, List.set_cons_zero, List.set_cons_succ]
          refine take_at (i := 3) (d := some 79) (v := ?_) rfl rfl (by kernel_rfl) (by kernel_rfl) (by kernel_rfl) (fun _ _ _ h => h) (Or.inl ⟨by rfl, ?_⟩) hHeld ?_
          rotate_left
          · intro w hSw
            try dsimp only at hSw
            go_simp
            try (with_reducible rfl)
          try simp only [Act.put, List.setIfInBounds_toArray, List.set_cons_zero, List.set_cons_succ]
          refine take_at (i := 4) (d := some 80) (v := ?_) rfl rfl (by kernel_rfl) (by kernel_rfl) (by kernel_rfl) (fun _ _ _ h => h) (Or.inl ⟨by rfl, ?_⟩) hHeld ?_
          rotate_left
          · intro w hSw
            try dsimp only at hSw
            go_simp
            try (with_reducible rfl)
          try simp only [Act.put, List.setIfInBounds_toArray, List.set_cons_zero, List.set_cons_succ]
          refine take_at (i := 5) (d := some 81) (v := ?_) rfl rfl (by kernel_rfl) (by kernel_rfl) (by kernel_rfl) (fun _ _ _ h => h) (Or.inl ⟨by rfl, ?_⟩) hHeld ?_
          rotate_left
          · intro w hSw
            try dsimp only at hSw
            go_simp
            try (with_reducible rfl)
          try simp only [Act.put, List.setIfInBounds_toArray, List.set_cons_zero, List.set_cons_succ]
          refine take_at (i := 6) (d := some 82) (v := ?_) rfl rfl (by kernel_rfl) (by kernel_rfl) (by kernel_rfl) (fun _ _ _ h => h) (Or.inl ⟨by rfl, ?_⟩) hHeld ?_
          rotate_left
          · intro w hSw
            try dsimp only at hSw
            go_simp
            try (with_reducible rfl)
          try simp only [Act.put, List.setIfInBounds_toArray, List.set_cons_zero, List.set_cons_succ]
          refine take_at (i := 7) (d := some 83) (v := ?_) rfl rfl (by kernel_rfl) (by kernel_rfl) (by kernel_rfl) (fun _ _ _ h => h) (Or.inl ⟨by rfl, ?_⟩) hHeld ?_
          rotate_left
          · intro w hSw
            try dsimp only at hSw
            go_simp
            try (with_reducible rfl)
          try simp only [Act.put, List.setIfInBounds_toArray, List.set_cons_zero, List.set_cons_succ]
          refine take_at (i := 8) (d := some 84) (v := ?_) rfl rfl (by kernel_rfl) (by kernel_rfl) (by kernel_rfl) (fun _ _ _ h => h) (Or.inl ⟨by rfl, ?_⟩) hHeld ?_
          rotate_left
          · intro w hSw
            try dsimp only at hSw
            go_simp
            try (with_reducible rfl)
          try simp only [Act.put, List.setIfInBounds_toArray, List.set_cons_zero, List.set_cons_succ]
          refine take_at (i := 9) (d := some 85) (v := ?_) rfl rfl (by kernel_rfl) (by kernel_rfl) (by kernel_rfl) (fun _ _ _ h => h) (Or.inl ⟨by rfl, ?_⟩) hHeld ?_
          rotate_left
          · intro w hSw
            try dsimp only at hSw
            go_simp
            try (with_reducible rfl)
          try simp only [Act.put, List.setIfInBounds_toArray, List.set_cons_zero, List.set_cons_succ]
          refine wpAnyH_ready (rs := [10]) (by kernel_rfl) (by simp) ?_
          refine AllReadyH.cons rfl (fun K hK => ?_) AllReadyH.nil
          rw [if_pos (by rfl)]
          go_simp
          refine (H8.out _ (K4.out.drew)).mono ?_
          rintro e w5 ⟨rfl, hk5⟩
          have K5 := Lib.hid ((K4.out.drew).trans hk5)
          clear hk5
          go_wp2_with fail
          refine hK.out _ _ (⟨(R6.out.kept K5.out 0 _ rfl).1, (R6.out.kept K5.out 1 _ rfl).1, CC.out _ K5.out 0 _ rfl, CC.out _ K5.out 1 _ rfl, CC.out _ K5.out 2 _ rfl, CC.out _ K5.out 3 _ rfl, CC.out _ K5.out 4 _ rfl, CC.out _ K5.out 5 _ rfl, CX.out _ K5.out⟩) (fun hHeld => ?_)
          clear hK K
          try simp only [Act.put, List.setIfInBounds_toArray, List.set_cons_zero, List.set_cons_succ]
          refine take_at (i := 11) (d := some 75) (v := ?_) rfl rfl (by kernel_rfl) (by kernel_rfl) (by kernel_rfl) (fun _ _ _ h => h) (Or.inl ⟨by rfl, ?_⟩) hHeld ?_
          rotate_left
          · intro w hSw
            try dsimp only at hSw
            go_simp
            try (with_reducible rfl)
          try simp only [Act.put, List.setIfInBounds_toArray, List.set_cons_zero, List.set_cons_succ]
          refine take_at (i := 12) (d := some 87) (v := ?_) rfl rfl (by kernel_rfl) (by kernel_rfl) (by kernel_rfl) (fun _ _ _ h => h) (Or.inl ⟨by rfl, ?_⟩) hHeld ?_
          rotate_left
          · intro w hSw
            try dsimp only at hSw
            go_simp
            try (with_reducible rfl)
          try simp only [Act.put, List.setIfInBounds_toArray, List.set_cons_zero, List.set_cons_succ]
          refine take_at (i := 13) (d := some 88) (v := ?_) rfl rfl (by kernel_rfl) (by kernel_rfl) (by kernel_rfl) (fun _ _ _ h => h) (Or.inl ⟨by rfl, ?_⟩) hHeld ?_
          rotate_left
          · intro w hSw
            try dsimp only at hSw
            go_simp
            try (with_reducible rfl)
          try simp only [Act.put, List.setIfInBounds_toArray, List.set_cons_zero, List.set_cons_succ]
          refine take_at (i := 14) (d := some 20) (v := ?_) rfl rfl (by kernel_rfl) (by kernel_rfl) (by kernel_rfl) (fun _ _ _ h => h) (Or.inl ⟨by rfl, ?_⟩) hHeld ?_
          rotate_left
          · intro w hSw
            try dsimp only at hSw
            go_simp
            try (with_reducible rfl)
          try simp only [Act.put, List.setIfInBounds_toArray, List.set_cons_zero, List.set_cons_succ]
          refine take_at (i := 15) (d := some 21) (v := ?_) rfl rfl (by kernel_rfl) (by kernel_rfl) (by kernel_rfl) (fun _ _ _ h => h) (Or.inl ⟨by rfl, ?_⟩) hHeld ?_
          rotate_left
          · intro w hSw
            try dsimp only at hSw
            go_simp
            try (with_reducible rfl)
          try simp only [Act.put, List.setIfInBounds_toArray, List.set_cons_zero, List.set_cons_succ]
          refine wpAnyH_done (by kernel_rfl) ?_ _
          have cx := CX.out _ K5.out
          cases xb
          · obtain rfl : fb = false := HFB.out.symm
            obtain rfl : e8 = 1 := HE8.out.symm
            by_cases hx0 : x = 0
            · subst hx0
              by_cases hn0 : N = 0
              · subst hn0
                have hS0 := HN0.out.1 rfl
                have hsb0 : sb = false := by
                  cases sb
                  · rfl
                  · have h2 := HSS.out rfl
                    have := Nat.two_pow_pos on
                    omega
                have t1 := HT1.out
                have t2 := HT2.out
                rw [hsb0] at t1 t2
                simp only [Bool.false_eq_true, if_false] at t1
                have t3 : cntN (perB ms fs day on) (found.take (k + 1)) = M2 := by
                  rw [t2, hS0, Nat.zero_testBit]
                  rfl
                have T1 := Lib.hid t1
                have T3 := Lib.hid t3
                clear t1 t2 t3
                go_wp2_with fail
                go_roundw
                case rel => exact ⟨k + 1, cn, by omega, by go_num, rfl, by rw [T1.out]; exact hc1, by rw [T1.out, T3.out]; exact hc2, K5.out⟩
                case measure => simp [intOf]; omega
              · have hnn : ((N : Int) == 0) = false := by simp; exact hn0
                go_wp2_with fail
                refine (HTL.out _).mono ?_
                rintro e wt ⟨rfl, hkt⟩
                have HKT := Lib.hid hkt
                clear hkt
                go_wp2
                go_ret
                exact ⟨rfl, K0.out.trans ((K5.out).trans HKT.out)⟩
            · have hxx : (x == 0) = false := by simp; exact hx0
              by_cases hn0 : N = 0
              · subst hn0
                go_wp2_with fail
                refine (HTL.out _).mono ?_
                rintro e wt ⟨rfl, hkt⟩
                have HKT := Lib.hid hkt
                clear hkt
                go_wp2
                go_ret
                exact ⟨rfl, K0.out.trans ((K5.out).trans HKT.out)⟩
              · have hnn : ((N : Int) == 0) = false := by simp; exact hn0
                go_wp2_with fail
                refine (HTL.out _).mono ?_
                rintro e wt ⟨rfl, hkt⟩
                have HKT := Lib.hid hkt
                clear hkt
                go_wp2
                go_ret
                exact ⟨rfl, K0.out.trans ((K5.out).trans HKT.out)⟩
          · obtain rfl : fb = tb := HFB.out.symm
            obtain rfl : e8 = 0 := HE8.out.symm
            have hx1 := inB_iff.1 HXB.out
            have hxx : (x == 0) = false := by simp; omega
            by_cases hn0 : N = 0
            · subst hn0
              have hS0 := HN0.out.1 rfl
              obtain rfl : fb = false := by rw [← HTB.out, hS0, Nat.zero_testBit]
              go_wp2_with fail
              refine (HTL.out _).mono ?_
              rintro e wt ⟨rfl, hkt⟩
              have HKT := Lib.hid hkt
              clear hkt
              go_wp2
              go_ret
              exact ⟨rfl, K0.out.trans ((K5.out).trans HKT.out)⟩
            · have hnn : ((N : Int) == 0) = false := by simp; exact hn0
              cases fb
              · go_wp2_with fail
                refine (HTL.out _).mono ?_
                rintro e wt ⟨rfl, hkt⟩
                have HKT := Lib.hid hkt
                clear hkt
                go_wp2
                go_ret
                exact ⟨rfl, K0.out.trans ((K5.out).trans HKT.out)⟩
              · by_cases hxo : x = (on : Int)
                · subst hxo
                  have hbt : S.testBit on = true := by have := HTB.out; rwa [Int.toNat_natCast] at this
                  have T12 : RowKit.Hid (cntN (sureB ms fs day on) (found.take (k + 1)) ≤ cn + 1 ∧ cn + 1 ≤ cntN (sureB ms fs day on) (found.take (k + 1)) + cntN (perB ms fs day on) (found.take (k + 1))) := Lib.hid (by
                    have t1 := HT1.out
                    have t2 := HT2.out
                    rw [hbt] at t2
                    rw [t1, t2]
                    cases sb
                    · simp; omega
                    · simp; omega)
                  clear hbt
                  go_wp2_with fail
                  go_roundw
                  case rel => exact ⟨k + 1, cn + 1, by omega, by go_num, by go_num, T12.out.1, T12.out.2, K5.out⟩
                  case measure => simp [intOf]; omega
                · have hxn : (x == (on : Int)) = false := by simp; exact hxo
                  have hsb0 : sb = false := by
                    cases sb
                    · rfl
                    · have h2 := HSS.out rfl
                      have h3 := HTB.out
                      rw [h2, Nat.testBit_two_pow] at h3
                      simp at h3
                      omega
                  have T12 : RowKit.Hid (cntN (sureB ms fs day on) (found.take (k + 1)) ≤ cn ∧ cn ≤ cntN (sureB ms fs day on) (found.take (k + 1)) + cntN (perB ms fs day on) (found.take (k + 1))) := Lib.hid (by
                    have t1 := HT1.out
                    have t2 := HT2.out
                    rw [hsb0] at t1 t2
                    rw [t1, t2]
                    cases S.testBit on
                    · simp; omega
                    · simp; omega)
                  clear hsb0
                  go_wp2_with fail
                  go_roundw
                  case rel => exact ⟨k + 1, cn, by omega, by go_num, rfl, T12.out.1, T12.out.2, K5.out⟩
                  case measure => simp [intOf]; omega
        · obtain rfl : k = u := by omega
          rw [List.take_of_length_le (by rw [hfl2.out]; exact Nat.le_refl _), HN1.out] at hc1 hc2
          rw [HN2.out] at hc2
          have r0 := (R11.out.kept HKR.out 0 _ rfl).1
          have r1 := (R11.out.kept HKR.out 1 _ rfl).1
          have lr := cell_lt r0
          obtain ⟨rb, hrb⟩ : ∃ t, Tly.rateB rm rd = t := ⟨_, rfl⟩
          have HOC : RowKit.Hid (∀ W, Calls Tryd.prog 9 #[.agg #[.int .i64 rm, .int .i64 rd], .agg #[.int .i64 1, .int .i64 0, .int .i64 1, .int .i64 (N1 : Int), .int .i64 (N2 : Int)]] W fun e w' => ∃ lo hi so er, e = .returned (.tuple #[.agg #[.int .i64 lo, .int .i64 hi, .bool so], .int .i64 er]) ∧ (if rb = true then er = 0 ∧ so = true ∧ lo ≤ (cn : Int) ∧ (cn : Int) ≤ hi else er = 1) ∧ Kept W w') := Lib.hid (fun W => by
            refine (Tly.ofCount_any rm rd 1 0 1 (N1 : Int) (N2 : Int) W).mono ?_
            rintro e w' ⟨rfl, hk⟩
            refine ⟨_, _, _, _, rfl, ?_, hk⟩
            cases rb
            · rw [if_neg (by simp), err_rate hrb]; rfl
            · rw [if_pos rfl]
              obtain ⟨q1, q2, q3, q4⟩ := worn_math hrb hb1 hb2 hc1 hc2
              exact ⟨by rw [q1]; rfl, q2, q3, q4⟩)
          have HCR : RowKit.Hid (∀ W, Calls Tryd.prog 10 #[.agg #[.int .i64 rm, .int .i64 rd]] W fun e w' => e = .returned (.int .i64 (Tly.errI rb)) ∧ Kept W w') := Lib.hid (fun W => by rw [← hrb]; exact Tly.checkRate_any rm rd W)
          clear hrb
          go_wp2_with fail
          refine (HOC.out _).mono ?_
          rintro e w2 ⟨lo, hi, so, er, rfl, hres, hk2⟩
          have K2 := Lib.hid (HKR.out.trans hk2)
          have HRS := Lib.hid hres
          clear hk2 hres r0 r1 lr
          have K3 := Lib.hid (K2.out.alloc (.cells #[.int .i64 lo, .int .i64 hi, .bool so] 42))
          have r0 := (R11.out.kept K3.out 0 _ rfl).1
          have r1 := (R11.out.kept K3.out 1 _ rfl).1
          have lr := cell_lt r0
          have zz := K2.out.size
          have R5 := Lib.hid (RowC.new w2 [.int .i64 lo, .int .i64 hi, .bool so] 42)
          obtain ⟨w3, hw3⟩ : ∃ w3, w3 = w2.alloc (.cells #[.int .i64 lo, .int .i64 hi, .bool so] 42) := ⟨_, rfl⟩
          have HW3 := Lib.hid hw3
          go_wp2_with fail
          try rw [← hw3]
          refine (HCR.out _).mono ?_
          rintro e w4 ⟨rfl, hk4⟩
          rw [← hw3] at R5 K3
          have K4 := Lib.hid (K3.out.trans hk4)
          have s0 := (R5.out.kept hk4 0 _ rfl).1
          have s1 := (R5.out.kept hk4 1 _ rfl).1
          have s2 := (R5.out.kept hk4 2 _ rfl).1
          have HR5 := Lib.hid (R5.out.kept hk4)
          clear hk4 hw3 r0 r1 lr s0 s1 s2
          cases rb
          · have h1 := HRS.out
            rw [if_neg (by simp)] at h1
            subst h1
            rw [show Tly.errI false = 1 from rfl]
            go_wp2_with fail
            refine (HTL.out _).mono ?_
            rintro e w5 ⟨rfl, hk5⟩
            have K5 := Lib.hid (K4.out.trans hk5)
            clear hk5
            go_wp2
            go_ret
            exact ⟨rfl, K0.out.trans K5.out⟩
          · have h1 := HRS.out
            rw [if_pos rfl] at h1
            obtain ⟨rfl, rfl, h3, h4⟩ := h1
            rw [show Tly.errI true = 0 from rfl]
            go_wp2_with fail
            refine (HTL.out _).mono ?_
            rintro e w5 ⟨rfl, hk5⟩
            have K5 := Lib.hid (K4.out.trans hk5)
            have s0 := (HR5.out.kept hk5 0 _ rfl).1
            have s1 := (HR5.out.kept hk5 1 _ rfl).1
            have s2 := (HR5.out.kept hk5 2 _ rfl).1
            have ls := cell_lt s0
            clear hk5
            go_wp2
            go_ret
            exact ⟨by simp [h3, h4], K0.out.trans K5.out⟩
end Go.Proofs.YtologmoanaccpaaDoor
