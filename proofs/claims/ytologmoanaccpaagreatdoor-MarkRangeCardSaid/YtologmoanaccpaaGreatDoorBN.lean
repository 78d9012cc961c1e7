/-
  the sample holds: marked
-/
import Derived.Test.YtologmoanaccpaaGreatDoorBM
namespace Go.Proofs.YtologmoanaccpaaGreatDoor
set_option linter.all false
open Go.RowKit Go.Shelf

theorem intA_row {W : World} {g n c : Nat} {l : List Int} (h : RowC W g (l.map (Value.int .i64))) (hn : n = l.length) (hc : n ≤ 1000000) : IntA W (some ⟨g, 0, none⟩) n c l :=
  ⟨hn.symm, hc, trivial, fun _ => ⟨g, 0, rfl, fun j x hj => by rw [Nat.zero_add]; exact (h j (.int .i64 x) (by rw [List.getElem?_map, hj]; rfl)).1⟩⟩
theorem intA_has {W : World} {hb n : Nat} {l : List Int} (h : HasR W (some ⟨hb, 0, none⟩) n n hb 0 l) (hc : n ≤ 1000000) : IntA W (some ⟨hb, 0, none⟩) n n l :=
  ⟨h.ln, hc, trivial, fun _ => ⟨hb, 0, rfl, fun j x hj => (h.rh j x hj).1⟩⟩
theorem intA_own {W : World} {B : Nat} {v : Value} {n : Nat} {l : List Nat} (h : W.ownsRow B 3 1 v n (l.flatMap nC)) (hn : l.length = n) (h0 : 0 < n) (h1 : n ≤ 1000000) : ∃ A c, v = .slice A n c ∧ IntA W A n c (l.map fun x : Nat => (x : Int)) := by
  obtain ⟨k, rfl⟩ : ∃ k, n = k + 1 := ⟨n - 1, by omega⟩
  rcases h.2 with ⟨h1, h2⟩ | ⟨g, cap, cur, h1', hb, hh, hc, hm, hs, ht⟩
  · omega
  · subst h1'
    refine ⟨some ⟨g, 0, none⟩, cap, rfl, by simpa using hn, h1, trivial, fun _ => ⟨g, 0, rfl, fun j x hj => ?_⟩⟩
    rw [Nat.zero_add]
    have hr := own_rowC h
    have e : l.flatMap nC = (l.map fun x : Nat => (x : Int)).map (Value.int .i64) := by
      clear hr ht hh h hn hj
      induction l with
      | nil => rfl
      | cons x l ih => rw [List.flatMap_cons, ih]; rfl
    rw [e] at hr
    exact (hr j (.int .i64 x) (by rw [List.getElem?_map, hj]; rfl)).1
theorem same_self (l : List Int) : sameB l l = true := by simp [sameB]
theorem rd_ok {ws : List ByteArray} {x : ByteArray} {z : Int} (h : Lib.idxOfS ws x = z) (h0 : 0 ≤ z) (h1 : z < 5) : rdOk ws x := .inr (by rw [h]; exact ⟨h0, h1⟩)
theorem line_S : lineOk lineS wdsS := ⟨by decide, by rw [cntS]; exact splS, cntS, rfl, fun k x hx => by
  match k, hx with
  | 0, hx => cases hx; exact show rdOk earW _ from rd_ok (z := 1) (by kernel_rfl) (by decide) (by decide)
  | 1, hx => cases hx; exact show rdOk earW _ from rd_ok (z := 0) (by kernel_rfl) (by decide) (by decide)
  | 2, hx => cases hx; exact show rdOk smitW _ from rd_ok (z := 0) (by kernel_rfl) (by decide) (by decide)
  | 3, hx => cases hx; exact show rdOk smitW _ from rd_ok (z := 0) (by kernel_rfl) (by decide) (by decide)
  | 4, hx => cases hx; exact show rdOk smitW _ from rd_ok (z := 0) (by kernel_rfl) (by decide) (by decide)
  | 5, hx => cases hx; exact show rdOk smitW _ from rd_ok (z := 0) (by kernel_rfl) (by decide) (by decide)
  | k + 6, hx => simp [wdsS] at hx⟩
theorem line_T : lineOk lineT wdsT := ⟨by decide, by rw [cntT]; exact splT, cntT, rfl, fun k x hx => by
  match k, hx with
  | 0, hx => cases hx; exact show rdOk earW _ from rd_ok (z := 1) (by kernel_rfl) (by decide) (by decide)
  | 1, hx => cases hx; exact show rdOk earW _ from rd_ok (z := 0) (by kernel_rfl) (by decide) (by decide)
  | 2, hx => cases hx; exact show rdOk smitW _ from rd_ok (z := 1) (by kernel_rfl) (by decide) (by decide)
  | 3, hx => cases hx; exact show rdOk smitW _ from rd_ok (z := 0) (by kernel_rfl) (by decide) (by decide)
  | 4, hx => cases hx; exact show rdOk smitW _ from rd_ok (z := 0) (by kernel_rfl) (by decide) (by decide)
  | 5, hx => cases hx; exact show rdOk smitW _ from rd_ok (z := 0) (by kernel_rfl) (by decide) (by decide)
  | k + 6, hx => simp [wdsT] at hx⟩
set_option maxRecDepth 100000 in
set_option maxHeartbeats 6400000 in
theorem marked_any (w : World) (hE : EnvT w) (hM : EnvM w) : Calls Tryz.prog 19 #[] w fun e w' => e = .returned (.bool true) ∧ Kept w w' := by
  have HE := Lib.hid hE
  have HM := Lib.hid hM
  have HS67 : RowKit.Hid (∀ W, Kept w W → Calls Tryz.prog 67 #[.string ⟨#[99, 114, 111, 112, 112, 101, 100, 32, 112, 108, 97, 105, 110, 32, 98, 97, 114, 101, 32, 98, 97, 114, 101, 32, 98, 97, 114, 101, 32, 98, 97, 114, 101]⟩] W fun e w' => e = .returned (.tuple #[.agg #[.int .u8 1, .int .u8 0, .int .u8 0, .int .u8 0, .int .u8 0, .int .u8 0], .int .i64 0]) ∧ Kept W w') := Lib.hid (fun W hW => by have h := readSight_good lineS wdsS line_S W (hM.kept hW); rw [rdS] at h; exact h)
  have HT67 : RowKit.Hid (∀ W, Kept w W → Calls Tryz.prog 67 #[.string ⟨#[99, 114, 111, 112, 112, 101, 100, 32, 112, 108, 97, 105, 110, 32, 114, 101, 100, 32, 98, 97, 114, 101, 32, 98, 97, 114, 101, 32, 98, 97, 114, 101]⟩] W fun e w' => e = .returned (.tuple #[.agg #[.int .u8 1, .int .u8 0, .int .u8 1, .int .u8 0, .int .u8 0, .int .u8 0], .int .i64 0]) ∧ Kept W w') := Lib.hid (fun W hW => by have h := readSight_good lineT wdsT line_T W (hM.kept hW); rw [rdT] at h; exact h)
  clear hE hM
  go_enter Tryz.func19, Tryz.ntmps19
  go_wp2_with fail
  refine (smits_any w).mono ?_
  rintro e w1 ⟨b1, b2, rfl, hs, hk⟩
  have KW_w1 := Lib.hid hk
  have HSM := Lib.hid hs
  clear hs hk
  go_upto_region 2 with (fail)
  obtain ⟨W2, hW⟩ : ∃ W2, W2 = w1.alloc (.cells #[.slice (some ⟨b1, 0, none⟩) 3 3, .slice (some ⟨b2, 0, none⟩) 2 2] 25) := ⟨_, rfl⟩
  have k_W2 : Kept w1 W2 := by rw [hW]; exact (Kept.refl _).alloc _
  have r_W2 : RowC W2 w1.heap.size [.slice (some ⟨b1, 0, none⟩) 3 3, .slice (some ⟨b2, 0, none⟩) 2 2] := by rw [hW]; exact RowC.new w1 _ 25
  rw [← hW]
  clear hW
  have KW_W2 := Lib.hid (KW_w1.out.trans k_W2)
  have HS2 := Lib.hid (HSM.out.kept k_W2)
  have RA := Lib.hid r_W2
  have KA_W2 := Lib.hid (Kept.refl W2)
  clear k_W2 r_W2
  go_wp2_with fail
  refine (HS67.out W2 KW_W2.out).mono ?_
  rintro e w3 ⟨rfl, hk⟩
  have KW_w3 := Lib.hid (KW_W2.out.trans hk)
  have KA_w3 := Lib.hid (KA_W2.out.trans hk)
  clear hk
  go_upto_region 3 with (fail)
  obtain ⟨W4, hW⟩ : ∃ W4, W4 = w3.alloc (.cells #[.int .u8 1, .int .u8 0, .int .u8 0, .int .u8 0, .int .u8 0, .int .u8 0] 39) := ⟨_, rfl⟩
  have k_W4 : Kept w3 W4 := by rw [hW]; exact (Kept.refl _).alloc _
  have r_W4 : RowC W4 w3.heap.size [.int .u8 1, .int .u8 0, .int .u8 0, .int .u8 0, .int .u8 0, .int .u8 0] := by rw [hW]; exact RowC.new w3 _ 39
  rw [← hW]
  clear hW
  have KW_W4 := Lib.hid (KW_w3.out.trans k_W4)
  have KA_W4 := Lib.hid (KA_w3.out.trans k_W4)
  have RS := Lib.hid r_W4
  have KS_W4 := Lib.hid (Kept.refl W4)
  clear k_W4 r_W4
  go_wp2_with fail
  refine (HT67.out W4 KW_W4.out).mono ?_
  rintro e w5 ⟨rfl, hk⟩
  have KW_w5 := Lib.hid (KW_W4.out.trans hk)
  have KA_w5 := Lib.hid (KA_W4.out.trans hk)
  have KS_w5 := Lib.hid (KS_W4.out.trans hk)
  clear hk
  go_upto_region 4 with (fail)
  obtain ⟨W6, hW⟩ : ∃ W6, W6 = w5.alloc (.cells #[.int .u8 1, .int .u8 0, .int .u8 1, .int .u8 0, .int .u8 0, .int .u8 0] 39) := ⟨_, rfl⟩
  have k_W6 : Kept w5 W6 := by rw [hW]; exact (Kept.refl _).alloc _
  have r_W6 : RowC W6 w5.heap.size [.int .u8 1, .int .u8 0, .int .u8 1, .int .u8 0, .int .u8 0, .int .u8 0] := by rw [hW]; exact RowC.new w5 _ 39
  rw [← hW]
  clear hW
  have KW_W6 := Lib.hid (KW_w5.out.trans k_W6)
  have KA_W6 := Lib.hid (KA_w5.out.trans k_W6)
  have KS_W6 := Lib.hid (KS_w5.out.trans k_W6)
  have RT := Lib.hid r_W6
  have KT_W6 := Lib.hid (Kept.refl W6)
  clear k_W6 r_W6
  have xA := RA.out.kept KA_W6.out
  have xA0 := (xA 0 _ rfl).1
  have xA1 := (xA 1 _ rfl).1
  have yA := cell_lt xA0
  have xS := RS.out.kept KS_W6.out
  have xS0 := (xS 0 _ rfl).1
  have xS1 := (xS 1 _ rfl).1
  have xS2 := (xS 2 _ rfl).1
  have xS3 := (xS 3 _ rfl).1
  have xS4 := (xS 4 _ rfl).1
  have xS5 := (xS 5 _ rfl).1
  have yS := cell_lt xS0
  have HOW := Lib.hid (ownersL_any (some ⟨b1, 0, none⟩) (some ⟨b2, 0, none⟩) 3 3 2 2 msS fsS 0 sgS W6 (HS2.out.kept KA_W6.out) (by simp [Sg.ok, u8, sgS]) (HE.out.kept KW_W6.out))
  go_wp2_with fail
  refine HOW.out.mono ?_
  rintro e w7 ⟨⟨v, hv, rfl⟩, hk⟩
  rw [owe0, if_pos rfl, ow0, li6] at hv
  obtain ⟨A7, c7, rfl, hi7⟩ := intA_own hv rfl (by decide) (by decide)
  rw [owe0]
  have HI7 := Lib.hid hi7
  have KO_w7 := Lib.hid (Kept.refl w7)
  have KW_w7 := Lib.hid (KW_W6.out.trans hk)
  have KA_w7 := Lib.hid (KA_W6.out.trans hk)
  have KS_w7 := Lib.hid (KS_W6.out.trans hk)
  have KT_w7 := Lib.hid (KT_W6.out.trans hk)
  clear hk hv hi7 HOW
  clear xA0 xA1 yA xA xS0 xS1 xS2 xS3 xS4 xS5 yS xS
  have xA := RA.out.kept KA_w7.out
  have xA0 := (xA 0 _ rfl).1
  have xA1 := (xA 1 _ rfl).1
  have yA := cell_lt xA0
  have HMI := Lib.hid (mistaken_any (some ⟨b1, 0, none⟩) (some ⟨b2, 0, none⟩) 3 3 2 2 msS fsS 10 w7 (HS2.out.kept KA_w7.out))
  go_wp2_with fail
  refine HMI.out.mono ?_
  rintro e w8 ⟨⟨h, _⟩ | ⟨_, l, v8, rfl, hp, hso, hv⟩, hk⟩
  · exact absurd in10 h
  rw [mis_l hp hso] at hv
  obtain ⟨A8, c8, rfl, hi8⟩ := own_sl (enc := prC) (k := 2) (ok := fun _ => True) (l := [⟨1, 2⟩]) (fun _ => rfl) hv (fun _ _ => trivial)
  have HI8 := Lib.hid hi8
  have KP_w8 := Lib.hid (Kept.refl w8)
  have KW_w8 := Lib.hid (KW_w7.out.trans hk)
  have KA_w8 := Lib.hid (KA_w7.out.trans hk)
  have KS_w8 := Lib.hid (KS_w7.out.trans hk)
  have KT_w8 := Lib.hid (KT_w7.out.trans hk)
  have KO_w8 := Lib.hid (KO_w7.out.trans hk)
  clear hk hv hi8 hp hso HMI
  clear xA0 xA1 yA xA
  have xA := RA.out.kept KA_w8.out
  have xA0 := (xA 0 _ rfl).1
  have xA1 := (xA 1 _ rfl).1
  have yA := cell_lt xA0
  have HFR := Lib.hid (free_any (some ⟨b1, 0, none⟩) (some ⟨b2, 0, none⟩) 3 3 2 2 msS fsS 0 w8 (HS2.out.kept KA_w8.out))
  go_wp2_with fail
  refine HFR.out.mono ?_
  rintro e w9 ⟨hfr, hk⟩
  obtain rfl : e = .returned (.tuple #[.agg #[.int .u8 0, .int .u8 0, .int .u8 0, .int .u8 0, .int .u8 0, .int .u8 0], .int .i64 0]) := by
    rcases hfr with ⟨h, _⟩ | ⟨_, l, hp, hso, ⟨n, hn, h1, h2, rfl⟩ | ⟨h1, _⟩⟩
    · exact absurd in0 h
    · by_cases h0 : n = 0
      · subst h0; rw [sg0]; rfl
      · have := h2 0 (by omega); rw [fre_l hp hso] at this; cases this
    · have := h1 0 (by omega); rw [fre_l hp hso] at this; cases this
  have KW_w9 := Lib.hid (KW_w8.out.trans hk)
  have KA_w9 := Lib.hid (KA_w8.out.trans hk)
  have KS_w9 := Lib.hid (KS_w8.out.trans hk)
  have KT_w9 := Lib.hid (KT_w8.out.trans hk)
  have KO_w9 := Lib.hid (KO_w8.out.trans hk)
  have KP_w9 := Lib.hid (KP_w8.out.trans hk)
  clear hk hfr HFR
  clear xA0 xA1 yA xA
  go_upto_region 7 with (fail)
  obtain ⟨W10, hW⟩ : ∃ W10, W10 = w9.alloc (.cells #[.int .u8 0, .int .u8 0, .int .u8 0, .int .u8 0, .int .u8 0, .int .u8 0] 39) := ⟨_, rfl⟩
  have k_W10 : Kept w9 W10 := by rw [hW]; exact (Kept.refl _).alloc _
  have r_W10 : RowC W10 w9.heap.size [.int .u8 0, .int .u8 0, .int .u8 0, .int .u8 0, .int .u8 0, .int .u8 0] := by rw [hW]; exact RowC.new w9 _ 39
  rw [← hW]
  clear hW
  have KW_W10 := Lib.hid (KW_w9.out.trans k_W10)
  have KA_W10 := Lib.hid (KA_w9.out.trans k_W10)
  have KS_W10 := Lib.hid (KS_w9.out.trans k_W10)
  have KT_W10 := Lib.hid (KT_w9.out.trans k_W10)
  have KO_W10 := Lib.hid (KO_w9.out.trans k_W10)
  have KP_W10 := Lib.hid (KP_w9.out.trans k_W10)
  have RF := Lib.hid r_W10
  have KF_W10 := Lib.hid (Kept.refl W10)
  clear k_W10 r_W10
  have xS := RS.out.kept KS_W10.out
  have xS0 := (xS 0 _ rfl).1
  have xS1 := (xS 1 _ rfl).1
  have xS2 := (xS 2 _ rfl).1
  have xS3 := (xS 3 _ rfl).1
  have xS4 := (xS 4 _ rfl).1
  have xS5 := (xS 5 _ rfl).1
  have yS := cell_lt xS0
  have xT := RT.out.kept KT_W10.out
  have xT0 := (xT 0 _ rfl).1
  have xT1 := (xT 1 _ rfl).1
  have xT2 := (xT 2 _ rfl).1
  have xT3 := (xT 3 _ rfl).1
  have xT4 := (xT 4 _ rfl).1
  have xT5 := (xT 5 _ rfl).1
  have yT := cell_lt xT0
  go_upto_region 8 with (fail)
  clear xS0 xS1 xS2 xS3 xS4 xS5 yS xS xT0 xT1 xT2 xT3 xT4 xT5 yT xT
  obtain ⟨W11, hW⟩ : ∃ W11, W11 = W10.alloc (.cells #[.int .u8 1, .int .u8 0, .int .u8 0, .int .u8 0, .int .u8 0, .int .u8 0, .int .u8 1, .int .u8 0, .int .u8 0, .int .u8 0, .int .u8 0, .int .u8 0, .int .u8 1, .int .u8 0, .int .u8 1, .int .u8 0, .int .u8 0, .int .u8 0] 39) := ⟨_, rfl⟩
  have k_W11 : Kept W10 W11 := by rw [hW]; exact (Kept.refl _).alloc _
  have r_W11 : RowC W11 W10.heap.size [.int .u8 1, .int .u8 0, .int .u8 0, .int .u8 0, .int .u8 0, .int .u8 0, .int .u8 1, .int .u8 0, .int .u8 0, .int .u8 0, .int .u8 0, .int .u8 0, .int .u8 1, .int .u8 0, .int .u8 1, .int .u8 0, .int .u8 0, .int .u8 0] := by rw [hW]; exact RowC.new W10 _ 39
  rw [← hW]
  clear hW
  have KW_W11 := Lib.hid (KW_W10.out.trans k_W11)
  have KA_W11 := Lib.hid (KA_W10.out.trans k_W11)
  have KS_W11 := Lib.hid (KS_W10.out.trans k_W11)
  have KT_W11 := Lib.hid (KT_W10.out.trans k_W11)
  have KO_W11 := Lib.hid (KO_W10.out.trans k_W11)
  have KP_W11 := Lib.hid (KP_W10.out.trans k_W11)
  have KF_W11 := Lib.hid (KF_W10.out.trans k_W11)
  have HFO := Lib.hid (slA_row (enc := sgV) (k := 6) (ok := Sg.ok) (l := foS) (fun _ => rfl) r_W11 (by intro x hx; simp only [foS, List.mem_cons, List.not_mem_nil, or_false] at hx; rcases hx with rfl | rfl | rfl <;> simp [Sg.ok, u8, sgS, sgT]) (by decide))
  have KG_W11 := Lib.hid (Kept.refl W11)
  clear k_W11 r_W11
  have xA := RA.out.kept KA_W11.out
  have xA0 := (xA 0 _ rfl).1
  have xA1 := (xA 1 _ rfl).1
  have yA := cell_lt xA0
  go_wp2_with fail
  obtain ⟨W12, hW⟩ : ∃ W12, W12 = W11.alloc (.cells #[.int .i64 1, .int .i64 1, .int .i64 2, .int .i64 2] 94) := ⟨_, rfl⟩
  have k_W12 : Kept W11 W12 := by rw [hW]; exact (Kept.refl _).alloc _
  have r_W12 : RowC W12 W11.heap.size [.int .i64 1, .int .i64 1, .int .i64 2, .int .i64 2] := by rw [hW]; exact RowC.new W11 _ 94
  rw [← hW]
  clear hW
  have KW_W12 := Lib.hid (KW_W11.out.trans k_W12)
  have KA_W12 := Lib.hid (KA_W11.out.trans k_W12)
  have KS_W12 := Lib.hid (KS_W11.out.trans k_W12)
  have KT_W12 := Lib.hid (KT_W11.out.trans k_W12)
  have KO_W12 := Lib.hid (KO_W11.out.trans k_W12)
  have KP_W12 := Lib.hid (KP_W11.out.trans k_W12)
  have KF_W12 := Lib.hid (KF_W11.out.trans k_W12)
  have KG_W12 := Lib.hid (KG_W11.out.trans k_W12)
  clear xA0 xA1 yA xA
  have hcl := slA_row (enc := clC) (k := 2) (ok := Cl.ok) (l := cl1) (fun _ => rfl) r_W12 (by intro x hx; simp only [cl1, List.mem_cons, List.not_mem_nil, or_false] at hx; rcases hx with rfl | rfl <;> simp [Cl.ok, i64]) (by decide)
  refine (assign_any (some ⟨b1, 0, none⟩) (some ⟨b2, 0, none⟩) (some ⟨W10.heap.size, 0, none⟩) _ 3 3 2 2 3 3 2 2 msS fsS 0 foS _ W12 (HS2.out.kept KA_W12.out) (HFO.out.kept KG_W12.out) hcl (HE.out.kept KW_W12.out)).mono ?_
  rintro e w13 ⟨hc, hk⟩
  obtain ⟨hb13, rfl, hi13⟩ : ∃ hb, e = .returned (.tuple #[.slice (some ⟨hb, 0, none⟩) 3 3, .bool true, .int .i64 0]) ∧ IntA w13 (some ⟨hb, 0, none⟩) 3 3 [2, 2, 1] := by
    rcases hc with ⟨h, _⟩ | ⟨_, ⟨hb, ow, rfl, hh, hf, _⟩ | ⟨_, hsh⟩⟩
    · exact absurd ch1 h
    · rw [as_first hf] at hh
      exact ⟨hb, rfl, intA_has hh (by decide)⟩
    · exact absurd hsh as_not
  have HI13 := Lib.hid hi13
  have KL_w13 := Lib.hid (Kept.refl w13)
  have KW_w13 := Lib.hid (KW_W12.out.trans hk)
  have KA_w13 := Lib.hid (KA_W12.out.trans hk)
  have KS_w13 := Lib.hid (KS_W12.out.trans hk)
  have KT_w13 := Lib.hid (KT_W12.out.trans hk)
  have KO_w13 := Lib.hid (KO_W12.out.trans hk)
  have KP_w13 := Lib.hid (KP_W12.out.trans hk)
  have KF_w13 := Lib.hid (KF_W12.out.trans hk)
  have KG_w13 := Lib.hid (KG_W12.out.trans hk)
  clear hc hk hcl hi13 k_W12 r_W12
  have xA := RA.out.kept KA_w13.out
  have xA0 := (xA 0 _ rfl).1
  have xA1 := (xA 1 _ rfl).1
  have yA := cell_lt xA0
  go_wp2_with fail
  obtain ⟨W14, hW⟩ : ∃ W14, W14 = w13.alloc (.cells #[.int .i64 1, .int .i64 2, .int .i64 2, .int .i64 2] 94) := ⟨_, rfl⟩
  have k_W14 : Kept w13 W14 := by rw [hW]; exact (Kept.refl _).alloc _
  have r_W14 : RowC W14 w13.heap.size [.int .i64 1, .int .i64 2, .int .i64 2, .int .i64 2] := by rw [hW]; exact RowC.new w13 _ 94
  rw [← hW]
  clear hW
  have KW_W14 := Lib.hid (KW_w13.out.trans k_W14)
  have KA_W14 := Lib.hid (KA_w13.out.trans k_W14)
  have KS_W14 := Lib.hid (KS_w13.out.trans k_W14)
  have KT_W14 := Lib.hid (KT_w13.out.trans k_W14)
  have KO_W14 := Lib.hid (KO_w13.out.trans k_W14)
  have KP_W14 := Lib.hid (KP_w13.out.trans k_W14)
  have KF_W14 := Lib.hid (KF_w13.out.trans k_W14)
  have KG_W14 := Lib.hid (KG_w13.out.trans k_W14)
  have KL_W14 := Lib.hid (KL_w13.out.trans k_W14)
  clear xA0 xA1 yA xA
  have hcl := slA_row (enc := clC) (k := 2) (ok := Cl.ok) (l := cl2) (fun _ => rfl) r_W14 (by intro x hx; simp only [cl2, List.mem_cons, List.not_mem_nil, or_false] at hx; rcases hx with rfl | rfl <;> simp [Cl.ok, i64]) (by decide)
  refine (shortage_any (some ⟨b1, 0, none⟩) (some ⟨b2, 0, none⟩) (some ⟨W10.heap.size, 0, none⟩) _ 3 3 2 2 3 3 2 2 msS fsS 0 foS _ W14 (HS2.out.kept KA_W14.out) (HFO.out.kept KG_W14.out) hcl (HE.out.kept KW_W14.out)).mono ?_
  rintro e w15 ⟨hc, hk⟩
  obtain ⟨g15, c15, rfl, hi15⟩ : ∃ g c, e = .returned (.tuple #[.slice (some ⟨g, 0, none⟩) 2 c, .bool true, .int .i64 0]) ∧ IntA w15 (some ⟨g, 0, none⟩) 2 c [1, 2] := by
    rcases hc with ⟨h, _⟩ | ⟨_, ⟨h, _⟩ | ⟨g, n, c, P, rfl, hn, hr, _, hp, _⟩⟩
    · exact absurd ch2 h
    · exact absurd h st_some
    · rw [st_six hp] at hn hr
      subst hn
      exact ⟨g, c, rfl, intA_row hr rfl (by decide)⟩
  have HI15 := Lib.hid hi15
  have KM_w15 := Lib.hid (Kept.refl w15)
  have KW_w15 := Lib.hid (KW_W14.out.trans hk)
  have KA_w15 := Lib.hid (KA_W14.out.trans hk)
  have KS_w15 := Lib.hid (KS_W14.out.trans hk)
  have KT_w15 := Lib.hid (KT_W14.out.trans hk)
  have KO_w15 := Lib.hid (KO_W14.out.trans hk)
  have KP_w15 := Lib.hid (KP_W14.out.trans hk)
  have KF_w15 := Lib.hid (KF_W14.out.trans hk)
  have KG_w15 := Lib.hid (KG_W14.out.trans hk)
  have KL_w15 := Lib.hid (KL_W14.out.trans hk)
  clear hc hk hcl hi15 k_W14 r_W14
  have xA := RA.out.kept KA_w15.out
  have xA0 := (xA 0 _ rfl).1
  have xA1 := (xA 1 _ rfl).1
  have yA := cell_lt xA0
  go_wp2_with fail
  obtain ⟨W16, hW⟩ : ∃ W16, W16 = w15.alloc (.cells #[.int .i64 1, .int .i64 2, .int .i64 2, .int .i64 1] 94) := ⟨_, rfl⟩
  have k_W16 : Kept w15 W16 := by rw [hW]; exact (Kept.refl _).alloc _
  have r_W16 : RowC W16 w15.heap.size [.int .i64 1, .int .i64 2, .int .i64 2, .int .i64 1] := by rw [hW]; exact RowC.new w15 _ 94
  rw [← hW]
  clear hW
  have KW_W16 := Lib.hid (KW_w15.out.trans k_W16)
  have KA_W16 := Lib.hid (KA_w15.out.trans k_W16)
  have KS_W16 := Lib.hid (KS_w15.out.trans k_W16)
  have KT_W16 := Lib.hid (KT_w15.out.trans k_W16)
  have KO_W16 := Lib.hid (KO_w15.out.trans k_W16)
  have KP_W16 := Lib.hid (KP_w15.out.trans k_W16)
  have KF_W16 := Lib.hid (KF_w15.out.trans k_W16)
  have KG_W16 := Lib.hid (KG_w15.out.trans k_W16)
  have KL_W16 := Lib.hid (KL_w15.out.trans k_W16)
  have KM_W16 := Lib.hid (KM_w15.out.trans k_W16)
  clear xA0 xA1 yA xA
  have hcl := slA_row (enc := clC) (k := 2) (ok := Cl.ok) (l := cl3) (fun _ => rfl) r_W16 (by intro x hx; simp only [cl3, List.mem_cons, List.not_mem_nil, or_false] at hx; rcases hx with rfl | rfl <;> simp [Cl.ok, i64]) (by decide)
  refine (certainAll_any (some ⟨b1, 0, none⟩) (some ⟨b2, 0, none⟩) (some ⟨W10.heap.size, 0, none⟩) _ 3 3 2 2 3 3 2 2 msS fsS 0 foS _ W16 (HS2.out.kept KA_W16.out) (HFO.out.kept KG_W16.out) hcl (HE.out.kept KW_W16.out)).mono ?_
  rintro e w17 ⟨hc, hk⟩
  obtain ⟨hb17, rfl, hi17⟩ : ∃ hb, e = .returned (.tuple #[.slice (some ⟨hb, 0, none⟩) 3 3, .int .i64 0]) ∧ IntA w17 (some ⟨hb, 0, none⟩) 3 3 [0, 0, 1] := by
    rcases hc with ⟨h, _⟩ | ⟨_, ⟨hb, ow, res, rfl, hh, hm, hq, _⟩ | ⟨_, hsh⟩⟩
    · exact absurd ch3 h
    · rw [ct_res hh.ln hm hq] at hh
      exact ⟨hb, rfl, intA_has hh (by decide)⟩
    · exact absurd hsh ct_not
  have HI17 := Lib.hid hi17
  have KC_w17 := Lib.hid (Kept.refl w17)
  have KW_w17 := Lib.hid (KW_W16.out.trans hk)
  have KA_w17 := Lib.hid (KA_W16.out.trans hk)
  have KS_w17 := Lib.hid (KS_W16.out.trans hk)
  have KT_w17 := Lib.hid (KT_W16.out.trans hk)
  have KO_w17 := Lib.hid (KO_W16.out.trans hk)
  have KP_w17 := Lib.hid (KP_W16.out.trans hk)
  have KF_w17 := Lib.hid (KF_W16.out.trans hk)
  have KG_w17 := Lib.hid (KG_W16.out.trans hk)
  have KL_w17 := Lib.hid (KL_W16.out.trans hk)
  have KM_w17 := Lib.hid (KM_W16.out.trans hk)
  clear hc hk hcl hi17 k_W16 r_W16
  have xA := RA.out.kept KA_w17.out
  have xA0 := (xA 0 _ rfl).1
  have xA1 := (xA 1 _ rfl).1
  have yA := cell_lt xA0
  go_wp2_with fail
  refine (range_any (some ⟨b1, 0, none⟩) (some ⟨b2, 0, none⟩) (some ⟨W10.heap.size, 0, none⟩) 3 3 2 2 3 3 msS fsS 0 1 foS w17 (HS2.out.kept KA_w17.out) (HFO.out.kept KG_w17.out)).mono ?_
  rintro e w18 ⟨hc, hk⟩
  obtain rfl : e = .returned (.tuple #[.int .i64 1, .int .i64 2, .int .i64 0]) := by
    rcases hc with ⟨h, _⟩ | ⟨_, rfl⟩
    · exact absurd rg0 h
    · rw [show (1 : Int).toNat = 1 from rfl, su0, pe0]; rfl
  have KW_w18 := Lib.hid (KW_w17.out.trans hk)
  have KA_w18 := Lib.hid (KA_w17.out.trans hk)
  have KS_w18 := Lib.hid (KS_w17.out.trans hk)
  have KT_w18 := Lib.hid (KT_w17.out.trans hk)
  have KO_w18 := Lib.hid (KO_w17.out.trans hk)
  have KP_w18 := Lib.hid (KP_w17.out.trans hk)
  have KF_w18 := Lib.hid (KF_w17.out.trans hk)
  have KG_w18 := Lib.hid (KG_w17.out.trans hk)
  have KL_w18 := Lib.hid (KL_w17.out.trans hk)
  have KM_w18 := Lib.hid (KM_w17.out.trans hk)
  have KC_w18 := Lib.hid (KC_w17.out.trans hk)
  clear hc hk
  clear xA0 xA1 yA xA
  go_wp2_with fail
  obtain ⟨W19, hW⟩ : ∃ W19, W19 = w18.alloc (.cells #[.int .i64 1, .int .i64 2] 3) := ⟨_, rfl⟩
  have k_W19 : Kept w18 W19 := by rw [hW]; exact (Kept.refl _).alloc _
  have r_W19 : RowC W19 w18.heap.size [.int .i64 1, .int .i64 2] := by rw [hW]; exact RowC.new w18 _ 3
  rw [← hW]
  clear hW
  have KW_W19 := Lib.hid (KW_w18.out.trans k_W19)
  have KA_W19 := Lib.hid (KA_w18.out.trans k_W19)
  have KS_W19 := Lib.hid (KS_w18.out.trans k_W19)
  have KT_W19 := Lib.hid (KT_w18.out.trans k_W19)
  have KO_W19 := Lib.hid (KO_w18.out.trans k_W19)
  have KP_W19 := Lib.hid (KP_w18.out.trans k_W19)
  have KF_W19 := Lib.hid (KF_w18.out.trans k_W19)
  have KG_W19 := Lib.hid (KG_w18.out.trans k_W19)
  have KL_W19 := Lib.hid (KL_w18.out.trans k_W19)
  have KM_W19 := Lib.hid (KM_w18.out.trans k_W19)
  have KC_W19 := Lib.hid (KC_w18.out.trans k_W19)
  refine (sameInts_any A7 2 c7 [1, 2] _ 2 2 [1, 2] W19 (HI7.out.kept KO_W19.out) (intA_row r_W19 rfl (by decide))).mono ?_
  rintro e w20 ⟨rfl, hk⟩
  rw [same_self]
  have KW_w20 := Lib.hid (KW_W19.out.trans hk)
  have KA_w20 := Lib.hid (KA_W19.out.trans hk)
  have KS_w20 := Lib.hid (KS_W19.out.trans hk)
  have KT_w20 := Lib.hid (KT_W19.out.trans hk)
  have KO_w20 := Lib.hid (KO_W19.out.trans hk)
  have KP_w20 := Lib.hid (KP_W19.out.trans hk)
  have KF_w20 := Lib.hid (KF_W19.out.trans hk)
  have KG_w20 := Lib.hid (KG_W19.out.trans hk)
  have KL_w20 := Lib.hid (KL_W19.out.trans hk)
  have KM_w20 := Lib.hid (KM_W19.out.trans hk)
  have KC_w20 := Lib.hid (KC_W19.out.trans hk)
  clear hk k_W19 r_W19
  go_wp2_with fail
  obtain ⟨W21, hW⟩ : ∃ W21, W21 = w20.alloc (.cells #[.int .i64 1, .int .i64 2] 90) := ⟨_, rfl⟩
  have k_W21 : Kept w20 W21 := by rw [hW]; exact (Kept.refl _).alloc _
  have r_W21 : RowC W21 w20.heap.size [.int .i64 1, .int .i64 2] := by rw [hW]; exact RowC.new w20 _ 90
  rw [← hW]
  clear hW
  have KW_W21 := Lib.hid (KW_w20.out.trans k_W21)
  have KA_W21 := Lib.hid (KA_w20.out.trans k_W21)
  have KS_W21 := Lib.hid (KS_w20.out.trans k_W21)
  have KT_W21 := Lib.hid (KT_w20.out.trans k_W21)
  have KO_W21 := Lib.hid (KO_w20.out.trans k_W21)
  have KP_W21 := Lib.hid (KP_w20.out.trans k_W21)
  have KF_W21 := Lib.hid (KF_w20.out.trans k_W21)
  have KG_W21 := Lib.hid (KG_w20.out.trans k_W21)
  have KL_W21 := Lib.hid (KL_w20.out.trans k_W21)
  have KM_W21 := Lib.hid (KM_w20.out.trans k_W21)
  have KC_W21 := Lib.hid (KC_w20.out.trans k_W21)
  refine (samePairs_any A8 1 c8 [⟨1, 2⟩] _ 1 1 [⟨1, 2⟩] W21 (HI8.out.kept KP_W21.out) (slA_row (enc := prC) (k := 2) (ok := fun _ => True) (l := [⟨1, 2⟩]) (fun _ => rfl) r_W21 (fun _ _ => trivial) (by decide))).mono ?_
  rintro e w22 ⟨rfl, hk⟩
  rw [show samePB [⟨1, 2⟩] [⟨1, 2⟩] = true by decide]
  have KW_w22 := Lib.hid (KW_W21.out.trans hk)
  have KA_w22 := Lib.hid (KA_W21.out.trans hk)
  have KS_w22 := Lib.hid (KS_W21.out.trans hk)
  have KT_w22 := Lib.hid (KT_W21.out.trans hk)
  have KO_w22 := Lib.hid (KO_W21.out.trans hk)
  have KP_w22 := Lib.hid (KP_W21.out.trans hk)
  have KF_w22 := Lib.hid (KF_W21.out.trans hk)
  have KG_w22 := Lib.hid (KG_W21.out.trans hk)
  have KL_w22 := Lib.hid (KL_W21.out.trans hk)
  have KM_w22 := Lib.hid (KM_W21.out.trans hk)
  have KC_w22 := Lib.hid (KC_W21.out.trans hk)
  clear hk k_W21 r_W21
  have hq39 : ∀ W : World, (binOp BinOp.eql 39 (.agg #[.int .u8 0, .int .u8 0, .int .u8 0, .int .u8 0, .int .u8 0, .int .u8 0]) (.agg #[.int .u8 0, .int .u8 0, .int .u8 0, .int .u8 0, .int .u8 0, .int .u8 0])).run Tryz.prog W = .ok (.bool true) W := fun _ => by kernel_rfl
  have xF := RF.out.kept KF_w22.out
  have xF0 := (xF 0 _ rfl).1
  have xF1 := (xF 1 _ rfl).1
  have xF2 := (xF 2 _ rfl).1
  have xF3 := (xF 3 _ rfl).1
  have xF4 := (xF 4 _ rfl).1
  have xF5 := (xF 5 _ rfl).1
  have yF := cell_lt xF0
  go_wp2_with fail
  obtain ⟨W23, hW⟩ : ∃ W23, W23 = w22.alloc (.cells #[.int .i64 2, .int .i64 2, .int .i64 1] 3) := ⟨_, rfl⟩
  have k_W23 : Kept w22 W23 := by rw [hW]; exact (Kept.refl _).alloc _
  have r_W23 : RowC W23 w22.heap.size [.int .i64 2, .int .i64 2, .int .i64 1] := by rw [hW]; exact RowC.new w22 _ 3
  rw [← hW]
  clear hW
  have KW_W23 := Lib.hid (KW_w22.out.trans k_W23)
  have KA_W23 := Lib.hid (KA_w22.out.trans k_W23)
  have KS_W23 := Lib.hid (KS_w22.out.trans k_W23)
  have KT_W23 := Lib.hid (KT_w22.out.trans k_W23)
  have KO_W23 := Lib.hid (KO_w22.out.trans k_W23)
  have KP_W23 := Lib.hid (KP_w22.out.trans k_W23)
  have KF_W23 := Lib.hid (KF_w22.out.trans k_W23)
  have KG_W23 := Lib.hid (KG_w22.out.trans k_W23)
  have KL_W23 := Lib.hid (KL_w22.out.trans k_W23)
  have KM_W23 := Lib.hid (KM_w22.out.trans k_W23)
  have KC_W23 := Lib.hid (KC_w22.out.trans k_W23)
  refine (sameInts_any (some ⟨hb13, 0, none⟩) 3 3 [2, 2, 1] _ 3 3 [2, 2, 1] W23 (HI13.out.kept KL_W23.out) (intA_row r_W23 rfl (by decide))).mono ?_
  rintro e w24 ⟨rfl, hk⟩
  rw [same_self]
  have KW_w24 := Lib.hid (KW_W23.out.trans hk)
  have KA_w24 := Lib.hid (KA_W23.out.trans hk)
  have KS_w24 := Lib.hid (KS_W23.out.trans hk)
  have KT_w24 := Lib.hid (KT_W23.out.trans hk)
  have KO_w24 := Lib.hid (KO_W23.out.trans hk)
  have KP_w24 := Lib.hid (KP_W23.out.trans hk)
  have KF_w24 := Lib.hid (KF_W23.out.trans hk)
  have KG_w24 := Lib.hid (KG_W23.out.trans hk)
  have KL_w24 := Lib.hid (KL_W23.out.trans hk)
  have KM_w24 := Lib.hid (KM_W23.out.trans hk)
  have KC_w24 := Lib.hid (KC_W23.out.trans hk)
  clear hk k_W23 r_W23
  clear xF0 xF1 xF2 xF3 xF4 xF5 yF xF
  go_wp2_with fail
  obtain ⟨W25, hW⟩ : ∃ W25, W25 = w24.alloc (.cells #[.int .i64 1, .int .i64 2] 3) := ⟨_, rfl⟩
  have k_W25 : Kept w24 W25 := by rw [hW]; exact (Kept.refl _).alloc _
  have r_W25 : RowC W25 w24.heap.size [.int .i64 1, .int .i64 2] := by rw [hW]; exact RowC.new w24 _ 3
  rw [← hW]
  clear hW
  have KW_W25 := Lib.hid (KW_w24.out.trans k_W25)
  have KA_W25 := Lib.hid (KA_w24.out.trans k_W25)
  have KS_W25 := Lib.hid (KS_w24.out.trans k_W25)
  have KT_W25 := Lib.hid (KT_w24.out.trans k_W25)
  have KO_W25 := Lib.hid (KO_w24.out.trans k_W25)
  have KP_W25 := Lib.hid (KP_w24.out.trans k_W25)
  have KF_W25 := Lib.hid (KF_w24.out.trans k_W25)
  have KG_W25 := Lib.hid (KG_w24.out.trans k_W25)
  have KL_W25 := Lib.hid (KL_w24.out.trans k_W25)
  have KM_W25 := Lib.hid (KM_w24.out.trans k_W25)
  have KC_W25 := Lib.hid (KC_w24.out.trans k_W25)
  refine (sameInts_any (some ⟨g15, 0, none⟩) 2 c15 [1, 2] _ 2 2 [1, 2] W25 (HI15.out.kept KM_W25.out) (intA_row r_W25 rfl (by decide))).mono ?_
  rintro e w26 ⟨rfl, hk⟩
  rw [same_self]
  have KW_w26 := Lib.hid (KW_W25.out.trans hk)
  have KA_w26 := Lib.hid (KA_W25.out.trans hk)
  have KS_w26 := Lib.hid (KS_W25.out.trans hk)
  have KT_w26 := Lib.hid (KT_W25.out.trans hk)
  have KO_w26 := Lib.hid (KO_W25.out.trans hk)
  have KP_w26 := Lib.hid (KP_W25.out.trans hk)
  have KF_w26 := Lib.hid (KF_W25.out.trans hk)
  have KG_w26 := Lib.hid (KG_W25.out.trans hk)
  have KL_w26 := Lib.hid (KL_W25.out.trans hk)
  have KM_w26 := Lib.hid (KM_W25.out.trans hk)
  have KC_w26 := Lib.hid (KC_W25.out.trans hk)
  clear hk k_W25 r_W25
  go_wp2_with fail
  obtain ⟨W27, hW⟩ : ∃ W27, W27 = w26.alloc (.cells #[.int .i64 0, .int .i64 0, .int .i64 1] 3) := ⟨_, rfl⟩
  have k_W27 : Kept w26 W27 := by rw [hW]; exact (Kept.refl _).alloc _
  have r_W27 : RowC W27 w26.heap.size [.int .i64 0, .int .i64 0, .int .i64 1] := by rw [hW]; exact RowC.new w26 _ 3
  rw [← hW]
  clear hW
  have KW_W27 := Lib.hid (KW_w26.out.trans k_W27)
  have KA_W27 := Lib.hid (KA_w26.out.trans k_W27)
  have KS_W27 := Lib.hid (KS_w26.out.trans k_W27)
  have KT_W27 := Lib.hid (KT_w26.out.trans k_W27)
  have KO_W27 := Lib.hid (KO_w26.out.trans k_W27)
  have KP_W27 := Lib.hid (KP_w26.out.trans k_W27)
  have KF_W27 := Lib.hid (KF_w26.out.trans k_W27)
  have KG_W27 := Lib.hid (KG_w26.out.trans k_W27)
  have KL_W27 := Lib.hid (KL_w26.out.trans k_W27)
  have KM_W27 := Lib.hid (KM_w26.out.trans k_W27)
  have KC_W27 := Lib.hid (KC_w26.out.trans k_W27)
  refine (sameInts_any (some ⟨hb17, 0, none⟩) 3 3 [0, 0, 1] _ 3 3 [0, 0, 1] W27 (HI17.out.kept KC_W27.out) (intA_row r_W27 rfl (by decide))).mono ?_
  rintro e w28 ⟨rfl, hk⟩
  rw [same_self]
  have KW_w28 := Lib.hid (KW_W27.out.trans hk)
  have KA_w28 := Lib.hid (KA_W27.out.trans hk)
  have KS_w28 := Lib.hid (KS_W27.out.trans hk)
  have KT_w28 := Lib.hid (KT_W27.out.trans hk)
  have KO_w28 := Lib.hid (KO_W27.out.trans hk)
  have KP_w28 := Lib.hid (KP_W27.out.trans hk)
  have KF_w28 := Lib.hid (KF_W27.out.trans hk)
  have KG_w28 := Lib.hid (KG_W27.out.trans hk)
  have KL_w28 := Lib.hid (KL_W27.out.trans hk)
  have KM_w28 := Lib.hid (KM_W27.out.trans hk)
  have KC_w28 := Lib.hid (KC_W27.out.trans hk)
  clear hk k_W27 r_W27
  go_wp2_with fail
  go_ret
  exact ⟨rfl, KW_w28.out⟩
end Go.Proofs.YtologmoanaccpaaGreatDoor
