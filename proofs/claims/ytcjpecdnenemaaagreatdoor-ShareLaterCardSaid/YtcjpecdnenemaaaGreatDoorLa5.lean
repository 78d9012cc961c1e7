/-
  ShareLater, the walk.
-/
import Derived.Test.YtcjpecdnenemaaaGreatDoorLa4
namespace Go.Proofs.YtcjpecdnenemaaaGreatDoor
set_option linter.all false
open Go.RowKit Go.Shelf

set_option maxRecDepth 100000 in
set_option maxHeartbeats 6400000 in
theorem later_any (A : Option Addr) (n c : Nat) (xs : List Eqv) (x : Eqv) (sort : ByteArray) (day known : Int) (hd1 : -9223372036854775808 ≤ day) (hd2 : day ≤ 9223372036854775807) (hs : x.sort.size ≤ 9223372036854775807) (hs2 : sort.size ≤ 9223372036854775807)
    (w : World) (hT : TabA w A n c xs) (hE : Env w) :
    Calls Tryz.prog 17 #[.slice A n c, eqV x, .string sort, .int .i64 day, .int .i64 known] w fun e w' => e = .returned (.bool true) ∧ Kept w w' := by
  have HT := Lib.hid hT
  have HE := Lib.hid hE
  have hln := hT.1
  have X0 := Lib.hid (RowC.new w (eqCells x) 37)
  have KB := Lib.hid ((Kept.refl w).alloc (boxX x))
  have FW := Lib.hid (fun W => few_any A n c (by have := hT.2.1; have := hT.2.2.1; omega) W)
  have OA := Lib.hid (fun W h hl => of_any A n c xs sort day known W h hl)
  have SO := Lib.hid hs
  obtain ⟨ea, hea⟩ : ∃ r, ofS xs sort day known = r := ⟨_, rfl⟩
  rw [hea] at OA
  have HA := Lib.hid hea
  clear hT hE hea
  rcases hf : fewB n with _ | _
  · rw [hf] at FW
    clear hf
    obtain ⟨id, frm, kno, srt, num, den, off⟩ := x
    unfold boxX at KB
    unfold eqV
    dsimp only at KB ⊢
    go_enter Tryz.func17, Tryz.ntmps17
    go_wp2_with fail
    refine (FW.out _).mono ?_
    rintro e w1 ⟨rfl, rfl⟩
    go_wp2_with fail
    refine (alive_any _ (HE.out.kept KB.out)).mono ?_
    rintro e w2 ⟨rfl, hk2⟩
    go_wp2_with fail
    go_ret
    exact ⟨rfl, KB.out.trans hk2⟩
  have hn205 := few_le hf
  rw [hf] at FW
  clear hf
  replace OA := Lib.hid (fun W h => OA.out W h (by omega))
  by_cases hl1 : 100 < sort.size
  · obtain ⟨id, frm, kno, srt, num, den, off⟩ := x
    unfold boxX at KB
    unfold eqV
    dsimp only at KB ⊢
    have i1 : (100 : Int) < (sort.size : Int) := by omega
    go_enter Tryz.func17, Tryz.ntmps17
    go_wp2_with fail
    refine (FW.out _).mono ?_
    rintro e w1 ⟨rfl, rfl⟩
    go_wp2_with fail
    refine (alive_any _ (HE.out.kept KB.out)).mono ?_
    rintro e w2 ⟨rfl, hk2⟩
    go_wp2_with fail
    go_ret
    exact ⟨rfl, KB.out.trans hk2⟩
  have i1 : ¬ (100 : Int) < (sort.size : Int) := by omega
  by_cases hl2 : 100 < x.sort.size
  · obtain ⟨id, frm, kno, srt, num, den, off⟩ := x
    unfold boxX at KB
    unfold eqV
    dsimp only at KB hl2 ⊢
    have i2 : (100 : Int) < (srt.size : Int) := by omega
    go_enter Tryz.func17, Tryz.ntmps17
    go_wp2_with fail
    refine (FW.out _).mono ?_
    rintro e w1 ⟨rfl, rfl⟩
    go_wp2_with fail
    refine (alive_any _ (HE.out.kept KB.out)).mono ?_
    rintro e w2 ⟨rfl, hk2⟩
    go_wp2_with fail
    go_ret
    exact ⟨rfl, KB.out.trans hk2⟩
  by_cases hc : (chkS (xs ++ [x])).2 = 0
  case neg =>
    obtain ⟨E, hE⟩ : ∃ E, (chkS (xs ++ [x])).2 = E := ⟨_, rfl⟩
    have hE0 : (E != 0) = true := by rw [← hE]; simpa using hc
    have AE := Lib.hid (fun W h => append_err A n c xs x (by omega) hs E hE hE0 W h)
    clear hE hc
    obtain ⟨id, frm, kno, srt, num, den, off⟩ := x
    obtain ⟨⟨id2, frm2, kno2, srt2, num2, den2, off2⟩, ee⟩ := ea
    unfold boxX at KB
    unfold ofV eqV at OA
    unfold eqV at AE ⊢
    dsimp only at KB hl2 OA AE ⊢
    have i2 : ¬ (100 : Int) < (srt.size : Int) := by omega
    go_enter Tryz.func17, Tryz.ntmps17
    go_wp2_with fail
    refine (FW.out _).mono ?_
    rintro e w1 ⟨rfl, rfl⟩
    go_wp2_with fail
    refine (OA.out _ (HT.out.kept KB.out)).mono ?_
    rintro e w1 ⟨rfl, hk1⟩
    have K1 := Lib.hid ((KB.out.trans hk1).alloc (boxX ⟨id2, frm2, kno2, srt2, num2, den2, off2⟩))
    have X1 := X0.out.kept (hk1.alloc (boxX ⟨id2, frm2, kno2, srt2, num2, den2, off2⟩))
    unfold boxX at K1 X1
    have x0 := (X1 0 _ rfl).1
    have x1 := (X1 1 _ rfl).1
    have x2 := (X1 2 _ rfl).1
    have x3 := (X1 3 _ rfl).1
    have x4 := (X1 4 _ rfl).1
    have x5 := (X1 5 _ rfl).1
    have x6 := (X1 6 _ rfl).1
    clear X1 hk1
    go_wp2_with fail
    refine (AE.out _ (HT.out.kept K1.out)).mono ?_
    rintro e w2 ⟨rfl, hk2⟩
    go_wp2_with fail
    refine (alive_any _ ((HE.out.kept K1.out).kept hk2)).mono ?_
    rintro e w3 ⟨rfl, hk3⟩
    go_wp2_with fail
    go_ret
    exact ⟨rfl, (K1.out.trans hk2).trans hk3⟩
  have HC := Lib.hid hc
  have HCX := Lib.hid (chk_pre hc)
  have AP := Lib.hid (fun W h => append_ok A n c xs x (by omega) hs hc W h)
  have RE := Lib.hid (fun W h => reached_any A n c xs x W h (by omega) hs hc)
  have TU := Lib.hid (fun W h => turns_any A n c xs sort known W h (by omega))
  obtain ⟨eb, heb⟩ : ∃ r, ofS (xs ++ [x]) sort day known = r := ⟨_, rfl⟩
  obtain ⟨ec, hec⟩ : ∃ r, ofS xs sort day x.kno = r := ⟨_, rfl⟩
  obtain ⟨ed, hed⟩ : ∃ r, ofS (xs ++ [x]) sort day x.kno = r := ⟨_, rfl⟩
  obtain ⟨ep, hep⟩ : ∃ r, ofS xs sort (day - 1) known = r := ⟨_, rfl⟩
  have OB := Lib.hid (fun mA mc W h => of_any mA (n + 1) mc (xs ++ [x]) sort day known W h (by omega))
  have OC := Lib.hid (fun W h => of_any A n c xs sort day x.kno W h (by omega))
  have OD := Lib.hid (fun mA mc W h => of_any mA (n + 1) mc (xs ++ [x]) sort day x.kno W h (by omega))
  have OP := Lib.hid (fun W h => of_any A n c xs sort (day - 1) known W h (by omega))
  rw [heb] at OB
  rw [hec] at OC
  rw [hed] at OD
  rw [hep] at OP
  have G1 := Lib.hid (fun (h : known < x.kno) => (show eb = ea by rw [← heb, ← HA.out]; exact later_known hc sort day known h))
  obtain ⟨rs, hrs⟩ : ∃ r, reachS xs x = r := ⟨_, rfl⟩
  rw [hrs] at RE
  obtain ⟨K, hK⟩ : ∃ r, rs.any (fun z => sort.toList == z.toList) = r := ⟨_, rfl⟩
  have G2 := Lib.hid (fun (h : K = false) => (show ec.2 = ed.2 ∧ ec.1.num = ed.1.num ∧ ec.1.den = ed.1.den by rw [← hec, ← hed]; exact later_other hc sort day (by rw [hrs, hK]; exact h)))
  obtain ⟨ts, hts⟩ : ∃ r, turnsS xs sort known = r := ⟨_, rfl⟩
  rw [hts] at TU
  have G3 := Lib.hid (show ts.any (fun z => day == z) = !(decide (ep.1.num = ea.1.num) && decide (ep.1.den = ea.1.den) && decide (ep.2 = ea.2)) by rw [← hts, ← hep, ← HA.out]; exact later_turn HCX.out sort day known)
  have CS := Lib.hid (fun qA qn qc W h => contains_s qA qn qc rs sort W h)
  rw [hK] at CS
  have CI := Lib.hid (fun qA qn qc W h => contains_i qA qn qc ts day W h)
  obtain ⟨T, hT⟩ : ∃ r, ts.any (fun z => day == z) = r := ⟨_, rfl⟩
  rw [hT] at CI G3
  clear hc heb hec hed hep hrs hK hts hT
  obtain ⟨id, frm, kno, srt, num, den, off⟩ := x
  obtain ⟨⟨ai, af, ak, asr, an, ad, ao⟩, ee⟩ := ea
  obtain ⟨⟨bi, bf, bk, bsr, bn, bd, bo⟩, eb⟩ := eb
  obtain ⟨⟨ci, cf, ck, csr, cn, cd, co⟩, ec⟩ := ec
  obtain ⟨⟨di, df, dk, dsr, dn, dd, dO⟩, ed⟩ := ed
  obtain ⟨⟨pi, pf, pk, psr, pn, pd, po⟩, ep⟩ := ep
  unfold boxX at KB
  unfold ofV eqV at OA OB OC OD OP
  unfold eqV at AP RE ⊢
  dsimp only at KB hl2 OA OB OC OD OP AP RE G1 G2 G3 ⊢
  have i2 : ¬ (100 : Int) < (srt.size : Int) := by omega
  go_enter Tryz.func17, Tryz.ntmps17
  go_wp2_with fail
  refine (FW.out _).mono ?_
  rintro e w1 ⟨rfl, rfl⟩
  go_wp2_with fail
  refine (OA.out _ (HT.out.kept KB.out)).mono ?_
  rintro e w1 ⟨rfl, hk1⟩
  have K1 := Lib.hid ((KB.out.trans hk1).alloc (boxX ⟨ai, af, ak, asr, an, ad, ao⟩))
  have X1 := Lib.hid (X0.out.kept (hk1.alloc (boxX ⟨ai, af, ak, asr, an, ad, ao⟩)))
  have B1 := Lib.hid (RowC.new w1 (eqCells ⟨ai, af, ak, asr, an, ad, ao⟩) 37)
  unfold boxX at K1 X1
  have x0 := (X1.out 0 _ rfl).1
  have x1 := (X1.out 1 _ rfl).1
  have x2 := (X1.out 2 _ rfl).1
  have x3 := (X1.out 3 _ rfl).1
  have x4 := (X1.out 4 _ rfl).1
  have x5 := (X1.out 5 _ rfl).1
  have x6 := (X1.out 6 _ rfl).1
  clear hk1
  go_wp2_with fail
  refine (AP.out _ (HT.out.kept K1.out)).mono ?_
  rintro e w2 ⟨vm, rfl, hm, hk2⟩
  obtain ⟨mA, mc, rfl, hmT⟩ := tabres_form hm HT.out.2.2.2.1 SO.out
  rw [hln] at hmT ⊢
  have MT2 := Lib.hid hmT
  have K2 := Lib.hid (K1.out.trans hk2)
  have X2 := Lib.hid (X1.out.kept hk2)
  have B2 := Lib.hid (B1.out.kept hk2)
  clear hk2 hm hmT x0 x1 x2 x3 x4 x5 x6
  go_wp2_with fail
  refine (OB.out mA mc _ MT2.out).mono ?_
  rintro e w3 ⟨rfl, hk3⟩
  have K3 := Lib.hid ((K2.out.trans hk3).alloc (boxX ⟨bi, bf, bk, bsr, bn, bd, bo⟩))
  have X3 := Lib.hid (X2.out.kept (hk3.alloc (boxX ⟨bi, bf, bk, bsr, bn, bd, bo⟩)))
  have B3 := Lib.hid (B2.out.kept (hk3.alloc (boxX ⟨bi, bf, bk, bsr, bn, bd, bo⟩)))
  have MT3 := Lib.hid (MT2.out.kept (hk3.alloc (boxX ⟨bi, bf, bk, bsr, bn, bd, bo⟩)))
  have C3 := Lib.hid (RowC.new w3 (eqCells ⟨bi, bf, bk, bsr, bn, bd, bo⟩) 37)
  unfold boxX at K3 X3 B3 MT3
  clear hk3
  go_upto_region 8 with fail
  go_cut [79] (fun s79 wx => s79 = .bool false ∧ Kept w wx ∧ RowC wx w.heap.size (eqCells ⟨id, frm, kno, srt, num, den, off⟩) ∧ RowC wx w1.heap.size (eqCells ⟨ai, af, ak, asr, an, ad, ao⟩) ∧ TabA wx mA (n + 1) mc (xs ++ [⟨id, frm, kno, srt, num, den, off⟩]))
  case first =>
    have x2 := (X3.out 2 _ rfl).1
    by_cases hg : known < kno
    · have hq := G1.out hg
      injection hq with hq1 hq2
      injection hq1 with q1 q2 q3 q4 q5 q6 q7
      subst q1 q2 q3 q4 q5 q6 q7 hq2
      have y0 := (B3.out 0 _ rfl).1
      have y1 := (B3.out 1 _ rfl).1
      have y2 := (B3.out 2 _ rfl).1
      have y3 := (B3.out 3 _ rfl).1
      have y4 := (B3.out 4 _ rfl).1
      have y5 := (B3.out 5 _ rfl).1
      have y6 := (B3.out 6 _ rfl).1
      have z0 := (C3.out 0 _ rfl).1
      have z1 := (C3.out 1 _ rfl).1
      have z2 := (C3.out 2 _ rfl).1
      have z3 := (C3.out 3 _ rfl).1
      have z4 := (C3.out 4 _ rfl).1
      have z5 := (C3.out 5 _ rfl).1
      have z6 := (C3.out 6 _ rfl).1
      go_wp2_with fail
      go_meet
      exact ⟨rfl, K3.out, X3.out, B3.out, MT3.out⟩
    · go_wp2_with fail
      go_meet
      exact ⟨rfl, K3.out, X3.out, B3.out, MT3.out⟩
  case rest =>
    obtain ⟨rfl, kx, hx, hb, hmt⟩ := hcut
    rename World => w4
    have K4 := Lib.hid kx
    have X4 := Lib.hid hx
    have B4 := Lib.hid hb
    have MT4 := Lib.hid hmt
    have x0 := (X4.out 0 _ rfl).1
    have x1 := (X4.out 1 _ rfl).1
    have x2 := (X4.out 2 _ rfl).1
    have x3 := (X4.out 3 _ rfl).1
    have x4 := (X4.out 4 _ rfl).1
    have x5 := (X4.out 5 _ rfl).1
    have x6 := (X4.out 6 _ rfl).1
    clear kx hx hb hmt
    go_wp2_with fail
    refine (RE.out _ (HT.out.kept K4.out)).mono ?_
    rintro e w5 ⟨qA, qn, qc, rfl, hq, hk5⟩
    have K5 := Lib.hid (K4.out.trans hk5)
    have X5 := Lib.hid (X4.out.kept hk5)
    have B5 := Lib.hid (B4.out.kept hk5)
    have MT5 := Lib.hid (MT4.out.kept hk5)
    have Q5 := Lib.hid hq
    clear hq hk5 x0 x1 x2 x3 x4 x5 x6
    have x2 := (X5.out 2 _ rfl).1
    go_wp2_with fail
    refine (OC.out _ (HT.out.kept K5.out)).mono ?_
    rintro e w6 ⟨rfl, hk6⟩
    have K6 := Lib.hid ((K5.out.trans hk6).alloc (boxX ⟨ci, cf, ck, csr, cn, cd, co⟩))
    have X6 := Lib.hid (X5.out.kept (hk6.alloc (boxX ⟨ci, cf, ck, csr, cn, cd, co⟩)))
    have B6 := Lib.hid (B5.out.kept (hk6.alloc (boxX ⟨ci, cf, ck, csr, cn, cd, co⟩)))
    have MT6 := Lib.hid (MT5.out.kept (hk6.alloc (boxX ⟨ci, cf, ck, csr, cn, cd, co⟩)))
    have Q6 := Lib.hid (Q5.out.kept (hk6.alloc (boxX ⟨ci, cf, ck, csr, cn, cd, co⟩)))
    have C6 := Lib.hid (RowC.new w6 (eqCells ⟨ci, cf, ck, csr, cn, cd, co⟩) 37)
    unfold boxX at K6 X6 B6 MT6 Q6
    clear hk6 x2
    have x2 := (X6.out 2 _ rfl).1
    go_wp2_with fail
    refine (OD.out mA mc _ MT6.out).mono ?_
    rintro e w7 ⟨rfl, hk7⟩
    have K7 := Lib.hid ((K6.out.trans hk7).alloc (boxX ⟨di, df, dk, dsr, dn, dd, dO⟩))
    have B7 := Lib.hid (B6.out.kept (hk7.alloc (boxX ⟨di, df, dk, dsr, dn, dd, dO⟩)))
    have Q7 := Lib.hid (Q6.out.kept (hk7.alloc (boxX ⟨di, df, dk, dsr, dn, dd, dO⟩)))
    have C7 := Lib.hid (C6.out.kept (hk7.alloc (boxX ⟨di, df, dk, dsr, dn, dd, dO⟩)))
    have D7 := Lib.hid (RowC.new w7 (eqCells ⟨di, df, dk, dsr, dn, dd, dO⟩) 37)
    unfold boxX at K7 B7 Q7 C7
    clear hk7 x2
    go_upto_region 13 with fail
    go_cut [131] (fun s131 wx => s131 = .bool false ∧ Kept w wx ∧ RowC wx w1.heap.size (eqCells ⟨ai, af, ak, asr, an, ad, ao⟩))
    case first =>
      by_cases g1 : 0 ≤ day
      · by_cases g2 : day ≤ 100000
        · go_wp2_with fail
          refine (CS.out qA qn qc _ Q7.out).mono ?_
          rintro e w8 ⟨rfl, hk8⟩
          have K8 := Lib.hid (K7.out.trans hk8)
          have B8 := Lib.hid (B7.out.kept hk8)
          have C8 := Lib.hid (C7.out.kept hk8)
          have D8 := Lib.hid (D7.out.kept hk8)
          clear hk8
          rcases K with _ | _
          · obtain ⟨e1, e2, e3⟩ := G2.out rfl
            subst e1 e2 e3
            have c4 := (C8.out 4 _ rfl).1
            have c5 := (C8.out 5 _ rfl).1
            have d4 := (D8.out 4 _ rfl).1
            have d5 := (D8.out 5 _ rfl).1
            go_wp2_with fail
            go_meet
            exact ⟨rfl, K8.out, B8.out⟩
          · go_wp2_with fail
            go_meet
            exact ⟨rfl, K8.out, B8.out⟩
        · go_wp2_with fail
          go_meet
          exact ⟨rfl, K7.out, B7.out⟩
      · go_wp2_with fail
        go_meet
        exact ⟨rfl, K7.out, B7.out⟩
    case rest =>
      obtain ⟨rfl, ky, hb⟩ := hcut
      rename World => w9
      have K9 := Lib.hid ky
      have B9 := Lib.hid hb
      clear ky hb
      by_cases g1 : day < 1
      · go_wp2_with fail
        refine (alive_any _ (HE.out.kept K9.out)).mono ?_
        rintro e w10 ⟨rfl, hk10⟩
        go_wp2_with fail
        go_ret
        exact ⟨rfl, K9.out.trans hk10⟩
      by_cases g2 : 100000 < day
      · go_wp2_with fail
        refine (alive_any _ (HE.out.kept K9.out)).mono ?_
        rintro e w10 ⟨rfl, hk10⟩
        go_wp2_with fail
        go_ret
        exact ⟨rfl, K9.out.trans hk10⟩
      have hwr : IntKind.i64.wrap (day - 1) = day - 1 := IntWalk.i64_in _ (by omega)
      have hwr2 : wrap64 (day - 1) = day - 1 := by unfold wrap64; omega
      go_wp2_with fail
      refine (OP.out _ (HT.out.kept K9.out)).mono ?_
      rintro e w10 ⟨rfl, hk10⟩
      have K10 := Lib.hid ((K9.out.trans hk10).alloc (boxX ⟨pi, pf, pk, psr, pn, pd, po⟩))
      have B10 := Lib.hid (B9.out.kept (hk10.alloc (boxX ⟨pi, pf, pk, psr, pn, pd, po⟩)))
      have P10 := Lib.hid (RowC.new w10 (eqCells ⟨pi, pf, pk, psr, pn, pd, po⟩) 37)
      unfold boxX at K10 B10
      clear hk10
      go_wp2_with fail
      refine (TU.out _ (HT.out.kept K10.out)).mono ?_
      rintro e w11 ⟨v, rfl, hown, hk11⟩
      obtain ⟨tA, tc, rfl, hti⟩ := intres_form hown
      have HI := Lib.hid hti
      have K11 := Lib.hid (K10.out.trans hk11)
      have B11 := Lib.hid (B10.out.kept hk11)
      have P11 := Lib.hid (P10.out.kept hk11)
      clear hown hti hk11
      go_wp2_with fail
      refine (CI.out _ _ _ _ HI.out).mono ?_
      rintro e w12 ⟨rfl, hk12⟩
      have K12 := Lib.hid (K11.out.trans hk12)
      have B12 := Lib.hid (B11.out.kept hk12)
      have P12 := Lib.hid (P11.out.kept hk12)
      clear hk12
      go_wp2_with fail
      refine (alive_any _ (HE.out.kept K12.out)).mono ?_
      rintro e w13 ⟨rfl, hk13⟩
      have K13 := Lib.hid (K12.out.trans hk13)
      have B13 := Lib.hid (B12.out.kept hk13)
      have P13 := Lib.hid (P12.out.kept hk13)
      clear hk13
      have a4 := (B13.out 4 _ rfl).1
      have a5 := (B13.out 5 _ rfl).1
      have p4 := (P13.out 4 _ rfl).1
      have p5 := (P13.out 5 _ rfl).1
      have G := G3.out
      by_cases b1 : pn = an
      · by_cases b2 : pd = ad
        · by_cases b3 : ep = ee
          · have ht : T = false := by rw [G]; simp [b1, b2, b3]
            subst b1 b2 b3 ht
            clear G
            go_wp2_with fail
            go_ret
            exact ⟨rfl, K13.out⟩
          · have ht : T = true := by rw [G]; simp [b3]
            have b3n : (ep != ee) = true := by simpa using b3
            subst b1 b2 ht
            clear G
            go_wp2_with fail
            go_ret
            exact ⟨rfl, K13.out⟩
        · have ht : T = true := by rw [G]; simp [b2]
          subst b1 ht
          clear G
          go_wp2_with fail
          go_ret
          exact ⟨rfl, K13.out⟩
      · have ht : T = true := by rw [G]; simp [b1]
        subst ht
        clear G
        go_wp2_with fail
        go_ret
        exact ⟨rfl, K13.out⟩
end Go.Proofs.YtcjpecdnenemaaaGreatDoor
