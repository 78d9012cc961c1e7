/-
  mark: clashing
-/
import Derived.Test.YtologmoanaccpaaGreatDoorMi
import Derived.Deep.RegionLaw
namespace Go.Proofs.YtologmoanaccpaaGreatDoor
set_option linter.all false
open Go Go.RowKit

theorem info32 : (Tryz.prog.info? 32).map (fun i => (i.zero, i.size, i.bytes)) = some (some (.agg #[.int .i64 0, .int .i64 0, .int .i64 0, .int .u8 0, .int .u8 0, .int .u8 0, .int .u8 0, .int .u8 0, .int .u8 0]), 9, 32) := by kernel_rfl
theorem rowC_grown {W W' : World} {row : Option Nat} {b : Nat} {vs : List Value} (h : RowC W b vs) (hg : W.grownBy W' row) (hne : row ≠ some b) : RowC W' b vs := fun j v hv => by
  have hlt := cell_lt (h j v hv).1
  have hb := hg.block b hlt (fun e => hne e.symm)
  exact ⟨(World.cell?_of_block (a := ⟨b, j, none⟩) hb).trans (h j v hv).1, (World.frozen?_of_block (a := ⟨b, j, none⟩) hb).trans (h j v hv).2⟩
set_option maxRecDepth 100000 in
set_option maxHeartbeats 6400000 in
theorem clashing_any (A : Option Addr) (n c : Nat) (xs : List Mk) (w : World) (hn : n ≤ 1000) (hs : SlA mkC 9 Mk.ok w A n c xs) :
    Calls Tryz.prog 86 #[.slice A n c] w fun e w' => e = .returned (.bool (clashB xs)) ∧ Kept w w' := by
  obtain ⟨i0, hi0, hz0, hz1, hz2⟩ := info_parts info32
  have HS := Lib.hid hs
  have hnc := hs.2.1
  have hcm := hs.2.2.1
  have hmm := @run_makeMap Tryz.prog
  have hmf : ∀ (fn : Fn) (first cap : Array Value) (w : World), (Instr.makeFunc fn first cap).run Tryz.prog w = .ok (.func fn first cap) w := fun _ _ _ _ => rfl
  have m0 := MapG.new k3 w
  have m1 := MapG.new k30 (w.alloc (.map #[] 0))
  rw [World.size_alloc] at m1
  have F0 := Lib.hid (fam_new k3 Mk.own (B := w.heap.size + 2) (MapG.kept k3 m0 ((Kept.refl _).alloc (.map #[] 0))))
  have G0 := Lib.hid (fam_new k30 Mk.sg (B := w.heap.size + 2) m1)
  clear hs m0 m1
  go_enter Tryz.func86, Tryz.ntmps86
  go_wp2_with fail
  go_loopw [12] (fun i wr => ∃ (k : Nat) (F : Int → Value) (G : Sg → Value), k ≤ n ∧ i = .int .i64 k ∧ (∀ j m, j < k → xs[j]? = some m → clashL (xs.take j) m = false) ∧ Fam k3 Mk.own (w.heap.size + 2) w.heap.size wr (xs.take k) F ∧ Fam k30 Mk.sg (w.heap.size + 2) (w.heap.size + 1) wr (xs.take k) G ∧ (∀ o s, Apart (F o) (G s)) ∧ Kept w wr ∧ w.heap.size + 2 ≤ wr.heap.size) (fun i _ => n - (intOf i).toNat)
  case atStart => exact ⟨0, _, _, by omega, by first | rfl | go_num, fun j x hj => by omega, F0.out, G0.out, (fun o s g hg => by cases hg), ((Kept.refl _).alloc _).alloc _, by simp⟩
  case round =>
    obtain ⟨k, F, G, hk, rfl, ho, hF, hG, hFG, hkr, hsz⟩ := hrel
    have Ho := Lib.hid ho
    have HKR := Lib.hid hkr
    have HF := Lib.hid hF
    have HG := Lib.hid hG
    have HFG := Lib.hid hFG
    clear ho hkr hF hG hFG
    by_cases hlt : k < n
    · obtain ⟨x, hx⟩ : ∃ x, xs[k]? = some x := ⟨_, List.getElem?_eq_getElem (by rw [HS.out.1]; exact hlt)⟩
      have hok : ∀ m ∈ xs.take k, m.ok := fun m hm => HS.out.2.2.2.1 m (List.mem_of_mem_take hm)
      have hokF : ∀ o, ∀ m ∈ ofKey Mk.own (xs.take k) o, m.ok := fun o m hm => hok m ((List.mem_filter.1 hm).1)
      have hokG : ∀ o, ∀ m ∈ ofKey Mk.sg (xs.take k) o, m.ok := fun o m hm => hok m ((List.mem_filter.1 hm).1)
      obtain ⟨b, off, hA, ht⟩ := HS.out.2.2.2.2 (by omega)
      subst hA
      have hcc := fun j v hv => (HKR.out.cells _ _ (cell_lt (ht k x hx j v hv))).trans (ht k x hx j v hv)
      have c0 := hcc 0 _ rfl
      have c1 := hcc 1 _ rfl
      have c2 := hcc 2 _ rfl
      have c3 := hcc 3 _ rfl
      have c4 := hcc 4 _ rfl
      have c5 := hcc 5 _ rfl
      have c6 := hcc 6 _ rfl
      have c7 := hcc 7 _ rfl
      have c8 := hcc 8 _ rfl
      simp only [Nat.add_zero] at c0
      have Hx := Lib.hid hx
      obtain ⟨Wa, hWa⟩ : ∃ Wa, Wa = wr.alloc (.cells #[.int .i64 x.own, .int .i64 x.frm, .int .i64 x.unt, .int .u8 x.sg.s0, .int .u8 x.sg.s1, .int .u8 x.sg.s2, .int .u8 x.sg.s3, .int .u8 x.sg.s4, .int .u8 x.sg.s5] 32) := ⟨_, rfl⟩
      have KA := Lib.hid (show Kept wr Wa by rw [hWa]; exact (Kept.refl _).alloc _)
      have RA := Lib.hid (show RowC Wa wr.heap.size (mkC x) by rw [hWa]; exact RowC.new wr (mkC x) 32)
      have HWa := Lib.hid hWa
      have FA := Lib.hid (HF.out.kept KA.out)
      have GA := Lib.hid (HG.out.kept KA.out)
      have l1 := FA.out.lookup (T := 192) Tryz.underlying192 x.own
      obtain ⟨A1, c1', e1, s1⟩ := own_sl mkC_len (FA.out.own x.own) (hokF x.own)
      obtain ⟨A2, c2', e2, s2⟩ := own_sl mkC_len (GA.out.own x.sg) (hokG x.sg)
      rw [e1] at l1
      obtain ⟨q1, hq1⟩ : ∃ q, (ofKey Mk.own (xs.take k) x.own).any (meetsB x) = q := ⟨_, rfl⟩
      obtain ⟨q2, hq2⟩ : ∃ q, (ofKey Mk.sg (xs.take k) x.sg).any (meetsB x) = q := ⟨_, rfl⟩
      have HQ : RowKit.Hid (clashL (xs.take k) x = (q1 || q2)) := Lib.hid (by rw [clashL_or, hq1, hq2])
      have H1 : RowKit.Hid (∀ W, Kept Wa W → Calls Tryz.prog 154 #[.slice A1 (ofKey Mk.own (xs.take k) x.own).length c1', .func (.func 153) #[] #[.pointer (some ⟨wr.heap.size, 0, none⟩)]] W fun e w' => e = .returned (.bool q1) ∧ Kept W w') := Lib.hid (fun W hW => by
        rw [← hq1]; exact contains_mk 153 _ _ e153 _ _ _ _ W (s1.kept hW) (pred153 _ _ _ (RA.out.kept hW)))
      have H2 : RowKit.Hid (∀ W, Kept Wa W → Calls Tryz.prog 154 #[.slice A2 (ofKey Mk.sg (xs.take k) x.sg).length c2', .func (.func 153) #[] #[.pointer (some ⟨wr.heap.size, 0, none⟩)]] W fun e w' => e = .returned (.bool q2) ∧ Kept W w') := Lib.hid (fun W hW => by
        rw [← hq2]; exact contains_mk 153 _ _ e153 _ _ _ _ W (s2.kept hW) (pred153 _ _ _ (RA.out.kept hW)))
      have E1 := Lib.hid e1
      have E2 := Lib.hid e2
      simp only [k3, intKeys] at l1
      clear hx ht hcc hWa hok hokF hokG e1 e2 s1 s2 hq1 hq2
      go_upto_region 5 with (fail)
      rw [← HWa.out]
      have ra := RA.out
      have a0 := (ra 0 _ rfl).1
      have a1 := (ra 1 _ rfl).1
      have a2 := (ra 2 _ rfl).1
      have a3 := (ra 3 _ rfl).1
      have a4 := (ra 4 _ rfl).1
      have a5 := (ra 5 _ rfl).1
      have a6 := (ra 6 _ rfl).1
      have a7 := (ra 7 _ rfl).1
      have a8 := (ra 8 _ rfl).1
      have la := cell_lt a0
      clear ra
      go_wp2_with fail
      refine (H1.out _ (Kept.refl _)).mono ?_
      rintro e w1 ⟨rfl, hk1⟩
      have K1 := Lib.hid hk1
      clear l1 a0 a1 a2 a3 a4 a5 a6 a7 a8 la
      cases q1
      · have ra := RA.out.kept hk1
        have a0 := (ra 0 _ rfl).1
        have a1 := (ra 1 _ rfl).1
        have a2 := (ra 2 _ rfl).1
        have a3 := (ra 3 _ rfl).1
        have a4 := (ra 4 _ rfl).1
        have a5 := (ra 5 _ rfl).1
        have a6 := (ra 6 _ rfl).1
        have a7 := (ra 7 _ rfl).1
        have a8 := (ra 8 _ rfl).1
        have la := cell_lt a0
        have l2 := (GA.out.kept hk1).lookup (T := 193) Tryz.underlying193 x.sg
        rw [E2.out] at l2
        simp only [k30, eqlKeys] at l2
        clear hk1 ra
        go_wp2_with fail
        refine (H2.out _ K1.out).mono ?_
        rintro e w2 ⟨rfl, hk2⟩
        have K2 := Lib.hid (K1.out.trans hk2)
        clear l2 a0 a1 a2 a3 a4 a5 a6 a7 a8 la hk2
        cases q2
        · have KC := Lib.hid (KA.out.trans K2.out)
          have FC := Lib.hid (FA.out.kept K2.out)
          have GC := Lib.hid (GA.out.kept K2.out)
          have RC := Lib.hid (RA.out.kept K2.out)
          have hsz2 := KC.out.size
          have hno : (ofKey Mk.own (xs.take k) x.own).length ≤ 1000 := Nat.le_trans (List.length_filter_le _ _) (by rw [List.length_take]; omega)
          have hns : (ofKey Mk.sg (xs.take k) x.sg).length ≤ 1000 := Nat.le_trans (List.length_filter_le _ _) (by rw [List.length_take]; omega)
          obtain ⟨N1, hN1⟩ : ∃ N, (ofKey Mk.own (xs.take k) x.own).length = N := ⟨_, rfl⟩
          obtain ⟨N2, hN2⟩ : ∃ N, (ofKey Mk.sg (xs.take k) x.sg).length = N := ⟨_, rfl⟩
          rw [hN1] at hno
          rw [hN2] at hns
          have HN1 := Lib.hid hN1
          have HN2 := Lib.hid hN2
          have e1 := E1.out
          have e2 := E2.out
          rw [hN1] at e1
          rw [hN2] at e2
          rw [hN1, hN2]
          have EE1 := Lib.hid e1
          have EE2 := Lib.hid e2
          clear hN1 hN2 e1 e2
          go_wp2_with fail
          go_cut [] (fun wx => ∃ (F' : Int → Value), Fam k3 Mk.own (w.heap.size + 2) w.heap.size wx (xs.take k ++ [x]) F' ∧ (∀ o s, Apart (F' o) (G s)) ∧ Fam k30 Mk.sg (w.heap.size + 2) (w.heap.size + 1) wx (xs.take k) G ∧ RowC wx wr.heap.size (mkC x) ∧ Kept w wx ∧ w2.heap.size ≤ wx.heap.size)
          case first =>
            have rc := RC.out
            have a0 := (rc 0 _ rfl).1
            have a1 := (rc 1 _ rfl).1
            have a2 := (rc 2 _ rfl).1
            have a3 := (rc 3 _ rfl).1
            have a4 := (rc 4 _ rfl).1
            have a5 := (rc 5 _ rfl).1
            have a6 := (rc 6 _ rfl).1
            have a7 := (rc 7 _ rfl).1
            have a8 := (rc 8 _ rfl).1
            have la := cell_lt a0
            have kd : Kept w2 w2.drew := (Kept.refl _).drew
            have kda : Kept w2 (w2.alloc (.cells #[.int .i64 x.own, .int .i64 x.frm, .int .i64 x.unt, .int .u8 x.sg.s0, .int .u8 x.sg.s1, .int .u8 x.sg.s2, .int .u8 x.sg.s3, .int .u8 x.sg.s4, .int .u8 x.sg.s5] 32)).drew := ((Kept.refl _).alloc _).drew
            have l1 := (FC.out.kept kd).lookup (T := 192) Tryz.underlying192 x.own
            have l2 := (FC.out.kept kda).lookup (T := 192) Tryz.underlying192 x.own
            rw [EE1.out] at l1 l2
            simp only [k3, intKeys] at l1 l2
            have FD := Lib.hid (FC.out.kept kda)
            have OD := FD.out.own x.own
            rw [HN1.out, EE1.out] at OD
            have HOD := Lib.hid OD
            have HNW := Lib.hid (news_of (W := w2) (cs := mkC x) (t := 32) (m := w2.heap.size) rfl)
            have HA3 : RowKit.Hid (N1 + 1 ≤ maxLen) := Lib.hid (by unfold maxLen; omega)
            have HA4 : RowKit.Hid ((N1 + 1) * 32 ≤ 140737488355328) := Lib.hid (by omega)
            have HNE : RowKit.Hid ((Value.slice A1 N1 c1').ownBlock ≠ some wr.heap.size) := Lib.hid (fun e => by
              have h1 := own_lt (HF.out.own x.own) (g := wr.heap.size)
              have h2 : F x.own = .slice A1 N1 c1' := EE1.out
              rw [h2] at h1
              exact absurd (h1 e) (by omega))
            clear rc kd OD
            go_region_law (first
              | (refine step_append_lies _ (by rfl) (.tmp 37) (.tmp 39) 22 (by rfl) (w.heap.size + 2) 32 i0 _ 9 32 Tryz.underlying22 hi0 hz0 hz1 hz2 rfl (by omega) _ N1 _ (by rfl) HOD.out ⟨w2.heap.size, 0, none⟩ 1 1 (mkC x) (by rfl) (by rfl) HNW.out (mk_one x) (by omega) HA3.out HA4.out (by have := HKR.out.size; simp; omega) (w2.heap.size + 1) (by simp) ?_; intro g cap w6 hown6 hgrow6 hat6 hlt6
                 obtain ⟨w7, r7, m7, b7⟩ := run_mapUpdate_is k3 (T := 192) Tryz.underlying192 (MapG.of_block k3 FD.out.map (hgrow6.block _ (MapG.lt k3 FD.out.map) (fun e => by have := own_ge HOD.out e.symm; omega))) x.own (.slice (some ⟨g, 0, none⟩) (N1 + 1) cap)
                 simp only [k3, intKeys] at r7
                 have r6 := rowC_grown (RC.out.kept kda) hgrow6 (fun e => HNE.out e)
                 have d0 := (r6 0 _ rfl).1)
              | fail)
            all_goals go_wp2
            all_goals go_meet
            all_goals
              have EF : F x.own = .slice A1 N1 c1' := EE1.out
              have NF : (ofKey Mk.own (xs.take k) (Mk.own x)).length = N1 := HN1.out
              refine ⟨_, FD.out.more (by omega) (OnlyB.refl _ _) (m := x) (g := g) (c := cap) (H := w2.heap.size + 1) (by simp) (by rw [NF]; exact hown6) (by rw [EF]; exact hgrow6) (by rw [EF]; exact hat6) (by rw [NF]; exact m7) b7, ?_, ((GC.out.kept kda).grown (by omega) HOD.out hgrow6 (fun s => by have := (HFG.out x.own s).symm; rw [EF] at this; exact this)).only b7 (by omega) (by omega), rowC_only r6 b7 (by omega), (((HKR.out.trans KC.out).trans kda).grown hgrow6 (fun q hq => by have := own_ge HOD.out hq; omega)).only b7 (Nat.le_refl _), ?_⟩
              · intro o s
                by_cases e : o = x.own
                · rw [if_pos e]
                  exact Apart.next (H := w2.heap.size + 1) (by have := HFG.out x.own s; rw [EF] at this; exact this) (fun q hq => by have := own_lt (GC.out.own s) hq; omega) hat6
                · rw [if_neg e]; exact HFG.out o s
              · have h1 := hgrow6.size
                have h2 := b7.2.2
                simp at h1
                omega
          case rest =>
            obtain ⟨F', hF', hFG', hG', hR', hK', hS'⟩ := hcut
            obtain ⟨wd, rfl⟩ : ∃ wd, wd = wc := ⟨_, rfl⟩
            have a0 := (hR' 0 _ rfl).1
            have a1 := (hR' 1 _ rfl).1
            have a2 := (hR' 2 _ rfl).1
            have a3 := (hR' 3 _ rfl).1
            have a4 := (hR' 4 _ rfl).1
            have a5 := (hR' 5 _ rfl).1
            have a6 := (hR' 6 _ rfl).1
            have a7 := (hR' 7 _ rfl).1
            have a8 := (hR' 8 _ rfl).1
            have la := cell_lt a0
            have ka : Kept wd (wd.alloc (.cells #[.int .i64 x.own, .int .i64 x.frm, .int .i64 x.unt, .int .u8 x.sg.s0, .int .u8 x.sg.s1, .int .u8 x.sg.s2, .int .u8 x.sg.s3, .int .u8 x.sg.s4, .int .u8 x.sg.s5] 32)) := (Kept.refl _).alloc _
            obtain ⟨w4, s, r4, m4, b4⟩ := run_mapEntry_is k30 (T := 193) Tryz.underlying193 zeroValue22 (MapG.kept k30 hG'.map ka) x.sg
            have g4 := hG'.getD x.sg
            have EG : G x.sg = .slice A2 N2 c2' := EE2.out
            have NG : (ofKey Mk.sg (xs.take k) (Mk.sg x)).length = N2 := HN2.out
            rw [g4, EG] at r4
            simp only [k30, eqlKeys] at r4
            have OD := own_only (own_kept (hG'.own x.sg) ka) b4 (by omega)
            rw [NG, EG] at OD
            have HOD := Lib.hid OD
            have HNW : RowKit.Hid (∀ j u, (mkC x)[j]? = some u → w4.cell? ((⟨wd.heap.size, 0, none⟩ : Addr).add j) = some u) := Lib.hid (fun j u hu => by
              rw [addr_add, Nat.zero_add]
              exact (rowC_only (RowC.new wd (mkC x) 32) b4 (by omega) j u hu).1)
            have HA3 : RowKit.Hid (N2 + 1 ≤ maxLen) := Lib.hid (by unfold maxLen; omega)
            have HA4 : RowKit.Hid ((N2 + 1) * 32 ≤ 140737488355328) := Lib.hid (by omega)
            have hz4 := b4.2.2
            have HB4 : RowKit.Hid (w.heap.size + 2 ≤ w4.heap.size) := Lib.hid (by rw [hz4]; simp; omega)
            have HF' := Lib.hid hF'
            have HG' := Lib.hid hG'
            have HFG' := Lib.hid hFG'
            have HK' := Lib.hid hK'
            have KAx := Lib.hid ka
            have M4 := Lib.hid m4
            have B4 := Lib.hid b4
            have EGx := Lib.hid EG
            have NGx := Lib.hid NG
            clear hF' hG' hFG' hR' hK' ka m4 b4 g4 OD hz4 EG NG
            go_wp2_with (at_builtin; refine wpList_append_lies _ rfl (.tmp 44) (.tmp 46) 22 rfl (w.heap.size + 2) 32 i0 _ 9 32 Tryz.underlying22 hi0 hz0 hz1 hz2 rfl (by decide) _ N2 _ rfl HOD.out ⟨wd.heap.size, 0, none⟩ 1 1 (mkC x) rfl rfl HNW.out (mk_one x) (by decide) HA3.out HA4.out HB4.out _ rfl ?_; intro g2 cap2 w6 hown6 hgrow6 hat6 hlt6
                         have M6 := Lib.hid (MapS.of_block k30 M4.out (hgrow6.block _ (MapS.lt k30 M4.out) (fun e => by have := own_ge HOD.out e.symm; omega)))
                         obtain ⟨w7, r7, m7, b7⟩ := run_entryStore_is k30 (T := 193) M6.out (.slice (some ⟨g2, 0, none⟩) (N2 + 1) cap2)
                         have HOW6 := Lib.hid hown6
                         have HGR6 := Lib.hid hgrow6
                         have HAT6 := Lib.hid hat6
                         have M7 := Lib.hid m7
                         have B7 := Lib.hid b7
                         clear hown6 hgrow6 hat6 hlt6 m7 b7)
            go_roundw
            case rel =>
              have EG := EGx.out
              have NG := NGx.out
              have hb4 := B4.out
              have hb7 := B7.out
              have hg6 := HGR6.out
              have hz4 := hb4.2.2
              have hz7 := hb7.2.2
              have hz6 := hg6.size
              simp at hz4
              refine ⟨k + 1, F', (fun q => if q = x.sg then .slice (some ⟨g2, 0, none⟩) (N2 + 1) cap2 else G q), by omega, by go_num, ?_, ?_, ?_, ?_, ?_, by omega⟩
              · intro j m hj hm
                rcases Nat.lt_or_eq_of_le (Nat.le_of_lt_succ hj) with h | h
                · exact Ho.out j m h hm
                · subst h
                  have := Hx.out
                  rw [hm] at this
                  cases this
                  rw [HQ.out]; rfl
              · rw [take_snoc' Hx.out]
                exact (((HF'.out.kept KAx.out).only hb4 (by omega) (by omega)).grown (by omega) HOD.out hg6 (fun o => by have := HFG'.out o x.sg; rw [EG] at this; exact this)).only hb7 (by omega) (by omega)
              · rw [take_snoc' Hx.out]
                have hm7 : MapG k30 w7 (w.heap.size + 1) (fun k' => if k' = Mk.sg x then some (.slice (some ⟨g2, 0, none⟩) ((ofKey Mk.sg (xs.take k) (Mk.sg x)).length + 1) cap2) else (if ofKey Mk.sg (xs.take k) k' = [] then none else some (G k'))) := by
                  rw [NG]
                  refine MapG.congr k30 M7.out (fun k' => ?_)
                  by_cases e : k' = x.sg
                  · rw [if_pos e, if_pos e]
                  · rw [if_neg e, if_neg e, if_neg e]
                have h8 := (HG'.out.kept KAx.out).more (by omega) hb4 (m := x) (g := g2) (c := cap2) (H := w4.heap.size) (by simp; omega) (by rw [NG]; exact HOW6.out) (by rw [EG]; exact hg6) (by rw [EG]; exact HAT6.out) hm7 hb7
                rw [NG] at h8
                exact h8
              · intro o q
                by_cases e : q = x.sg
                · simp only [if_pos e]
                  exact (Apart.next (H := w4.heap.size) (by have := (HFG'.out o x.sg).symm; rw [EG] at this; exact this) (fun p hp => own_lt (own_only (own_kept (HF'.out.own o) KAx.out) hb4 (by omega)) hp) HAT6.out).symm
                · simp only [if_neg e]; exact HFG'.out o q
              · exact (((HK'.out.trans KAx.out).only hb4 (by omega)).grown hg6 (fun p hp => by have := own_ge HOD.out hp; omega)).only hb7 (by omega)
            case measure => simp [intOf]; omega
        · go_wp2
          go_ret
          exact ⟨ret_bool (clash_yes Hx.out (by rw [HQ.out]; rfl)).symm, HKR.out.trans (KA.out.trans K2.out)⟩
      · clear hk1
        go_wp2
        go_ret
        exact ⟨ret_bool (clash_yes Hx.out (by rw [HQ.out]; rfl)).symm, HKR.out.trans (KA.out.trans K1.out)⟩
    · obtain rfl : k = n := by omega
      go_wp2
      go_ret
      exact ⟨ret_bool (clash_no (fun j m hm => Ho.out j m (by rw [← HS.out.1]; exact (List.getElem?_eq_some_iff.1 hm).1) hm)).symm, HKR.out⟩
end Go.Proofs.YtologmoanaccpaaGreatDoor
