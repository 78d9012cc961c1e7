/-
  the reference's Free
  few, without found beasts and claims
-/
import Derived.Test.YtologmoanaccpaaGreatDoorZA
import Derived.Deep.DeepCutAuto
namespace Go.Proofs.YtologmoanaccpaaGreatDoor
set_option linter.all false
open Go.RowKit Go.Shelf

def frR (fs : List Fd) (L : List Mk) (n : Nat) : Bool := L.all fun m => !cmB fs (sgN n) m.sg 6
def frV (ms : List Mk) (fs : List Fd) (day : Int) : Sg × Int := if inE ms fs day ≠ 0 then (sgz, inE ms fs day) else match (List.range 15625).find? (frR fs (rfL ms day 40)) with | some n => (sgN n, 0) | none => (sgz, 5)
def FrV (w : World) (ms : List Mk) (fs : List Fd) (day : Int) (e : Ending) (w' : World) : Prop := e = .returned (.tuple #[sgAgg (frV ms fs day).1, .int .i64 (frV ms fs day).2]) ∧ Kept w w'
theorem range_find {p : Nat → Bool} {n k : Nat} (hk : k < n) (hp : p k = true) (ho : ∀ j, j < k → p j = false) : (List.range n).find? p = some k := by
  rw [List.find?_eq_some_iff_getElem]
  exact ⟨hp, k, by simpa using hk, by simp, fun j hj => by simp [ho j hj]⟩
theorem range_none {p : Nat → Bool} {n : Nat} (ho : ∀ j, j < n → p j = false) : (List.range n).find? p = none := by
  rw [List.find?_eq_none]
  intro x hx
  rw [ho x (List.mem_range.1 hx)]; simp
theorem fr_eq {ms : List Mk} {fs : List Fd} {day : Int} (hok : ∀ m ∈ ms, m.ok) (hfo : ∀ f ∈ fs, f.ok) (h : smE ms fs = 0) (n : Nat) : frB fs (rfL ms day 40) n = frR fs (rfL ms day 40) n := by
  obtain ⟨_, _, hv, hf, _, hcl⟩ := sm_ok h
  unfold frB frR
  rw [Bool.eq_iff_iff, List.all_eq_true, List.all_eq_true]
  have hm : ∀ m ∈ rfL ms day 40, m.sg.ok ∧ clearB m.sg = true := fun m hm => by
    unfold rfL at hm
    rw [List.mem_filterMap] at hm
    obtain ⟨i, _, hi⟩ := hm
    have h1 := (List.mem_filter.1 ((mkAt_iff hcl).1 hi).1).1
    have h2 := hv m h1
    unfold markB at h2
    rw [Bool.and_eq_true] at h2
    exact ⟨(hok m h1).2.2.2, h2.2⟩
  have hs4 : ∀ f ∈ fs, f.seen ≤ 4 := fun f hx => by
    have := hf f hx
    unfold fadeB at this
    simp only [Bool.and_eq_true, decide_eq_true_eq] at this
    exact this.1.2
  constructor
  · intro ha m hx
    have := ha m hx
    rwa [cm_ap hfo hs4 (sgN_ok n) (hm m hx).1 (sgN_clear n) (hm m hx).2] at this
  · intro ha m hx
    rw [cm_ap hfo hs4 (sgN_ok n) (hm m hx).1 (sgN_clear n) (hm m hx).2]
    exact ha m hx
theorem FreP.get {w w' : World} {ms : List Mk} {fs : List Fd} {day : Int} {e : Ending} (hok : ∀ m ∈ ms, m.ok) (hfo : ∀ f ∈ fs, f.ok) (h : FreP w ms fs day e w') : FrV w ms fs day e w' := by
  obtain ⟨⟨h0, rfl⟩ | ⟨h0, l, hp, hs, hc⟩, hk⟩ := h
  · exact ⟨by unfold frV; rw [if_pos h0]; rfl, hk⟩
  · have hsm := (fstE_two h0).1
    obtain ⟨_, _, hv, _, _, hcl⟩ := sm_ok hsm
    obtain rfl := rf_eq hcl hv hp hs
    refine ⟨?_, hk⟩
    unfold frV
    rw [if_neg (by rw [h0]; simp)]
    rcases hc with ⟨n, hn, hb, ho, rfl⟩ | ⟨ho, rfl⟩
    · rw [range_find hn (by rw [← fr_eq hok hfo hsm]; exact hb) (fun j hj => by rw [← fr_eq hok hfo hsm]; exact ho j hj)]
      rfl
    · rw [range_none (fun j hj => by rw [← fr_eq hok hfo hsm]; exact ho j hj)]
      rfl
theorem take_all2 {L : List Mk} {p : Mk → Bool} {q : Nat} {x : Mk} (h : L[q]? = some x) : (L.take (q + 1)).all p = ((L.take q).all p && p x) := by
  rw [take_snoc' h, List.all_append]; simp
set_option maxRecDepth 100000 in
set_option maxHeartbeats 6400000 in
theorem rfree_any (A B : Option Addr) (n c m d : Nat) (ms : List Mk) (fs : List Fd) (day : Int) (w : World) (hs : SmA w A n c ms B m d fs) :
    Calls Tryz.prog 43 #[.agg #[.slice A n c, .slice B m d], .int .i64 day] w (FrV w ms fs day) := by
  obtain ⟨W0, hW0⟩ : ∃ W0, W0 = (w.alloc (.cells #[.slice A n c, .slice B m d] 25)).alloc (.cells #[.int .u8 0, .int .u8 0, .int .u8 0, .int .u8 0, .int .u8 0, .int .u8 0] 39) := ⟨_, rfl⟩
  have K0 : RowKit.Hid (Kept w W0) := Lib.hid (by rw [hW0]; exact ((Kept.refl _).alloc _).alloc _)
  have R0 : RowKit.Hid (RowC W0 w.heap.size [.slice A n c, .slice B m d]) := Lib.hid (by rw [hW0]; exact (RowC.new w [.slice A n c, .slice B m d] 25).kept ((Kept.refl _).alloc _))
  have RZ : RowKit.Hid (RowC W0 (w.heap.size + 1) zero6) := Lib.hid (by rw [hW0]; have h := RowC.new (w.alloc (.cells #[.slice A n c, .slice B m d] 25)) zero6 39; rwa [World.size_alloc] at h)
  have HW := Lib.hid hW0
  have HS := Lib.hid (hs.kept K0.out)
  have HIF := Lib.hid (rinForce_any A B n c m d ms fs day W0 HS.out)
  have HCM : RowKit.Hid (∀ (s t : Sg) W, s.ok → t.ok → Kept W0 W → Calls Tryz.prog 100 #[.agg #[.slice A n c, .slice B m d], .agg #[.int .u8 s.s0, .int .u8 s.s1, .int .u8 s.s2, .int .u8 s.s3, .int .u8 s.s4, .int .u8 s.s5], .agg #[.int .u8 t.s0, .int .u8 t.s1, .int .u8 t.s2, .int .u8 t.s3, .int .u8 t.s4, .int .u8 t.s5]] W (CmR W fs s t)) := Lib.hid (fun s t W h1 h2 hW => rcommon_any A B n c m d ms fs s t h1 h2 W (HS.out.kept hW))
  have a0 := (R0.out 0 _ rfl).1
  have a1 := (R0.out 1 _ rfl).1
  have la := cell_lt a0
  clear hW0 hs
  go_enter Tryz.func43, Tryz.ntmps43
  go_upto_region 1 with (fail)
  rw [← HW.out]
  go_wp2_with fail
  refine HIF.out.mono ?_
  rintro e w1 ⟨hin, hk1⟩
  have K1 := Lib.hid hk1
  have RZ1 := Lib.hid (RZ.out.kept hk1)
  have HIN := Lib.hid hin
  clear hin hk1 a0 a1 la
  by_cases h0 : inE ms fs day = 0
  rotate_left
  · obtain rfl : e = .returned (.tuple #[.slice none 0 0, .int .i64 (inE ms fs day)]) := by
      rcases HIN.out with ⟨_, h⟩ | ⟨h, _⟩
      · exact h
      · exact absurd h h0
    have HV : RowKit.Hid (frV ms fs day = (sgz, inE ms fs day)) := Lib.hid (by unfold frV; rw [if_pos h0])
    obtain ⟨E, hE⟩ : ∃ E, inE ms fs day = E := ⟨_, rfl⟩
    rw [hE] at h0 HV ⊢
    have h1 : (E == 0) = false := by simpa using h0
    have HS6 : RowKit.Hid (RowC (set6 w1 (w.heap.size + 1) sgz) (w.heap.size + 1) (sgV sgz) ∧ Kept w (set6 w1 (w.heap.size + 1) sgz)) := Lib.hid (set6_ok RZ1.out (K0.out.trans K1.out) (by omega))
    have z0 := (RZ1.out 0 _ rfl).1
    have f0 := (RZ1.out 0 _ rfl).2
    have z1 := (RZ1.out 1 _ rfl).1
    have f1 := (RZ1.out 1 _ rfl).2
    have z2 := (RZ1.out 2 _ rfl).1
    have f2 := (RZ1.out 2 _ rfl).2
    have z3 := (RZ1.out 3 _ rfl).1
    have f3 := (RZ1.out 3 _ rfl).2
    have z4 := (RZ1.out 4 _ rfl).1
    have f4 := (RZ1.out 4 _ rfl).2
    have z5 := (RZ1.out 5 _ rfl).1
    have f5 := (RZ1.out 5 _ rfl).2
    have lz := cell_lt z0
    clear h0 hE HIN
    go_wp2_with fail
    obtain ⟨hs6, hk6⟩ := HS6.out
    unfold set6 sgz at hs6 hk6
    have e0 := (hs6 0 _ rfl).1
    have e1 := (hs6 1 _ rfl).1
    have e2 := (hs6 2 _ rfl).1
    have e3 := (hs6 3 _ rfl).1
    have e4 := (hs6 4 _ rfl).1
    have e5 := (hs6 5 _ rfl).1
    refine bodyPost_ret (v := .tuple #[.agg #[.int .u8 0, .int .u8 0, .int .u8 0, .int .u8 0, .int .u8 0, .int .u8 0], .int .i64 E]) (by simp [results, Tryz.results43, go_sem, e0, e1, e2, e3, e4, e5]) rfl ⟨?_, hk6⟩
    rw [HV.out]
    rfl
  obtain ⟨A5, n5, c5, rfl, hsl⟩ : ∃ A5 n5 c5, e = .returned (.tuple #[.slice A5 n5 c5, .int .i64 0]) ∧ SlA mkC 9 Mk.ok w1 A5 n5 c5 (rfL ms day 40) := by
    rcases HIN.out with ⟨h, _⟩ | ⟨_, A5, n5, c5, h1, h2⟩
    · exact absurd h0 h
    · exact ⟨A5, n5, c5, h1, h2⟩
  have HV : RowKit.Hid (frV ms fs day = match (List.range 15625).find? (frR fs (rfL ms day 40)) with | some n => (sgN n, 0) | none => (sgz, 5)) := Lib.hid (by unfold frV; rw [if_neg (by rw [h0]; simp)])
  obtain ⟨L, hL⟩ : ∃ L, rfL ms day 40 = L := ⟨_, rfl⟩
  rw [hL] at hsl HV
  have HSL := Lib.hid hsl
  have hnl := hsl.1
  have HNL := Lib.hid hnl
  have hnc5 := hsl.2.1
  have hcm5 := hsl.2.2.1
  clear hsl hL h0 HIN hnl
  go_wp2_with fail
  go_loopw [8] (fun i wr => ∃ k : Nat, k ≤ 15625 ∧ i = .int .i64 k ∧ (∀ j, j < k → frR fs L j = false) ∧ Kept w1 wr) (fun i _ => 15625 - (intOf i).toNat)
  case atStart => exact ⟨0, by omega, by first | rfl | go_num, fun j hj => by omega, Kept.refl _⟩
  case round =>
    obtain ⟨k, hk, rfl, ho, hkr⟩ := hrel
    have Ho := Lib.hid ho
    have HKR := Lib.hid hkr
    have hsz := hkr.size
    clear ho hkr
    by_cases hlt : k < 15625
    · have hi1 : (k : Int) < 15625 := by omega
      have hi0 : (0 : Int) ≤ (k : Int) := by omega
      go_upto_region 8 with (fail)
      obtain ⟨Wx, hWx⟩ : ∃ Wx, Wx = wr.alloc (.cells #[.int .u8 0, .int .u8 0, .int .u8 0, .int .u8 0, .int .u8 0, .int .u8 0] 39) := ⟨_, rfl⟩
      have kx : Kept wr Wx := by rw [hWx]; exact (Kept.refl _).alloc _
      have rx : RowC Wx wr.heap.size (dgK k 0) := by rw [hWx]; exact RowC.new wr (dgK k 0) 39
      rw [← hWx]
      have KX := Lib.hid kx
      have RX := Lib.hid rx
      obtain ⟨wo, hwo⟩ : ∃ wo, wo = wr := ⟨_, rfl⟩
      rw [← hwo] at HKR KX RX hsz ⊢
      clear hWx kx rx hwo
      go_wp2_with fail
      go_loopw [10, 11] (fun v i wr => ∃ j q : Nat, j ≤ 6 ∧ i = .int .i64 (5 - (j : Int)) ∧ v = .int .i64 (q : Int) ∧ k / 5 ^ j = q ∧ RowC wr wo.heap.size (dgK k j) ∧ Kept wo wr) (fun _ i _ => (intOf i + 1).toNat)
      case atStart => exact ⟨0, k, by omega, by first | rfl | go_num, by first | rfl | go_num, by simp, RX.out, KX.out⟩
      case round =>
        obtain ⟨j, q, hj, rfl, rfl, hq, h1, hkr⟩ := hrel
        have H1 := Lib.hid h1
        have HK := Lib.hid hkr
        have hqn : q ≤ 1000000 := by rw [← hq]; exact Nat.le_trans (Nat.div_le_self _ _) (by omega)
        clear h1 hkr
        by_cases hlt6 : j < 6
        · obtain ⟨c1, c2⟩ := H1.out (5 - j) _ (List.getElem?_eq_getElem (by rw [dgK_len]; omega))
          have l1 := cell_lt c1
          have e5 : (5 : Int) - (j : Int) = ((5 - j : Nat) : Int) := by omega
          have HQ : RowKit.Hid (k / 5 ^ (j + 1) = q / 5) := Lib.hid (by rw [← hq, Nat.pow_succ, Nat.div_div_eq_div_mul])
          have HD := Lib.hid (dgK_succ k j hlt6)
          rw [hq] at HD
          have hd : (q : Int).tdiv 5 = ((q / 5 : Nat) : Int) := rfl
          have hm : (q : Int).tmod 5 = ((q % 5 : Nat) : Int) := rfl
          obtain ⟨q1, hq1⟩ : ∃ q1, q / 5 = q1 := ⟨_, rfl⟩
          obtain ⟨q2, hq2⟩ : ∃ q2, q % 5 = q2 := ⟨_, rfl⟩
          have hq25 : q2 < 5 := by omega
          have hq1n : q1 ≤ 1000000 := by omega
          rw [hq1] at hd HQ
          rw [hq2] at hm HD
          have hm2 : (q : Int).tmod 5 % 256 = (q2 : Int) := by rw [hm]; omega
          have g0 : (0 : Int) ≤ 5 - (j : Int) := by omega
          clear hq hq1 hq2
          go_wp2_with fail
          go_roundw
          case rel =>
            refine ⟨j + 1, q1, by omega, by first | go_num | (congr 1; push_cast; omega), by first | rfl | go_num, HQ.out, ?_, HK.out.setCell (p := ⟨wo.heap.size, 5 - j, none⟩) (Nat.le_refl _) _⟩
            rw [← HD.out]
            exact H1.out.put (by rw [dgK_len]; omega) _
          case measure => simp [intOf]; omega
        · obtain rfl : j = 6 := by omega
          have h1 := H1.out
          rw [dgK_six] at h1
          have RG := Lib.hid h1
          have HKC := Lib.hid (HKR.out.trans HK.out)
          obtain ⟨wp, hwp⟩ : ∃ wp, wp = wr := ⟨_, rfl⟩
          rw [← hwp] at RG HKC HK ⊢
          clear h1 hwp H1 hq
          go_wp2_with fail
          go_loopw [12, 13] (fun f i wr => ∃ (q : Nat) (fb : Bool), q ≤ n5 ∧ i = .int .i64 (q : Int) ∧ f = .bool fb ∧ (L.take q).all (fun m => !cmB fs (sgN k) m.sg 6) = fb ∧ Kept wp wr) (fun f i _ => (match f with | .bool true => 1 | _ => 0) + (n5 - (intOf i).toNat))
          case atStart => exact ⟨0, true, by omega, by first | rfl | go_num, rfl, by simp, Kept.refl _⟩
          case round =>
            obtain ⟨q, fb, hq, rfl, rfl, hfb, hkr⟩ := hrel
            have HFB := Lib.hid hfb
            have HKQ := Lib.hid hkr
            clear hfb hkr
            cases fb with
            | false =>
              have HNK : RowKit.Hid (frR fs L k = false) := Lib.hid (by
                unfold frR
                have h := HFB.out
                rw [List.all_eq_false] at h ⊢
                obtain ⟨y, hy, hh⟩ := h
                exact ⟨y, List.mem_of_mem_take hy, hh⟩)
              by_cases hql : q < n5
              · have hql' : (q : Int) < (n5 : Int) := by omega
                go_wp2_with fail
                go_roundw
                case rel => exact ⟨k + 1, by omega, by go_num, (fun j hj => by
                  rcases Nat.lt_or_ge j k with h | h
                  · exact Ho.out j h
                  · obtain rfl : j = k := by omega
                    exact HNK.out), HKC.out.trans HKQ.out⟩
                case measure => simp [intOf]; omega
              · go_wp2_with fail
                go_roundw
                case rel => exact ⟨k + 1, by omega, by go_num, (fun j hj => by
                  rcases Nat.lt_or_ge j k with h | h
                  · exact Ho.out j h
                  · obtain rfl : j = k := by omega
                    exact HNK.out), HKC.out.trans HKQ.out⟩
                case measure => simp [intOf]; omega
            | true =>
              by_cases hql : q < n5
              · obtain ⟨x, hx⟩ : ∃ x, L[q]? = some x := ⟨_, List.getElem?_eq_getElem (by rw [HNL.out]; exact hql)⟩
                obtain ⟨b, off, hA, ht⟩ := HSL.out.2.2.2.2 (by omega)
                subst hA
                have HT := Lib.hid (take_all2 (p := fun m => !cmB fs (sgN k) m.sg 6) hx)
                rw [HFB.out, Bool.true_and] at HT
                have HXOK := Lib.hid (HSL.out.2.2.2.1 x (List.mem_of_getElem? hx)).2.2.2
                have CM : RowKit.Hid (∀ W, Kept w1 W → ∀ j v, (mkC x)[j]? = some v → W.cell? ⟨b, off + q * 9 + j, none⟩ = some v) := Lib.hid (fun W hW j v hv => (hW.cells _ _ (cell_lt (ht q x hx j v hv))).trans (ht q x hx j v hv))
                clear hx ht
                obtain ⟨G, hG⟩ : ∃ G, sgN k = G := ⟨_, rfl⟩
                have HGOK : RowKit.Hid G.ok := Lib.hid (by rw [← hG]; exact sgN_ok k)
                have RGG : RowKit.Hid (RowC wp wo.heap.size (sgV G)) := Lib.hid (by rw [← hG]; exact RG.out)
                have hj0 : (0 : Int) ≤ (q : Int) := by omega
                have hj1 : (q : Int) < (n5 : Int) := by omega
                obtain ⟨cb, hcb⟩ : ∃ cb, cmB fs (sgN k) x.sg 6 = cb := ⟨_, rfl⟩
                rw [hcb] at HT
                rw [hG] at hcb
                have SB : RowKit.Hid (∀ W, Kept wr W → W.cell? ⟨w.heap.size, 0, none⟩ = some (.slice A n c) ∧ W.cell? ⟨w.heap.size, 1, none⟩ = some (.slice B m d) ∧ W.cell? ⟨wo.heap.size, 0, none⟩ = some (.int .u8 G.s0) ∧ W.cell? ⟨wo.heap.size, 1, none⟩ = some (.int .u8 G.s1) ∧ W.cell? ⟨wo.heap.size, 2, none⟩ = some (.int .u8 G.s2) ∧ W.cell? ⟨wo.heap.size, 3, none⟩ = some (.int .u8 G.s3) ∧ W.cell? ⟨wo.heap.size, 4, none⟩ = some (.int .u8 G.s4) ∧ W.cell? ⟨wo.heap.size, 5, none⟩ = some (.int .u8 G.s5) ∧ W.cell? ⟨b, off + q * 9 + 3, none⟩ = some (.int .u8 x.sg.s0) ∧ W.cell? ⟨b, off + q * 9 + 4, none⟩ = some (.int .u8 x.sg.s1) ∧ W.cell? ⟨b, off + q * 9 + 5, none⟩ = some (.int .u8 x.sg.s2) ∧ W.cell? ⟨b, off + q * 9 + 6, none⟩ = some (.int .u8 x.sg.s3) ∧ W.cell? ⟨b, off + q * 9 + 7, none⟩ = some (.int .u8 x.sg.s4) ∧ W.cell? ⟨b, off + q * 9 + 8, none⟩ = some (.int .u8 x.sg.s5) ∧ Kept wr W) := Lib.hid (fun W hW => by
                  have h1 := HKC.out.trans (HKQ.out.trans hW)
                  have h0 := R0.out.kept (K1.out.trans h1)
                  have h2 := RGG.out.kept (HKQ.out.trans hW)
                  have h3 := CM.out W h1
                  exact ⟨(h0 0 _ rfl).1, (h0 1 _ rfl).1, (h2 0 _ rfl).1, (h2 1 _ rfl).1, (h2 2 _ rfl).1, (h2 3 _ rfl).1, (h2 4 _ rfl).1, (h2 5 _ rfl).1, h3 3 _ rfl, h3 4 _ rfl, h3 5 _ rfl, h3 6 _ rfl, h3 7 _ rfl, h3 8 _ rfl, hW⟩)
                obtain ⟨yy, hyy⟩ : ∃ y, (if cmB fs G x.sg 6 = true then cmS fs G x.sg else sgz) = y := ⟨_, rfl⟩
                have H100 : RowKit.Hid (∀ W, Kept wr W → Calls Tryz.prog 100 #[.agg #[.slice A n c, .slice B m d], .agg #[.int .u8 G.s0, .int .u8 G.s1, .int .u8 G.s2, .int .u8 G.s3, .int .u8 G.s4, .int .u8 G.s5], .agg #[.int .u8 x.sg.s0, .int .u8 x.sg.s1, .int .u8 x.sg.s2, .int .u8 x.sg.s3, .int .u8 x.sg.s4, .int .u8 x.sg.s5]] W fun e w' => e = .returned (.tuple #[.agg #[.int .u8 yy.s0, .int .u8 yy.s1, .int .u8 yy.s2, .int .u8 yy.s3, .int .u8 yy.s4, .int .u8 yy.s5], .bool cb]) ∧ Kept W w') := Lib.hid (fun W hW => by
                  have h := HCM.out G x.sg W HGOK.out HXOK.out (K1.out.trans (HKC.out.trans (HKQ.out.trans hW)))
                  unfold CmR at h
                  rw [hyy, hcb] at h
                  exact h)
                have q0 := (SB.out _ (Kept.refl _)).1
                have lq := cell_lt q0
                have q1 := (SB.out _ (Kept.refl _)).2.2.1
                have lq1 := cell_lt q1
                have q2 := (SB.out _ (Kept.refl _)).2.2.2.2.2.2.2.2.1
                have lq2 := cell_lt q2
                clear hG hcb q0 q1 q2 hyy
                go_upto_region 18 with (fail)
                go_cut [15] (fun s15 wx => s15 = .bool cb ∧ Kept wr wx)
                case first =>
                  have kd : Kept wr wr.drew := (Kept.refl wr).drew
                  have kda : Kept wr ((wr.alloc (.cells #[.int .u8 0, .int .u8 0, .int .u8 0, .int .u8 0, .int .u8 0, .int .u8 0] 39)).drew) := ((Kept.refl wr).alloc _).drew
                  have SD := Lib.hid (SB.out _ kd)
                  have SDA := Lib.hid (SB.out _ kda)
                  go_region_held3 (fun W => W.cell? ⟨w.heap.size, 0, none⟩ = some (.slice A n c) ∧ W.cell? ⟨w.heap.size, 1, none⟩ = some (.slice B m d) ∧ W.cell? ⟨wo.heap.size, 0, none⟩ = some (.int .u8 G.s0) ∧ W.cell? ⟨wo.heap.size, 1, none⟩ = some (.int .u8 G.s1) ∧ W.cell? ⟨wo.heap.size, 2, none⟩ = some (.int .u8 G.s2) ∧ W.cell? ⟨wo.heap.size, 3, none⟩ = some (.int .u8 G.s3) ∧ W.cell? ⟨wo.heap.size, 4, none⟩ = some (.int .u8 G.s4) ∧ W.cell? ⟨wo.heap.size, 5, none⟩ = some (.int .u8 G.s5) ∧ W.cell? ⟨b, off + q * 9 + 3, none⟩ = some (.int .u8 x.sg.s0) ∧ W.cell? ⟨b, off + q * 9 + 4, none⟩ = some (.int .u8 x.sg.s1) ∧ W.cell? ⟨b, off + q * 9 + 5, none⟩ = some (.int .u8 x.sg.s2) ∧ W.cell? ⟨b, off + q * 9 + 6, none⟩ = some (.int .u8 x.sg.s3) ∧ W.cell? ⟨b, off + q * 9 + 7, none⟩ = some (.int .u8 x.sg.s4) ∧ W.cell? ⟨b, off + q * 9 + 8, none⟩ = some (.int .u8 x.sg.s5) ∧ Kept wr W)
                    (first
                      | (with_reducible exact SD.out)
                      | (with_reducible exact SDA.out)
                      | (with_reducible exact SB.out _ kk9)
                      | (with_reducible exact SB.out _ (kk9.alloc _))
                      | (with_reducible exact SB.out _ ((((((kk9.setCell (Nat.le_refl _) _).setCell (Nat.le_refl _) _).setCell (Nat.le_refl _) _).setCell (Nat.le_refl _) _).setCell (Nat.le_refl _) _).setCell (Nat.le_refl _) _))
                      | (with_reducible exact SB.out _ (((((((kk9.alloc _).setCell kk9.size _).setCell kk9.size _).setCell kk9.size _).setCell kk9.size _).setCell kk9.size _).setCell kk9.size _))
                      | fail)
                    (first
                      | (go_at_call 100; (with_reducible refine (H100.out _ kd).mono ?_); rintro e w9 ⟨rfl, hk9⟩; have kk9 : Kept wr w9 := (by with_reducible exact kd.trans hk9))
                      | (go_at_call 100; (with_reducible refine (H100.out _ kda).mono ?_); rintro e w9 ⟨rfl, hk9⟩; have kk9 : Kept wr w9 := (by with_reducible exact kda.trans hk9); have rz := ((RowC.new wr zero6 39).drew).kept hk9; have z0 := (rz 0 _ rfl).1; have y0 := (rz 0 _ rfl).2; have z1 := (rz 1 _ rfl).1; have y1 := (rz 1 _ rfl).2; have z2 := (rz 2 _ rfl).1; have y2 := (rz 2 _ rfl).2; have z3 := (rz 3 _ rfl).1; have y3 := (rz 3 _ rfl).2; have z4 := (rz 4 _ rfl).1; have y4 := (rz 4 _ rfl).2; have z5 := (rz 5 _ rfl).1; have y5 := (rz 5 _ rfl).2; have lz := cell_lt z0)
                      | fail)
                  all_goals go_wp2
                  all_goals go_meet
                  all_goals first
                    | (with_reducible exact ⟨rfl, kk9.alloc _⟩)
                    | (with_reducible exact ⟨rfl, ((((((kk9.setCell (Nat.le_refl _) _).setCell (Nat.le_refl _) _).setCell (Nat.le_refl _) _).setCell (Nat.le_refl _) _).setCell (Nat.le_refl _) _).setCell (Nat.le_refl _) _)⟩)
                obtain ⟨rfl, kx⟩ := hcut
                obtain ⟨wd, rfl⟩ : ∃ wd, wd = wc := ⟨_, rfl⟩
                have KD := Lib.hid (HKQ.out.trans kx)
                clear kx
                cases cb <;>
                · go_wp2_with fail
                  go_roundw
                  case rel => exact ⟨q + 1, _, by omega, by go_num, rfl, HT.out, KD.out⟩
                  case measure => simp [intOf]; omega
              · obtain rfl : q = n5 := by omega
                have HYK : RowKit.Hid (frR fs L k = true) := Lib.hid (by
                  have h := HFB.out
                  rw [List.take_of_length_le (by rw [HNL.out]; exact Nat.le_refl _)] at h
                  exact h)
                have HFN := Lib.hid (range_find hlt HYK.out Ho.out)
                obtain ⟨y, hy⟩ : ∃ y, sgN k = y := ⟨_, rfl⟩
                have RGY : RowKit.Hid (RowC wr wo.heap.size (sgV y)) := Lib.hid (by rw [← hy]; exact RG.out.kept HKQ.out)
                have HY := Lib.hid hy
                clear hy
                have RZ2 := Lib.hid (RZ1.out.kept (HKC.out.trans HKQ.out))
                have HS6 : RowKit.Hid (RowC (set6 wr (w.heap.size + 1) y) (w.heap.size + 1) (sgV y) ∧ Kept w (set6 wr (w.heap.size + 1) y)) := Lib.hid (set6_ok RZ2.out (K0.out.trans (K1.out.trans (HKC.out.trans HKQ.out))) (by omega))
                have z0 := (RZ2.out 0 _ rfl).1
                have f0 := (RZ2.out 0 _ rfl).2
                have v0 := (RGY.out 0 _ rfl).1
                have z1 := (RZ2.out 1 _ rfl).1
                have f1 := (RZ2.out 1 _ rfl).2
                have v1 := (RGY.out 1 _ rfl).1
                have z2 := (RZ2.out 2 _ rfl).1
                have f2 := (RZ2.out 2 _ rfl).2
                have v2 := (RGY.out 2 _ rfl).1
                have z3 := (RZ2.out 3 _ rfl).1
                have f3 := (RZ2.out 3 _ rfl).2
                have v3 := (RGY.out 3 _ rfl).1
                have z4 := (RZ2.out 4 _ rfl).1
                have f4 := (RZ2.out 4 _ rfl).2
                have v4 := (RGY.out 4 _ rfl).1
                have z5 := (RZ2.out 5 _ rfl).1
                have f5 := (RZ2.out 5 _ rfl).2
                have v5 := (RGY.out 5 _ rfl).1
                have lz := cell_lt z0
                have lv := cell_lt v0
                go_wp2_with fail
                obtain ⟨hs6, hk6⟩ := HS6.out
                unfold set6 at hs6 hk6
                have e0 := (hs6 0 _ rfl).1
                have e1 := (hs6 1 _ rfl).1
                have e2 := (hs6 2 _ rfl).1
                have e3 := (hs6 3 _ rfl).1
                have e4 := (hs6 4 _ rfl).1
                have e5 := (hs6 5 _ rfl).1
                refine bodyPost_ret (v := .tuple #[.agg #[.int .u8 y.s0, .int .u8 y.s1, .int .u8 y.s2, .int .u8 y.s3, .int .u8 y.s4, .int .u8 y.s5], .int .i64 0]) (by simp [results, Tryz.results43, go_sem, e0, e1, e2, e3, e4, e5]) rfl ⟨?_, hk6⟩
                rw [HV.out, HFN.out, ← HY.out]
                rfl
    · obtain rfl : k = 15625 := by omega
      have HN := Lib.hid (range_none Ho.out)
      have RZ2 := Lib.hid (RZ1.out.kept HKR.out)
      have HS6 : RowKit.Hid (RowC (set6 wr (w.heap.size + 1) sgz) (w.heap.size + 1) (sgV sgz) ∧ Kept w (set6 wr (w.heap.size + 1) sgz)) := Lib.hid (set6_ok RZ2.out (K0.out.trans (K1.out.trans HKR.out)) (by omega))
      have z0 := (RZ2.out 0 _ rfl).1
      have f0 := (RZ2.out 0 _ rfl).2
      have z1 := (RZ2.out 1 _ rfl).1
      have f1 := (RZ2.out 1 _ rfl).2
      have z2 := (RZ2.out 2 _ rfl).1
      have f2 := (RZ2.out 2 _ rfl).2
      have z3 := (RZ2.out 3 _ rfl).1
      have f3 := (RZ2.out 3 _ rfl).2
      have z4 := (RZ2.out 4 _ rfl).1
      have f4 := (RZ2.out 4 _ rfl).2
      have z5 := (RZ2.out 5 _ rfl).1
      have f5 := (RZ2.out 5 _ rfl).2
      have lz := cell_lt z0
      go_wp2_with fail
      obtain ⟨hs6, hk6⟩ := HS6.out
      unfold set6 sgz at hs6 hk6
      have e0 := (hs6 0 _ rfl).1
      have e1 := (hs6 1 _ rfl).1
      have e2 := (hs6 2 _ rfl).1
      have e3 := (hs6 3 _ rfl).1
      have e4 := (hs6 4 _ rfl).1
      have e5 := (hs6 5 _ rfl).1
      refine bodyPost_ret (v := .tuple #[.agg #[.int .u8 0, .int .u8 0, .int .u8 0, .int .u8 0, .int .u8 0, .int .u8 0], .int .i64 5]) (by simp [results, Tryz.results43, go_sem, e0, e1, e2, e3, e4, e5]) rfl ⟨?_, hk6⟩
      rw [HV.out, HN.out]
      rfl
end Go.Proofs.YtologmoanaccpaaGreatDoor

namespace Go.Proofs.YtologmoanaccpaaGreatDoor
set_option linter.all false
open Go.RowKit Go.Shelf

def FewP (w : World) (e : Ending) (w' : World) : Prop := (∃ b, e = .returned (.bool b)) ∧ Kept w w'
theorem sla_nil {α : Type} {enc : α → List Value} {k : Nat} {ok : α → Prop} (w : World) : SlA enc k ok w none 0 0 [] := ⟨rfl, by omega, by omega, (fun m hm => by cases hm), fun hp => by omega⟩
set_option maxRecDepth 100000 in
set_option maxHeartbeats 6400000 in
theorem few0_any (A B : Option Addr) (n c m d : Nat) (ms : List Mk) (fs : List Fd) (w : World) (hs : SmA w A n c ms B m d fs) :
    Calls Tryz.prog 27 #[.agg #[.slice A n c, .slice B m d], .slice none 0 0, .slice none 0 0] w (FewP w) := by
  obtain ⟨W0, hW0⟩ : ∃ W0, W0 = w.alloc (.cells #[.slice A n c, .slice B m d] 25) := ⟨_, rfl⟩
  have K0 : RowKit.Hid (Kept w W0) := Lib.hid (by rw [hW0]; exact (Kept.refl _).alloc _)
  have R0 : RowKit.Hid (RowC W0 w.heap.size [.slice A n c, .slice B m d]) := Lib.hid (by rw [hW0]; exact RowC.new w [.slice A n c, .slice B m d] 25)
  have HW := Lib.hid hW0
  have hnc := hs.1.2.1
  have hcm := hs.1.2.2.1
  have hmc := hs.2.2.1
  have hdm := hs.2.2.2.1
  have a0 := (R0.out 0 _ rfl).1
  have a1 := (R0.out 1 _ rfl).1
  have la := cell_lt a0
  clear hW0 hs
  by_cases n1 : 12 < n
  · by_cases n2 : n ≤ 100
    · go_enter Tryz.func27, Tryz.ntmps27
      go_upto_region 1 with (fail)
      rw [← HW.out]
      go_wp2_with fail
      go_ret
      exact ⟨⟨_, rfl⟩, K0.out⟩
    · by_cases n3 : 110 < n
      · go_enter Tryz.func27, Tryz.ntmps27
        go_upto_region 1 with (fail)
        rw [← HW.out]
        go_wp2_with fail
        go_ret
        exact ⟨⟨_, rfl⟩, K0.out⟩
      · by_cases m1 : 30 < m
        · go_enter Tryz.func27, Tryz.ntmps27
          go_upto_region 1 with (fail)
          rw [← HW.out]
          go_wp2_with fail
          go_ret
          exact ⟨⟨_, rfl⟩, K0.out⟩
        · go_enter Tryz.func27, Tryz.ntmps27
          go_upto_region 1 with (fail)
          rw [← HW.out]
          go_wp2_with fail
          go_ret
          exact ⟨⟨_, rfl⟩, K0.out⟩
  · have n3 : ¬ 110 < n := by omega
    by_cases m1 : 30 < m
    · go_enter Tryz.func27, Tryz.ntmps27
      go_upto_region 1 with (fail)
      rw [← HW.out]
      go_wp2_with fail
      go_ret
      exact ⟨⟨_, rfl⟩, K0.out⟩
    · go_enter Tryz.func27, Tryz.ntmps27
      go_upto_region 1 with (fail)
      rw [← HW.out]
      go_wp2_with fail
      go_ret
      exact ⟨⟨_, rfl⟩, K0.out⟩
end Go.Proofs.YtologmoanaccpaaGreatDoor
