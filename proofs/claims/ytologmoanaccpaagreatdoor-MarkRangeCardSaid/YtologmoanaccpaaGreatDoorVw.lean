/-
  the law MarkRange
-/
import Derived.Test.YtologmoanaccpaaGreatDoorVU
import Derived.Test.YtologmoanaccpaaGreatDoorBN
import Derived.Test.YtologmoanaccpaaGreatDoorXZ
namespace Go.Proofs.YtologmoanaccpaaGreatDoor
set_option linter.all false
open Go.RowKit Go.Shelf

theorem fst4 {a b c d : Int} (h1 : a = 0) (h2 : b = 0) (h3 : c = 0) (h4 : d = 0) : fstE [a, b, c, d] = 0 := by rw [h1, h2, h3, h4]; rfl
theorem mst_zero {ms : List Mk} {fs : List Fd} {day o : Int} {found : List Sg} {cls : List Cl} : mstE ms fs day o found cls = 0 ↔ rgE ms fs day found o = 0 ∧ chE ms fs day found cls = 0 := by
  constructor
  · intro h
    obtain ⟨e1, e2, e3, e4, e5⟩ := fstE_five h
    exact ⟨fst4 e1 e2 e3 e4, fst4 e1 e2 e4 e5⟩
  · rintro ⟨h1, h2⟩
    obtain ⟨e1, e2, e3, e4⟩ := fstE_four h1
    obtain ⟨_, _, _, e5⟩ := fstE_four h2
    unfold mstE
    rw [e1, e2, e3, e4, e5]
    rfl
theorem top_ch {ms : List Mk} {fs : List Fd} {day o : Int} {found : List Sg} {cls : List Cl} (h : mstE ms fs day o found cls = 0) (hl : cls.length ≤ 8) {k : Int} (hk : 0 ≤ k ∧ k ≤ 60) : chE ms fs day found (topL cls o k) = 0 := by
  obtain ⟨e1, e2, e3, e4, e5⟩ := fstE_five h
  obtain ⟨c1, c2, c3⟩ := cl_ok e5
  have hin : inB o 1 40 = true := inB_iff.2 (own_of_mst h)
  have hrep : repB ((topL cls o k).map Cl.own) = false := rep_no (top_nodup o k c3)
  have hle : (othL cls o).length ≤ cls.length := List.length_filter_le _ _
  have h5 : clE (topL cls o k) = 0 := by
    unfold clE
    rw [if_neg (by unfold topL; simp; omega), if_pos, hrep]
    · rfl
    · rw [List.all_eq_true]
      intro x hx
      rcases List.mem_cons.1 hx with hx | hx
      · subst hx
        unfold claimB
        simp [inB_iff, hin, hk.1, hk.2]
      · exact c2 x (oth_mem hx).1
  exact fst4 e1 e2 e4 h5
theorem top_snoc {cls : List Cl} {o k : Int} {j : Nat} {y : Cl} (h : cls[j]? = some y) : topL (cls.take (j + 1)) o k = if y.own = o then topL (cls.take j) o k else topL (cls.take j) o k ++ [y] := by
  rw [take_snoc' h]
  unfold topL othL
  rw [List.filter_append, List.filter_cons, List.filter_nil]
  by_cases e : y.own = o
  · rw [if_pos e, if_neg (by simp [e]), List.append_nil]
  · rw [if_neg e, if_pos (by simpa using e)]
    rfl
theorem count_snoc' {l : List Int} {j : Nat} {y o : Int} (h : l[j]? = some y) : (l.take (j + 1)).count o = (l.take j).count o + if y = o then 1 else 0 := by
  rw [take_snoc' h, List.count_append, List.count_singleton]
  by_cases e : y = o
  · simp [e]
  · simp [e]
set_option maxRecDepth 100000 in
set_option maxHeartbeats 25600000 in
theorem markRange_any (A B C D G : Option Addr) (n c m d p q u v x y : Nat) (ms : List Mk) (fs : List Fd) (day o : Int) (found : List Sg) (cls : List Cl) (ows : List Int) (w : World) (hs : SmA w A n c ms B m d fs) (hfo : SlA sgV 6 Sg.ok w C p q found) (hcl : SlA clC 2 Cl.ok w D u v cls) (how : SlA inC 1 i64 w G x y ows) (ho : i64 o) (hE : EnvT w) (hM : EnvM w) :
    Calls Tryz.prog 17 #[.agg #[.slice A n c, .slice B m d], .int .i64 day, .slice C p q, .slice D u v, .slice G x y, .int .i64 o] w fun e w' => e = .returned (.bool true) ∧ Kept w w' := by
  obtain ⟨W0, hW0⟩ : ∃ W0, W0 = w.alloc (.cells #[.slice A n c, .slice B m d] 25) := ⟨_, rfl⟩
  have K0 : RowKit.Hid (Kept w W0) := Lib.hid (by rw [hW0]; exact (Kept.refl _).alloc _)
  have R0 : RowKit.Hid (RowC W0 w.heap.size [.slice A n c, .slice B m d]) := Lib.hid (by rw [hW0]; exact RowC.new w [.slice A n c, .slice B m d] 25)
  have HW := Lib.hid hW0
  have HOK := Lib.hid hs.1.2.2.2.1
  have HFD := Lib.hid hs.2.2.2.2.1
  have HSO := Lib.hid hfo.2.2.2.1
  have HFN := Lib.hid hfo.1
  have HOW := Lib.hid (how.kept K0.out)
  have HCL := Lib.hid (hcl.kept K0.out)
  have HXN := Lib.hid how.1
  have HO64 := Lib.hid ho
  have hxy := how.2.1
  have hym := how.2.2.1
  have HMK : RowKit.Hid (∀ W, Kept W0 W → Calls Tryz.prog 19 #[] W fun e w' => e = .returned (.bool true) ∧ Kept W w') := Lib.hid (fun W hW => marked_any W (hE.kept (K0.out.trans hW)) (hM.kept (K0.out.trans hW)))
  have H44 : RowKit.Hid (∀ W, Kept W0 W → Calls Tryz.prog 44 #[.agg #[.slice A n c, .slice B m d], .int .i64 day, .slice C p q, .int .i64 o] W (RgP W ms fs day found o)) := Lib.hid (fun W hW => range_any A B C n c m d p q ms fs day o found W (hs.kept (K0.out.trans hW)) (hfo.kept (K0.out.trans hW)))
  have H49 : RowKit.Hid (∀ (L : List Cl) g k9 d9 W, Kept W0 W → SlA clC 2 Cl.ok W (some ⟨g, 0, none⟩) k9 d9 L → Calls Tryz.prog 49 #[.agg #[.slice A n c, .slice B m d], .int .i64 day, .slice C p q, .slice (some ⟨g, 0, none⟩) k9 d9] W (AsP W ms fs day found L p)) := Lib.hid (fun L g k9 d9 W hW h => assign_any A B C (some ⟨g, 0, none⟩) n c m d p q k9 d9 ms fs day found L W (hs.kept (K0.out.trans hW)) (hfo.kept (K0.out.trans hW)) h (hE.kept (K0.out.trans hW)))
  have H51 : RowKit.Hid (x ≤ 30 → ∀ W, Kept W0 W → Calls Tryz.prog 51 #[.agg #[.slice A n c, .slice B m d], .int .i64 day, .slice C p q, .slice D u v, .slice G x y] W (MeP W ms fs day found cls ows)) := Lib.hid (fun hx W hW => meets_any A B C D G n c m d p q u v x y ms fs day found cls ows W (hs.kept (K0.out.trans hW)) (hfo.kept (K0.out.trans hW)) (hcl.kept (K0.out.trans hW)) (ia_of (how.kept (K0.out.trans hW)) (by omega)) (by omega) (hE.kept (K0.out.trans hW)))
  have H59 : RowKit.Hid (∀ W, Kept W0 W → Calls Tryz.prog 59 #[.agg #[.slice A n c, .slice B m d], .int .i64 day, .slice C p q, .slice D u v, .int .i64 o] W (MstP W ms fs day o found cls)) := Lib.hid (fun W hW => most_any A B C D n c m d p q u v ms fs day o found cls W (hs.kept (K0.out.trans hW)) (hfo.kept (K0.out.trans hW)) (hcl.kept (K0.out.trans hW)) ho (hE.kept (K0.out.trans hW)))
  have hnc := hs.1.2.1
  have hcm := hs.1.2.2.1
  have hpc := hfo.2.1
  have hpm := hfo.2.2.1
  have huc := hcl.2.1
  have hum := hcl.2.2.1
  have HCN := Lib.hid hcl.1
  obtain ⟨i4, hi4, hz4a, hz4b, hz4c⟩ := info_parts info94x
  clear hW0 hs hfo hcl how hE hM ho
  have a0 := (R0.out 0 _ rfl).1
  have a1 := (R0.out 1 _ rfl).1
  have la := cell_lt a0
  go_enter Tryz.func17, Tryz.ntmps17
  go_upto_region 1 with (fail)
  rw [← HW.out]
  by_cases hn40 : 40 < n
  · go_wp2_with fail
    refine (HMK.out _ (Kept.refl _)).mono ?_
    rintro e w2 ⟨rfl, hk2⟩
    have K2 := Lib.hid (K0.out.trans hk2)
    clear hk2
    go_wp2_with fail
    go_ret
    exact ⟨rfl, K2.out⟩
  by_cases hp20 : 20 < p
  · go_wp2_with fail
    refine (HMK.out _ (Kept.refl _)).mono ?_
    rintro e w2 ⟨rfl, hk2⟩
    have K2 := Lib.hid (K0.out.trans hk2)
    clear hk2
    go_wp2_with fail
    go_ret
    exact ⟨rfl, K2.out⟩
  by_cases hu8 : 8 < u
  · go_wp2_with fail
    refine (HMK.out _ (Kept.refl _)).mono ?_
    rintro e w2 ⟨rfl, hk2⟩
    have K2 := Lib.hid (K0.out.trans hk2)
    clear hk2
    go_wp2_with fail
    go_ret
    exact ⟨rfl, K2.out⟩
  by_cases hx30 : 30 < x
  · go_wp2_with fail
    refine (HMK.out _ (Kept.refl _)).mono ?_
    rintro e w2 ⟨rfl, hk2⟩
    have K2 := Lib.hid (K0.out.trans hk2)
    clear hk2
    go_wp2_with fail
    go_ret
    exact ⟨rfl, K2.out⟩
  have J51 := Lib.hid (H51.out (by omega))
  obtain ⟨E1, hE1⟩ : ∃ E, rgE ms fs day found o = E := ⟨_, rfl⟩
  obtain ⟨E2, hE2⟩ : ∃ E, chE ms fs day found cls = E := ⟨_, rfl⟩
  have HE1 := Lib.hid hE1
  have HE2 := Lib.hid hE2
  clear hE1 hE2
  by_cases hA : E1 = 0 ∧ E2 = 0
  rotate_left
  · obtain ⟨E3, hE3⟩ : ∃ E, mstE ms fs day o found cls = E := ⟨_, rfl⟩
    have h3 : E3 ≠ 0 := fun e => hA (by have h := mst_zero.1 (hE3.trans e); rw [HE1.out, HE2.out] at h; exact h)
    have G44 : RowKit.Hid (∀ W, Kept W0 W → Calls Tryz.prog 44 #[.agg #[.slice A n c, .slice B m d], .int .i64 day, .slice C p q, .int .i64 o] W fun e w' => (∃ S1 S2 : Int, e = .returned (.tuple #[.int .i64 S1, .int .i64 S2, .int .i64 E1])) ∧ Kept W w') := Lib.hid (fun W hW => (H44.out W hW).mono fun e w' h => by
      obtain ⟨⟨_, rfl⟩ | ⟨h0, rfl⟩, hk⟩ := h
      · exact ⟨⟨_, _, by rw [HE1.out]⟩, hk⟩
      · exact ⟨⟨_, _, by rw [← HE1.out, h0]⟩, hk⟩)
    have G51 : RowKit.Hid (∀ W, Kept W0 W → Calls Tryz.prog 51 #[.agg #[.slice A n c, .slice B m d], .int .i64 day, .slice C p q, .slice D u v, .slice G x y] W fun e w' => (∃ b : Bool, e = .returned (.tuple #[.bool b, .int .i64 E2])) ∧ Kept W w') := Lib.hid (fun W hW => (J51.out W hW).mono fun e w' h => by
      obtain ⟨⟨_, rfl⟩ | ⟨h0, b, rfl, _⟩, hk⟩ := h
      · exact ⟨⟨_, by rw [HE2.out]⟩, hk⟩
      · exact ⟨⟨_, by rw [← HE2.out, h0]⟩, hk⟩)
    have G59 : RowKit.Hid (∀ W, Kept W0 W → Calls Tryz.prog 59 #[.agg #[.slice A n c, .slice B m d], .int .i64 day, .slice C p q, .slice D u v, .int .i64 o] W fun e w' => e = .returned (.tuple #[.int .i64 0, .int .i64 E3]) ∧ Kept W w') := Lib.hid (fun W hW => (H59.out W hW).mono fun e w' h => by
      obtain ⟨⟨_, rfl⟩ | ⟨h0, _⟩ | ⟨h0, _⟩, hk⟩ := h
      · exact ⟨by rw [hE3], hk⟩
      · exact absurd (hE3.symm.trans h0) h3
      · exact absurd (hE3.symm.trans h0) h3)
    have g3 : (E3 != 0) = true := by simpa using h3
    have g12 : E1 = 0 → (E2 != 0) = true := fun h1 => by
      have : E2 ≠ 0 := fun h2 => hA ⟨h1, h2⟩
      simpa using this
    have HG12 := Lib.hid g12
    clear hE3 h3 hA g12
    go_wp2_with fail
    refine (G44.out _ (Kept.refl _)).mono ?_
    rintro e w1 ⟨⟨S1, S2, rfl⟩, hk1⟩
    have K1 := Lib.hid hk1
    clear hk1 a0 a1 la
    have a0 := (R0.out.kept K1.out 0 _ rfl).1
    have a1 := (R0.out.kept K1.out 1 _ rfl).1
    have la := cell_lt a0
    go_wp2_with fail
    refine (G51.out _ K1.out).mono ?_
    rintro e w2 ⟨⟨b, rfl⟩, hk2⟩
    have K2 := Lib.hid (K1.out.trans hk2)
    clear hk2 a0 a1 la
    have a0 := (R0.out.kept K2.out 0 _ rfl).1
    have a1 := (R0.out.kept K2.out 1 _ rfl).1
    have la := cell_lt a0
    go_wp2_with fail
    refine (G59.out _ K2.out).mono ?_
    rintro e w3 ⟨rfl, hk3⟩
    have K3 := Lib.hid (K2.out.trans hk3)
    clear hk3 a0 a1 la
    by_cases h1 : E1 = 0
    · have g2 := HG12.out h1
      subst h1
      go_wp2_with fail
      refine (HMK.out _ K3.out).mono ?_
      rintro e w9 ⟨rfl, hk9⟩
      have K9 := Lib.hid (K0.out.trans (K3.out.trans hk9))
      clear hk9
      go_wp2_with fail
      go_ret
      exact ⟨rfl, K9.out⟩
    · have g1 : (E1 != 0) = true := by simpa using h1
      clear h1
      go_wp2_with fail
      refine (HMK.out _ K3.out).mono ?_
      rintro e w9 ⟨rfl, hk9⟩
      have K9 := Lib.hid (K0.out.trans (K3.out.trans hk9))
      clear hk9
      go_wp2_with fail
      go_ret
      exact ⟨rfl, K9.out⟩
  obtain ⟨rfl, rfl⟩ := hA
  have hm0 : mstE ms fs day o found cls = 0 := mst_zero.2 ⟨HE1.out, HE2.out⟩
  have hoo := own_of_mst hm0
  obtain ⟨on, rfl⟩ : ∃ on : Nat, o = (on : Int) := ⟨o.toNat, by omega⟩
  have HO1 : RowKit.Hid (1 ≤ on) := Lib.hid (by omega)
  have HO2 : RowKit.Hid (on ≤ 40) := Lib.hid (by omega)
  have HM0 := Lib.hid hm0
  obtain ⟨_, _, _, _, ec⟩ := fstE_five hm0
  obtain ⟨_, c2, c3⟩ := cl_ok ec
  have HCS : RowKit.Hid (Cls cls) := Lib.hid ⟨c3, fun x hx => (claim_bd (c2 x hx)).1⟩
  have HG := Lib.hid (GoodS.of HE2.out HOK.out HFD.out HSO.out)
  clear hm0 hoo ec c2 c3
  obtain ⟨s1, hs1⟩ : ∃ k, cntN (sureB ms fs day on) found = k := ⟨_, rfl⟩
  obtain ⟨s2, hs2⟩ : ∃ k, cntN (perB ms fs day on) found = k := ⟨_, rfl⟩
  have hb1 : s1 ≤ p := by rw [← hs1, ← HFN.out]; exact cntN_le _ _
  have hb2 : s2 ≤ p := by rw [← hs2, ← HFN.out]; exact cntN_le _ _
  have HS1 := Lib.hid hs1
  have HS2 := Lib.hid hs2
  have G44 : RowKit.Hid (∀ W, Kept W0 W → Calls Tryz.prog 44 #[.agg #[.slice A n c, .slice B m d], .int .i64 day, .slice C p q, .int .i64 (on : Int)] W fun e w' => e = .returned (.tuple #[.int .i64 (s1 : Int), .int .i64 (s2 : Int), .int .i64 0]) ∧ Kept W w') := Lib.hid (fun W hW => (H44.out W hW).mono fun e w' h => by
    obtain ⟨⟨hne, _⟩ | ⟨h0, rfl⟩, hk⟩ := h
    · exact absurd HE1.out hne
    · exact ⟨by rw [Int.toNat_natCast, HS1.out, HS2.out], hk⟩)
  clear hs1 hs2
  go_wp2_with fail
  refine (G44.out _ (Kept.refl _)).mono ?_
  rintro e w1 ⟨rfl, hk1⟩
  have K1 := Lib.hid hk1
  clear hk1 a0 a1 la
  have a0 := (R0.out.kept K1.out 0 _ rfl).1
  have a1 := (R0.out.kept K1.out 1 _ rfl).1
  have la := cell_lt a0
  go_wp2_with fail
  refine (J51.out _ K1.out).mono ?_
  rintro e w2 ⟨⟨hne, _⟩ | ⟨_, b, rfl, hbm⟩, hk2⟩
  · exact absurd HE2.out hne
  have HBM := Lib.hid hbm
  have K2 := Lib.hid (K1.out.trans hk2)
  clear hbm hk2 a0 a1 la
  have a0 := (R0.out.kept K2.out 0 _ rfl).1
  have a1 := (R0.out.kept K2.out 1 _ rfl).1
  have la := cell_lt a0
  go_wp2_with fail
  refine (H59.out _ K2.out).mono ?_
  rintro e w3 ⟨hmo, hk3⟩
  have K3 := Lib.hid (K2.out.trans hk3)
  clear hk3 a0 a1 la
  have hmo2 : ∃ (M E3 : Int), e = .returned (.tuple #[.int .i64 M, .int .i64 E3]) ∧ ((M = 0 ∧ E3 = 30 ∧ b = false) ∨ (E3 = 0 ∧ ∃ k : Nat, M = (k : Int) ∧ k ≤ s1 + s2 ∧ (b = true → ows.count (on : Int) ≤ k) ∧ MstA (fitsN ms fs day found (allL cls on 0)) (clN (allL cls on 0)) (wtL (allL cls on 0)) on k)) := by
    rcases hmo with ⟨hne, _⟩ | ⟨_, hl, _⟩ | ⟨_, _, hca, ⟨rfl, hsh⟩ | ⟨k, rfl, hma⟩⟩
    · exact absurd HM0.out hne
    · have h1 : (othL cls on).length ≤ cls.length := List.length_filter_le _ _
      have := HCN.out
      omega
    · refine ⟨_, _, rfl, .inl ⟨rfl, rfl, ?_⟩⟩
      cases b with
      | false => rfl
      | true =>
        obtain ⟨ow', hm'⟩ := met_all HCS.out HO1.out HO2.out (HBM.out.1 rfl)
        exact absurd hsh (met_not_sh hm')
    · rw [Int.toNat_natCast] at hma
      refine ⟨_, _, rfl, .inr ⟨rfl, k, rfl, ?_, fun hb => mst_ge HCS.out HO1.out HO2.out hma (HBM.out.1 hb), hma⟩⟩
      obtain ⟨ow', a, hsv, _, hck, _⟩ := hma
      rw [← hck, ← HS1.out, ← HS2.out]
      exact count_sp HO1.out hsv
  obtain ⟨M, E3, rfl, hmm⟩ := hmo2
  have HMM := Lib.hid hmm
  have HNB : RowKit.Hid (b = true → ows.count (on : Int) ≤ s1 + s2) := Lib.hid (fun hb => by
    rw [← HS1.out, ← HS2.out]
    exact count_sp HO1.out (HBM.out.1 hb).1)
  clear hmo hmm
  go_wp2_with fail
  go_loopw [20, 21] (fun a i wr => ∃ k : Nat, k ≤ x ∧ i = .int .i64 (k : Int) ∧ a = .int .i64 (((ows.take k).count (on : Int) : Nat) : Int) ∧ (b = false → k = 0) ∧ Kept W0 wr) (fun _ i _ => x - (intOf i).toNat)
  case atStart => exact ⟨0, by omega, by first | rfl | go_num, by first | rfl | (rw [List.take_zero]; rfl), fun _ => rfl, K3.out⟩
  case round =>
    obtain ⟨k, hk, rfl, rfl, hbk, hkr⟩ := hrel
    have HKR := Lib.hid hkr
    have HBK := Lib.hid hbk
    clear hkr hbk
    cases b with
    | true =>
      by_cases hlt : k < x
      · obtain ⟨z, hz⟩ : ∃ z, ows[k]? = some z := ⟨_, List.getElem?_eq_getElem (by rw [HXN.out]; exact hlt)⟩
        obtain ⟨gb, off, rfl, ht⟩ := (HOW.out.kept HKR.out).2.2.2.2 (by omega)
        have c0 := ht k z hz 0 _ rfl
        rw [Nat.add_zero, Nat.mul_one] at c0
        have lc := cell_lt c0
        have HCT := Lib.hid (count_snoc' (o := (on : Int)) hz)
        have hcl := List.count_le_length (a := (on : Int)) (l := ows.take k)
        rw [List.length_take] at hcl
        obtain ⟨N, hN⟩ : ∃ N, (ows.take k).count (on : Int) = N := ⟨_, rfl⟩
        rw [hN] at hcl HCT ⊢
        have hN2 : N ≤ 30 := by omega
        clear hz ht hN hcl
        by_cases he : z = (on : Int)
        · subst he
          go_wp2_with fail
          go_roundw
          case rel => exact ⟨k + 1, by omega, by go_num, by rw [HCT.out, if_pos rfl]; go_num, (fun h => by cases h), HKR.out⟩
          case measure => simp [intOf]; omega
        · have h1 : (z == (on : Int)) = false := by simpa using he
          have HNE := Lib.hid he
          clear he
          go_wp2_with fail
          go_roundw
          case rel => exact ⟨k + 1, by omega, by go_num, by rw [HCT.out, if_neg HNE.out]; go_num, (fun h => by cases h), HKR.out⟩
          case measure => simp [intOf]; omega
      · obtain rfl : k = x := by omega
        have hT : ows.take k = ows := List.take_of_length_le (by rw [HXN.out]; exact Nat.le_refl _)
        rw [hT]
        have hNle := HNB.out rfl
        obtain ⟨N, hN⟩ : ∃ N, ows.count (on : Int) = N := ⟨_, rfl⟩
        have HN := Lib.hid hN
        rw [hN] at hNle ⊢
        clear hT hN
        rcases HMM.out with ⟨_, _, hb⟩ | ⟨rfl, kk, rfl, hk1, hk2, hma⟩
        · cases hb
        have hk3 := hk2 rfl
        rw [HN.out] at hk3
        have HMA := Lib.hid hma
        have hkp : kk ≤ 40 := by omega
        have HT1 : RowKit.Hid (chE ms fs day found (topL cls on (kk : Int)) = 0) := Lib.hid (top_ch HM0.out (by rw [HCN.out]; omega) ⟨by omega, by omega⟩)
        have HT2 : RowKit.Hid (chE ms fs day found (topL cls on ((kk : Int) + 1)) = 0) := Lib.hid (top_ch HM0.out (by rw [HCN.out]; omega) ⟨by omega, by omega⟩)
        have HGEW := Lib.hid HKR.out.size
        clear hma hk2
        go_upto_region 18 with fail
        obtain ⟨W5, hW5⟩ : ∃ W5, W5 = wr.alloc (.cells #[.int .i64 (on : Int), .int .i64 (kk : Int)] 94) := ⟨_, rfl⟩
        have HO5 : RowKit.Hid (W5.ownsRow W0.heap.size 94 2 (.slice (some ⟨wr.heap.size, 0, none⟩) (topL (cls.take 0) on kk).length 1) (topL (cls.take 0) on kk).length ((topL (cls.take 0) on kk).flatMap clC)) := Lib.hid (by
          rw [hW5]
          exact ⟨rfl, .inr ⟨wr.heap.size, 1, #[.int .i64 (on : Int), .int .i64 (kk : Int)], rfl, HGEW.out, heap_alloc_new _ _, Nat.le_refl 1, by unfold maxLen; omega, rfl, rfl⟩⟩)
        have HK5 : RowKit.Hid (Kept W0 W5) := Lib.hid (by rw [hW5]; exact HKR.out.alloc _)
        have HX5 := Lib.hid hW5
        go_upto_region 19 with fail
        rw [← HX5.out]
        clear hW5
        go_wp2_with fail
        go_loopw [22, 23] (fun vv i wr => ∃ (j g9 d9 : Nat), j ≤ u ∧ i = .int .i64 (j : Int) ∧ vv = .slice (some ⟨g9, 0, none⟩) (topL (cls.take j) on kk).length d9 ∧ wr.ownsRow W0.heap.size 94 2 (.slice (some ⟨g9, 0, none⟩) (topL (cls.take j) on kk).length d9) (topL (cls.take j) on kk).length ((topL (cls.take j) on kk).flatMap clC) ∧ Kept W0 wr) (fun _ i _ => u - (intOf i).toNat)
        case atStart => exact ⟨0, wr.heap.size, 1, by omega, by first | rfl | go_num, rfl, HO5.out, HK5.out⟩
        case round =>
          obtain ⟨j, g9, d9, hj, rfl, rfl, hown, hkq⟩ := hrel
          have HOR := Lib.hid hown
          have HKQ := Lib.hid hkq
          clear hown hkq
          have hlen : (topL (cls.take j) on kk).length ≤ j + 1 := by
            have h1 : (othL (cls.take j) on).length ≤ (cls.take j).length := List.length_filter_le _ _
            rw [List.length_take] at h1
            unfold topL
            rw [List.length_cons]
            omega
          have hlen1 : 1 ≤ (topL (cls.take j) on kk).length := by
            unfold topL
            rw [List.length_cons]
            omega
          by_cases hlt : j < u
          · obtain ⟨z, hz⟩ : ∃ z, cls[j]? = some z := ⟨_, List.getElem?_eq_getElem (by rw [HCN.out]; exact hlt)⟩
            obtain ⟨cb, co, rfl, ht⟩ := (HCL.out.kept HKQ.out).2.2.2.2 (by omega)
            have c0 := ht j z hz 0 _ rfl
            have c1 := ht j z hz 1 _ rfl
            rw [Nat.add_zero] at c0
            have lc := cell_lt c0
            have HTS := Lib.hid (top_snoc (o := (on : Int)) (k := (kk : Int)) hz)
            clear hz ht
            by_cases he : z.own = (on : Int)
            · have h1 : (z.own != (on : Int)) = false := by simpa using he
              have HT : RowKit.Hid (topL (cls.take (j + 1)) on kk = topL (cls.take j) on kk) := Lib.hid (by rw [HTS.out, if_pos he])
              obtain ⟨zo, hzo⟩ : ∃ zo, z.own = zo := ⟨_, rfl⟩
              rw [hzo] at h1 c0
              clear he hzo
              go_wp2_with fail
              go_roundw
              case rel => exact ⟨j + 1, g9, d9, by omega, by go_num, by rw [HT.out], by rw [HT.out]; exact HOR.out, HKQ.out⟩
              case measure => simp [intOf]; omega
            · have h1 : (z.own != (on : Int)) = true := by simpa using he
              have HT : RowKit.Hid (topL (cls.take (j + 1)) on kk = topL (cls.take j) on kk ++ [z]) := Lib.hid (by rw [HTS.out, if_neg he])
              clear he HTS
              obtain ⟨TL, hTL⟩ : ∃ TL, topL (cls.take j) on kk = TL := ⟨_, rfl⟩
              rw [hTL] at HOR HT hlen ⊢
              obtain ⟨ln, hln⟩ : ∃ k, TL.length = k := ⟨_, rfl⟩
              rw [hln] at HOR hlen ⊢
              have HLN := Lib.hid hln
              have HNW := Lib.hid (news_of (W := wr) (cs := clC z) (t := 94) (m := wr.heap.size) rfl)
              have HA3 : RowKit.Hid (ln + 1 ≤ maxLen) := Lib.hid (by unfold maxLen; omega)
              have HA4 : RowKit.Hid ((ln + 1) * 16 ≤ 140737488355328) := Lib.hid (by omega)
              have HB1 : RowKit.Hid (W0.heap.size ≤ (wr.alloc (.cells #[.int .i64 z.own, .int .i64 z.num] 94)).heap.size) := Lib.hid (by have := HKQ.out.size; simp; omega)
              clear hTL hln hlen1
              go_wp2_with (at_builtin; refine wpList_append_lies _ rfl (.tmp 164) (.tmp 169) 70 rfl W0.heap.size 94 i4 _ 2 16 Tryz.underlying70 hi4 hz4a hz4b hz4c rfl (by decide) _ ln _ rfl (own_kept HOR.out ((Kept.refl _).alloc _)) ⟨wr.heap.size, 0, none⟩ 1 1 (clC z) rfl rfl HNW.out (fun u hu => by simp [clC] at hu; rcases hu with hu | hu <;> subst hu <;> rfl) (by decide) HA3.out HA4.out HB1.out _ rfl ?_; intro g' cap' w8 hown8 hgrow8 hat8 hlt8)
              have HO8 := Lib.hid hown8
              have HK8 := Lib.hid ((HKQ.out.alloc _).grown hgrow8 (fun r hr => (HOR.out.lt r hr).1))
              clear hown8 hgrow8 hat8 hlt8
              go_roundw
              case rel => exact ⟨j + 1, g', cap', by omega, by go_num, by rw [HT.out, List.length_append, HLN.out]; rfl, by rw [HT.out, List.length_append, HLN.out, List.flatMap_append, List.flatMap_singleton]; exact HO8.out, HK8.out⟩
              case measure => simp [intOf]; omega
          · obtain rfl : j = u := by omega
            have hT : cls.take j = cls := List.take_of_length_le (by rw [HCN.out]; exact Nat.le_refl _)
            rw [hT] at HOR hlen hlen1 ⊢
            obtain ⟨ln, hln⟩ : ∃ k, (topL cls on kk).length = k := ⟨_, rfl⟩
            rw [hln] at HOR hlen hlen1 ⊢
            have HLN := Lib.hid hln
            have HSK : RowKit.Hid (∀ z ∈ topL cls on (kk : Int), z.ok) := Lib.hid (fun z hz => by
              rcases List.mem_cons.1 hz with h | h
              · subst h
                have := HO2.out
                exact ⟨by unfold i64; dsimp only; omega, by unfold i64; dsimp only; omega⟩
              · exact HCL.out.2.2.2.1 z (oth_mem h).1)
            have HSK2 : RowKit.Hid (∀ z ∈ topL cls on ((kk : Int) + 1), z.ok) := Lib.hid (fun z hz => by
              rcases List.mem_cons.1 hz with h | h
              · subst h
                have := HO2.out
                exact ⟨by unfold i64; dsimp only; omega, by unfold i64; dsimp only; omega⟩
              · exact HCL.out.2.2.2.1 z (oth_mem h).1)
            have HA1 := Lib.hid (H49.out (topL cls on (kk : Int)) g9 ln d9 wr HKQ.out (own_slB (enc := clC) (ok := Cl.ok) clC_two HOR.out hln HSK.out))
            have hl0 : (0 : Int) < (ln : Int) := by omega
            have a0 := (R0.out.kept HKQ.out 0 _ rfl).1
            have a1 := (R0.out.kept HKQ.out 1 _ rfl).1
            have la := cell_lt a0
            clear hT hln
            go_wp2_with fail
            refine HA1.out.mono ?_
            rintro e w6 ⟨⟨hne, _⟩ | ⟨_, ⟨hb2, ow2, rfl, _, _, _⟩ | ⟨_, hsh⟩⟩, hk6⟩
            · exact absurd HT1.out hne
            rotate_left
            · obtain ⟨ow', hm'⟩ := mst_met HCS.out HO1.out HO2.out HMA.out
              exact absurd hsh (met_not_sh hm')
            have HO6 := Lib.hid (own_kept HOR.out hk6)
            have K6 := Lib.hid (HKQ.out.trans hk6)
            clear hk6 a0 a1 la
            have d1 := own_rowC HO6.out 1 (.int .i64 (kk : Int)) rfl
            obtain ⟨d1c, d1f⟩ := d1
            have ld := cell_lt d1c
            have HGE9 := Lib.hid (HO6.out.lt _ rfl).1
            go_upto_region 26 with fail
            obtain ⟨W7, hW7⟩ : ∃ W, W = w6.setCell ⟨g9, 1, none⟩ (.int .i64 ((kk : Int) + 1)) := ⟨_, rfl⟩
            rw [← hW7]
            have HO7 : RowKit.Hid (W7.ownsRow W0.heap.size 94 2 (.slice (some ⟨g9, 0, none⟩) ln d9) ln ((topL cls on ((kk : Int) + 1)).flatMap clC)) := Lib.hid (by
              rw [hW7]
              have s1 := (HO6.out.stored 1 (.int .i64 ((kk : Int) + 1))).1
              exact s1)
            have K7 : RowKit.Hid (Kept W0 W7) := Lib.hid (by rw [hW7]; exact K6.out.setCell (p := ⟨g9, 1, none⟩) HGE9.out _)
            have HA2 := Lib.hid (H49.out (topL cls on ((kk : Int) + 1)) g9 ln d9 W7 K7.out (own_slB (enc := clC) (ok := Cl.ok) clC_two HO7.out HLN.out HSK2.out))
            have a0 := (R0.out.kept K7.out 0 _ rfl).1
            have a1 := (R0.out.kept K7.out 1 _ rfl).1
            have la := cell_lt a0
            clear hW7 d1c d1f ld
            go_wp2_with fail
            refine HA2.out.mono ?_
            rintro e w7 ⟨⟨hne, _⟩ | ⟨_, ⟨hb3, ow3, rfl, _, hf3, _⟩ | ⟨rfl, _⟩⟩, hk7⟩
            · exact absurd HT2.out hne
            · exact (mst_no HCS.out HO1.out HO2.out HMA.out hf3.1).elim
            have K8 := Lib.hid (K7.out.trans hk7)
            clear hk7 a0 a1 la
            go_wp2_with fail
            refine (HMK.out _ K8.out).mono ?_
            rintro e w9 ⟨rfl, hk9⟩
            have K9 := Lib.hid (K0.out.trans (K8.out.trans hk9))
            clear hk9
            go_wp2_with fail
            go_ret
            exact ⟨rfl, K9.out⟩
    | false =>
      obtain rfl := HBK.out rfl
      rw [List.take_zero]
      obtain ⟨N, hN⟩ : ∃ N, (([] : List Int).count (on : Int)) = N := ⟨_, rfl⟩
      have hNle : N ≤ s1 + s2 := by rw [← hN]; exact Nat.zero_le _
      have hN0 : ∀ j : Nat, N ≤ j := fun j => by rw [← hN]; exact Nat.zero_le _
      rw [hN]
      clear hN
      by_cases hx0 : 0 < x
      · rcases HMM.out with ⟨rfl, rfl, _⟩ | ⟨rfl, kk, rfl, hk1, hk2, hma⟩
        · clear hN0
          go_wp2_with fail
          refine (HMK.out _ HKR.out).mono ?_
          rintro e w9 ⟨rfl, hk9⟩
          have K9 := Lib.hid (K0.out.trans (HKR.out.trans hk9))
          clear hk9
          go_wp2_with fail
          go_ret
          exact ⟨rfl, K9.out⟩
        · have hk3 : N ≤ kk := hN0 kk
          clear hN0
          have HMA := Lib.hid hma
          have hkp : kk ≤ 40 := by omega
          have HT1 : RowKit.Hid (chE ms fs day found (topL cls on (kk : Int)) = 0) := Lib.hid (top_ch HM0.out (by rw [HCN.out]; omega) ⟨by omega, by omega⟩)
          have HT2 : RowKit.Hid (chE ms fs day found (topL cls on ((kk : Int) + 1)) = 0) := Lib.hid (top_ch HM0.out (by rw [HCN.out]; omega) ⟨by omega, by omega⟩)
          have HGEW := Lib.hid HKR.out.size
          clear hma hk2
          go_upto_region 18 with fail
          obtain ⟨W5, hW5⟩ : ∃ W5, W5 = wr.alloc (.cells #[.int .i64 (on : Int), .int .i64 (kk : Int)] 94) := ⟨_, rfl⟩
          have HO5 : RowKit.Hid (W5.ownsRow W0.heap.size 94 2 (.slice (some ⟨wr.heap.size, 0, none⟩) (topL (cls.take 0) on kk).length 1) (topL (cls.take 0) on kk).length ((topL (cls.take 0) on kk).flatMap clC)) := Lib.hid (by
            rw [hW5]
            exact ⟨rfl, .inr ⟨wr.heap.size, 1, #[.int .i64 (on : Int), .int .i64 (kk : Int)], rfl, HGEW.out, heap_alloc_new _ _, Nat.le_refl 1, by unfold maxLen; omega, rfl, rfl⟩⟩)
          have HK5 : RowKit.Hid (Kept W0 W5) := Lib.hid (by rw [hW5]; exact HKR.out.alloc _)
          have HX5 := Lib.hid hW5
          go_upto_region 19 with fail
          rw [← HX5.out]
          clear hW5
          go_wp2_with fail
          go_loopw [22, 23] (fun vv i wr => ∃ (j g9 d9 : Nat), j ≤ u ∧ i = .int .i64 (j : Int) ∧ vv = .slice (some ⟨g9, 0, none⟩) (topL (cls.take j) on kk).length d9 ∧ wr.ownsRow W0.heap.size 94 2 (.slice (some ⟨g9, 0, none⟩) (topL (cls.take j) on kk).length d9) (topL (cls.take j) on kk).length ((topL (cls.take j) on kk).flatMap clC) ∧ Kept W0 wr) (fun _ i _ => u - (intOf i).toNat)
          case atStart => exact ⟨0, wr.heap.size, 1, by omega, by first | rfl | go_num, rfl, HO5.out, HK5.out⟩
          case round =>
            obtain ⟨j, g9, d9, hj, rfl, rfl, hown, hkq⟩ := hrel
            have HOR := Lib.hid hown
            have HKQ := Lib.hid hkq
            clear hown hkq
            have hlen : (topL (cls.take j) on kk).length ≤ j + 1 := by
              have h1 : (othL (cls.take j) on).length ≤ (cls.take j).length := List.length_filter_le _ _
              rw [List.length_take] at h1
              unfold topL
              rw [List.length_cons]
              omega
            have hlen1 : 1 ≤ (topL (cls.take j) on kk).length := by
              unfold topL
              rw [List.length_cons]
              omega
            by_cases hlt : j < u
            · obtain ⟨z, hz⟩ : ∃ z, cls[j]? = some z := ⟨_, List.getElem?_eq_getElem (by rw [HCN.out]; exact hlt)⟩
              obtain ⟨cb, co, rfl, ht⟩ := (HCL.out.kept HKQ.out).2.2.2.2 (by omega)
              have c0 := ht j z hz 0 _ rfl
              have c1 := ht j z hz 1 _ rfl
              rw [Nat.add_zero] at c0
              have lc := cell_lt c0
              have HTS := Lib.hid (top_snoc (o := (on : Int)) (k := (kk : Int)) hz)
              clear hz ht
              by_cases he : z.own = (on : Int)
              · have h1 : (z.own != (on : Int)) = false := by simpa using he
                have HT : RowKit.Hid (topL (cls.take (j + 1)) on kk = topL (cls.take j) on kk) := Lib.hid (by rw [HTS.out, if_pos he])
                obtain ⟨zo, hzo⟩ : ∃ zo, z.own = zo := ⟨_, rfl⟩
                rw [hzo] at h1 c0
                clear he hzo
                go_wp2_with fail
                go_roundw
                case rel => exact ⟨j + 1, g9, d9, by omega, by go_num, by rw [HT.out], by rw [HT.out]; exact HOR.out, HKQ.out⟩
                case measure => simp [intOf]; omega
              · have h1 : (z.own != (on : Int)) = true := by simpa using he
                have HT : RowKit.Hid (topL (cls.take (j + 1)) on kk = topL (cls.take j) on kk ++ [z]) := Lib.hid (by rw [HTS.out, if_neg he])
                clear he HTS
                obtain ⟨TL, hTL⟩ : ∃ TL, topL (cls.take j) on kk = TL := ⟨_, rfl⟩
                rw [hTL] at HOR HT hlen ⊢
                obtain ⟨ln, hln⟩ : ∃ k, TL.length = k := ⟨_, rfl⟩
                rw [hln] at HOR hlen ⊢
                have HLN := Lib.hid hln
                have HNW := Lib.hid (news_of (W := wr) (cs := clC z) (t := 94) (m := wr.heap.size) rfl)
                have HA3 : RowKit.Hid (ln + 1 ≤ maxLen) := Lib.hid (by unfold maxLen; omega)
                have HA4 : RowKit.Hid ((ln + 1) * 16 ≤ 140737488355328) := Lib.hid (by omega)
                have HB1 : RowKit.Hid (W0.heap.size ≤ (wr.alloc (.cells #[.int .i64 z.own, .int .i64 z.num] 94)).heap.size) := Lib.hid (by have := HKQ.out.size; simp; omega)
                clear hTL hln hlen1
                go_wp2_with (at_builtin; refine wpList_append_lies _ rfl (.tmp 164) (.tmp 169) 70 rfl W0.heap.size 94 i4 _ 2 16 Tryz.underlying70 hi4 hz4a hz4b hz4c rfl (by decide) _ ln _ rfl (own_kept HOR.out ((Kept.refl _).alloc _)) ⟨wr.heap.size, 0, none⟩ 1 1 (clC z) rfl rfl HNW.out (fun u hu => by simp [clC] at hu; rcases hu with hu | hu <;> subst hu <;> rfl) (by decide) HA3.out HA4.out HB1.out _ rfl ?_; intro g' cap' w8 hown8 hgrow8 hat8 hlt8)
                have HO8 := Lib.hid hown8
                have HK8 := Lib.hid ((HKQ.out.alloc _).grown hgrow8 (fun r hr => (HOR.out.lt r hr).1))
                clear hown8 hgrow8 hat8 hlt8
                go_roundw
                case rel => exact ⟨j + 1, g', cap', by omega, by go_num, by rw [HT.out, List.length_append, HLN.out]; rfl, by rw [HT.out, List.length_append, HLN.out, List.flatMap_append, List.flatMap_singleton]; exact HO8.out, HK8.out⟩
                case measure => simp [intOf]; omega
            · obtain rfl : j = u := by omega
              have hT : cls.take j = cls := List.take_of_length_le (by rw [HCN.out]; exact Nat.le_refl _)
              rw [hT] at HOR hlen hlen1 ⊢
              obtain ⟨ln, hln⟩ : ∃ k, (topL cls on kk).length = k := ⟨_, rfl⟩
              rw [hln] at HOR hlen hlen1 ⊢
              have HLN := Lib.hid hln
              have HSK : RowKit.Hid (∀ z ∈ topL cls on (kk : Int), z.ok) := Lib.hid (fun z hz => by
                rcases List.mem_cons.1 hz with h | h
                · subst h
                  have := HO2.out
                  exact ⟨by unfold i64; dsimp only; omega, by unfold i64; dsimp only; omega⟩
                · exact HCL.out.2.2.2.1 z (oth_mem h).1)
              have HSK2 : RowKit.Hid (∀ z ∈ topL cls on ((kk : Int) + 1), z.ok) := Lib.hid (fun z hz => by
                rcases List.mem_cons.1 hz with h | h
                · subst h
                  have := HO2.out
                  exact ⟨by unfold i64; dsimp only; omega, by unfold i64; dsimp only; omega⟩
                · exact HCL.out.2.2.2.1 z (oth_mem h).1)
              have HA1 := Lib.hid (H49.out (topL cls on (kk : Int)) g9 ln d9 wr HKQ.out (own_slB (enc := clC) (ok := Cl.ok) clC_two HOR.out hln HSK.out))
              have hl0 : (0 : Int) < (ln : Int) := by omega
              have a0 := (R0.out.kept HKQ.out 0 _ rfl).1
              have a1 := (R0.out.kept HKQ.out 1 _ rfl).1
              have la := cell_lt a0
              clear hT hln
              go_wp2_with fail
              refine HA1.out.mono ?_
              rintro e w6 ⟨⟨hne, _⟩ | ⟨_, ⟨hb2, ow2, rfl, _, _, _⟩ | ⟨_, hsh⟩⟩, hk6⟩
              · exact absurd HT1.out hne
              rotate_left
              · obtain ⟨ow', hm'⟩ := mst_met HCS.out HO1.out HO2.out HMA.out
                exact absurd hsh (met_not_sh hm')
              have HO6 := Lib.hid (own_kept HOR.out hk6)
              have K6 := Lib.hid (HKQ.out.trans hk6)
              clear hk6 a0 a1 la
              have d1 := own_rowC HO6.out 1 (.int .i64 (kk : Int)) rfl
              obtain ⟨d1c, d1f⟩ := d1
              have ld := cell_lt d1c
              have HGE9 := Lib.hid (HO6.out.lt _ rfl).1
              go_upto_region 26 with fail
              obtain ⟨W7, hW7⟩ : ∃ W, W = w6.setCell ⟨g9, 1, none⟩ (.int .i64 ((kk : Int) + 1)) := ⟨_, rfl⟩
              rw [← hW7]
              have HO7 : RowKit.Hid (W7.ownsRow W0.heap.size 94 2 (.slice (some ⟨g9, 0, none⟩) ln d9) ln ((topL cls on ((kk : Int) + 1)).flatMap clC)) := Lib.hid (by
                rw [hW7]
                have s1 := (HO6.out.stored 1 (.int .i64 ((kk : Int) + 1))).1
                exact s1)
              have K7 : RowKit.Hid (Kept W0 W7) := Lib.hid (by rw [hW7]; exact K6.out.setCell (p := ⟨g9, 1, none⟩) HGE9.out _)
              have HA2 := Lib.hid (H49.out (topL cls on ((kk : Int) + 1)) g9 ln d9 W7 K7.out (own_slB (enc := clC) (ok := Cl.ok) clC_two HO7.out HLN.out HSK2.out))
              have a0 := (R0.out.kept K7.out 0 _ rfl).1
              have a1 := (R0.out.kept K7.out 1 _ rfl).1
              have la := cell_lt a0
              clear hW7 d1c d1f ld
              go_wp2_with fail
              refine HA2.out.mono ?_
              rintro e w7 ⟨⟨hne, _⟩ | ⟨_, ⟨hb3, ow3, rfl, _, hf3, _⟩ | ⟨rfl, _⟩⟩, hk7⟩
              · exact absurd HT2.out hne
              · exact (mst_no HCS.out HO1.out HO2.out HMA.out hf3.1).elim
              have K8 := Lib.hid (K7.out.trans hk7)
              clear hk7 a0 a1 la
              go_wp2_with fail
              refine (HMK.out _ K8.out).mono ?_
              rintro e w9 ⟨rfl, hk9⟩
              have K9 := Lib.hid (K0.out.trans (K8.out.trans hk9))
              clear hk9
              go_wp2_with fail
              go_ret
              exact ⟨rfl, K9.out⟩
      · rcases HMM.out with ⟨rfl, rfl, _⟩ | ⟨rfl, kk, rfl, hk1, hk2, hma⟩
        · clear hN0
          go_wp2_with fail
          refine (HMK.out _ HKR.out).mono ?_
          rintro e w9 ⟨rfl, hk9⟩
          have K9 := Lib.hid (K0.out.trans (HKR.out.trans hk9))
          clear hk9
          go_wp2_with fail
          go_ret
          exact ⟨rfl, K9.out⟩
        · have hk3 : N ≤ kk := hN0 kk
          clear hN0
          have HMA := Lib.hid hma
          have hkp : kk ≤ 40 := by omega
          have HT1 : RowKit.Hid (chE ms fs day found (topL cls on (kk : Int)) = 0) := Lib.hid (top_ch HM0.out (by rw [HCN.out]; omega) ⟨by omega, by omega⟩)
          have HT2 : RowKit.Hid (chE ms fs day found (topL cls on ((kk : Int) + 1)) = 0) := Lib.hid (top_ch HM0.out (by rw [HCN.out]; omega) ⟨by omega, by omega⟩)
          have HGEW := Lib.hid HKR.out.size
          clear hma hk2
          go_upto_region 18 with fail
          obtain ⟨W5, hW5⟩ : ∃ W5, W5 = wr.alloc (.cells #[.int .i64 (on : Int), .int .i64 (kk : Int)] 94) := ⟨_, rfl⟩
          have HO5 : RowKit.Hid (W5.ownsRow W0.heap.size 94 2 (.slice (some ⟨wr.heap.size, 0, none⟩) (topL (cls.take 0) on kk).length 1) (topL (cls.take 0) on kk).length ((topL (cls.take 0) on kk).flatMap clC)) := Lib.hid (by
            rw [hW5]
            exact ⟨rfl, .inr ⟨wr.heap.size, 1, #[.int .i64 (on : Int), .int .i64 (kk : Int)], rfl, HGEW.out, heap_alloc_new _ _, Nat.le_refl 1, by unfold maxLen; omega, rfl, rfl⟩⟩)
          have HK5 : RowKit.Hid (Kept W0 W5) := Lib.hid (by rw [hW5]; exact HKR.out.alloc _)
          have HX5 := Lib.hid hW5
          go_upto_region 19 with fail
          rw [← HX5.out]
          clear hW5
          go_wp2_with fail
          go_loopw [22, 23] (fun vv i wr => ∃ (j g9 d9 : Nat), j ≤ u ∧ i = .int .i64 (j : Int) ∧ vv = .slice (some ⟨g9, 0, none⟩) (topL (cls.take j) on kk).length d9 ∧ wr.ownsRow W0.heap.size 94 2 (.slice (some ⟨g9, 0, none⟩) (topL (cls.take j) on kk).length d9) (topL (cls.take j) on kk).length ((topL (cls.take j) on kk).flatMap clC) ∧ Kept W0 wr) (fun _ i _ => u - (intOf i).toNat)
          case atStart => exact ⟨0, wr.heap.size, 1, by omega, by first | rfl | go_num, rfl, HO5.out, HK5.out⟩
          case round =>
            obtain ⟨j, g9, d9, hj, rfl, rfl, hown, hkq⟩ := hrel
            have HOR := Lib.hid hown
            have HKQ := Lib.hid hkq
            clear hown hkq
            have hlen : (topL (cls.take j) on kk).length ≤ j + 1 := by
              have h1 : (othL (cls.take j) on).length ≤ (cls.take j).length := List.length_filter_le _ _
              rw [List.length_take] at h1
              unfold topL
              rw [List.length_cons]
              omega
            have hlen1 : 1 ≤ (topL (cls.take j) on kk).length := by
              unfold topL
              rw [List.length_cons]
              omega
            by_cases hlt : j < u
            · obtain ⟨z, hz⟩ : ∃ z, cls[j]? = some z := ⟨_, List.getElem?_eq_getElem (by rw [HCN.out]; exact hlt)⟩
              obtain ⟨cb, co, rfl, ht⟩ := (HCL.out.kept HKQ.out).2.2.2.2 (by omega)
              have c0 := ht j z hz 0 _ rfl
              have c1 := ht j z hz 1 _ rfl
              rw [Nat.add_zero] at c0
              have lc := cell_lt c0
              have HTS := Lib.hid (top_snoc (o := (on : Int)) (k := (kk : Int)) hz)
              clear hz ht
              by_cases he : z.own = (on : Int)
              · have h1 : (z.own != (on : Int)) = false := by simpa using he
                have HT : RowKit.Hid (topL (cls.take (j + 1)) on kk = topL (cls.take j) on kk) := Lib.hid (by rw [HTS.out, if_pos he])
                obtain ⟨zo, hzo⟩ : ∃ zo, z.own = zo := ⟨_, rfl⟩
                rw [hzo] at h1 c0
                clear he hzo
                go_wp2_with fail
                go_roundw
                case rel => exact ⟨j + 1, g9, d9, by omega, by go_num, by rw [HT.out], by rw [HT.out]; exact HOR.out, HKQ.out⟩
                case measure => simp [intOf]; omega
              · have h1 : (z.own != (on : Int)) = true := by simpa using he
                have HT : RowKit.Hid (topL (cls.take (j + 1)) on kk = topL (cls.take j) on kk ++ [z]) := Lib.hid (by rw [HTS.out, if_neg he])
                clear he HTS
                obtain ⟨TL, hTL⟩ : ∃ TL, topL (cls.take j) on kk = TL := ⟨_, rfl⟩
                rw [hTL] at HOR HT hlen ⊢
                obtain ⟨ln, hln⟩ : ∃ k, TL.length = k := ⟨_, rfl⟩
                rw [hln] at HOR hlen ⊢
                have HLN := Lib.hid hln
                have HNW := Lib.hid (news_of (W := wr) (cs := clC z) (t := 94) (m := wr.heap.size) rfl)
                have HA3 : RowKit.Hid (ln + 1 ≤ maxLen) := Lib.hid (by unfold maxLen; omega)
                have HA4 : RowKit.Hid ((ln + 1) * 16 ≤ 140737488355328) := Lib.hid (by omega)
                have HB1 : RowKit.Hid (W0.heap.size ≤ (wr.alloc (.cells #[.int .i64 z.own, .int .i64 z.num] 94)).heap.size) := Lib.hid (by have := HKQ.out.size; simp; omega)
                clear hTL hln hlen1
                go_wp2_with (at_builtin; refine wpList_append_lies _ rfl (.tmp 164) (.tmp 169) 70 rfl W0.heap.size 94 i4 _ 2 16 Tryz.underlying70 hi4 hz4a hz4b hz4c rfl (by decide) _ ln _ rfl (own_kept HOR.out ((Kept.refl _).alloc _)) ⟨wr.heap.size, 0, none⟩ 1 1 (clC z) rfl rfl HNW.out (fun u hu => by simp [clC] at hu; rcases hu with hu | hu <;> subst hu <;> rfl) (by decide) HA3.out HA4.out HB1.out _ rfl ?_; intro g' cap' w8 hown8 hgrow8 hat8 hlt8)
                have HO8 := Lib.hid hown8
                have HK8 := Lib.hid ((HKQ.out.alloc _).grown hgrow8 (fun r hr => (HOR.out.lt r hr).1))
                clear hown8 hgrow8 hat8 hlt8
                go_roundw
                case rel => exact ⟨j + 1, g', cap', by omega, by go_num, by rw [HT.out, List.length_append, HLN.out]; rfl, by rw [HT.out, List.length_append, HLN.out, List.flatMap_append, List.flatMap_singleton]; exact HO8.out, HK8.out⟩
                case measure => simp [intOf]; omega
            · obtain rfl : j = u := by omega
              have hT : cls.take j = cls := List.take_of_length_le (by rw [HCN.out]; exact Nat.le_refl _)
              rw [hT] at HOR hlen hlen1 ⊢
              obtain ⟨ln, hln⟩ : ∃ k, (topL cls on kk).length = k := ⟨_, rfl⟩
              rw [hln] at HOR hlen hlen1 ⊢
              have HLN := Lib.hid hln
              have HSK : RowKit.Hid (∀ z ∈ topL cls on (kk : Int), z.ok) := Lib.hid (fun z hz => by
                rcases List.mem_cons.1 hz with h | h
                · subst h
                  have := HO2.out
                  exact ⟨by unfold i64; dsimp only; omega, by unfold i64; dsimp only; omega⟩
                · exact HCL.out.2.2.2.1 z (oth_mem h).1)
              have HSK2 : RowKit.Hid (∀ z ∈ topL cls on ((kk : Int) + 1), z.ok) := Lib.hid (fun z hz => by
                rcases List.mem_cons.1 hz with h | h
                · subst h
                  have := HO2.out
                  exact ⟨by unfold i64; dsimp only; omega, by unfold i64; dsimp only; omega⟩
                · exact HCL.out.2.2.2.1 z (oth_mem h).1)
              have HA1 := Lib.hid (H49.out (topL cls on (kk : Int)) g9 ln d9 wr HKQ.out (own_slB (enc := clC) (ok := Cl.ok) clC_two HOR.out hln HSK.out))
              have hl0 : (0 : Int) < (ln : Int) := by omega
              have a0 := (R0.out.kept HKQ.out 0 _ rfl).1
              have a1 := (R0.out.kept HKQ.out 1 _ rfl).1
              have la := cell_lt a0
              clear hT hln
              go_wp2_with fail
              refine HA1.out.mono ?_
              rintro e w6 ⟨⟨hne, _⟩ | ⟨_, ⟨hb2, ow2, rfl, _, _, _⟩ | ⟨_, hsh⟩⟩, hk6⟩
              · exact absurd HT1.out hne
              rotate_left
              · obtain ⟨ow', hm'⟩ := mst_met HCS.out HO1.out HO2.out HMA.out
                exact absurd hsh (met_not_sh hm')
              have HO6 := Lib.hid (own_kept HOR.out hk6)
              have K6 := Lib.hid (HKQ.out.trans hk6)
              clear hk6 a0 a1 la
              have d1 := own_rowC HO6.out 1 (.int .i64 (kk : Int)) rfl
              obtain ⟨d1c, d1f⟩ := d1
              have ld := cell_lt d1c
              have HGE9 := Lib.hid (HO6.out.lt _ rfl).1
              go_upto_region 26 with fail
              obtain ⟨W7, hW7⟩ : ∃ W, W = w6.setCell ⟨g9, 1, none⟩ (.int .i64 ((kk : Int) + 1)) := ⟨_, rfl⟩
              rw [← hW7]
              have HO7 : RowKit.Hid (W7.ownsRow W0.heap.size 94 2 (.slice (some ⟨g9, 0, none⟩) ln d9) ln ((topL cls on ((kk : Int) + 1)).flatMap clC)) := Lib.hid (by
                rw [hW7]
                have s1 := (HO6.out.stored 1 (.int .i64 ((kk : Int) + 1))).1
                exact s1)
              have K7 : RowKit.Hid (Kept W0 W7) := Lib.hid (by rw [hW7]; exact K6.out.setCell (p := ⟨g9, 1, none⟩) HGE9.out _)
              have HA2 := Lib.hid (H49.out (topL cls on ((kk : Int) + 1)) g9 ln d9 W7 K7.out (own_slB (enc := clC) (ok := Cl.ok) clC_two HO7.out HLN.out HSK2.out))
              have a0 := (R0.out.kept K7.out 0 _ rfl).1
              have a1 := (R0.out.kept K7.out 1 _ rfl).1
              have la := cell_lt a0
              clear hW7 d1c d1f ld
              go_wp2_with fail
              refine HA2.out.mono ?_
              rintro e w7 ⟨⟨hne, _⟩ | ⟨_, ⟨hb3, ow3, rfl, _, hf3, _⟩ | ⟨rfl, _⟩⟩, hk7⟩
              · exact absurd HT2.out hne
              · exact (mst_no HCS.out HO1.out HO2.out HMA.out hf3.1).elim
              have K8 := Lib.hid (K7.out.trans hk7)
              clear hk7 a0 a1 la
              go_wp2_with fail
              refine (HMK.out _ K8.out).mono ?_
              rintro e w9 ⟨rfl, hk9⟩
              have K9 := Lib.hid (K0.out.trans (K8.out.trans hk9))
              clear hk9
              go_wp2_with fail
              go_ret
              exact ⟨rfl, K9.out⟩
end Go.Proofs.YtologmoanaccpaaGreatDoor
