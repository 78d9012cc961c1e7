/-
  the first signs that no mark has anything in common with: Free
  the first assignment that meets claims: its numbers
-/
import Derived.Test.YtologmoanaccpaaGreatDoorBG
import Derived.Test.YtologmoanaccpaaGreatDoorBH
import Derived.Scope
namespace Go.Proofs.YtologmoanaccpaaGreatDoor
set_option linter.all false
open Go.RowKit Go.Shelf
attribute [local go_sem] Oper.semAt_some

def zero6 : List Value := [.int .u8 0, .int .u8 0, .int .u8 0, .int .u8 0, .int .u8 0, .int .u8 0]
def set7 (W : World) (b1 b2 : Nat) (s : Sg) (e : Int) : World :=
  ((((((W.setCell ⟨b1, 0, none⟩ (.int .u8 s.s0)).setCell ⟨b1, 1, none⟩ (.int .u8 s.s1)).setCell ⟨b1, 2, none⟩ (.int .u8 s.s2)).setCell ⟨b1, 3, none⟩ (.int .u8 s.s3)).setCell ⟨b1, 4, none⟩ (.int .u8 s.s4)).setCell ⟨b1, 5, none⟩ (.int .u8 s.s5)).setCell ⟨b2, 0, none⟩ (.int .i64 e)
theorem set7_ok {w W : World} {b1 b2 : Nat} {s : Sg} {e : Int} (h1 : RowC W b1 zero6) (h2 : RowC W b2 [.int .i64 0]) (hk : Kept w W) (hb1 : w.heap.size ≤ b1) (hb2 : w.heap.size ≤ b2) (hne : b1 ≠ b2) :
    RowC (set7 W b1 b2 s e) b1 (sgV s) ∧ RowC (set7 W b1 b2 s e) b2 [.int .i64 e] ∧ Kept w (set7 W b1 b2 s e) ∧ KeepsOthers W (set7 W b1 b2 s e) := by
  unfold set7
  refine ⟨?_, ?_, ?_, ?_⟩
  · exact ((((((h1.put (j := 0) (by simp [zero6]) _).put (j := 1) (by simp [zero6]) _).put (j := 2) (by simp [zero6]) _).put (j := 3) (by simp [zero6]) _).put (j := 4) (by simp [zero6]) _).put (j := 5) (by simp [zero6]) _).far hne _
  · exact ((((((h2.far (Ne.symm hne) _).far (Ne.symm hne) _).far (Ne.symm hne) _).far (Ne.symm hne) _).far (Ne.symm hne) _).far (Ne.symm hne) _).put (j := 0) (by simp) _
  · exact ((((((hk.setCell (p := ⟨b1, 0, none⟩) hb1 _).setCell (p := ⟨b1, 1, none⟩) hb1 _).setCell (p := ⟨b1, 2, none⟩) hb1 _).setCell (p := ⟨b1, 3, none⟩) hb1 _).setCell (p := ⟨b1, 4, none⟩) hb1 _).setCell (p := ⟨b1, 5, none⟩) hb1 _).setCell (p := ⟨b2, 0, none⟩) hb2 _
  · exact ((((((KeepsOthers.setCell _ _ _).trans (KeepsOthers.setCell _ _ _)).trans (KeepsOthers.setCell _ _ _)).trans (KeepsOthers.setCell _ _ _)).trans (KeepsOthers.setCell _ _ _)).trans (KeepsOthers.setCell _ _ _)).trans (KeepsOthers.setCell _ _ _)
theorem set7_heap {W : World} {b1 b2 : Nat} {s : Sg} {e : Int} {b : Nat} (h1 : b ≠ b1) (h2 : b ≠ b2) : (set7 W b1 b2 s e).heap[b]? = W.heap[b]? := by
  unfold set7
  iterate 7 rw [heap_set (by dsimp only; omega)]
def frB (fs : List Fd) (l : List Mk) (n : Nat) : Bool := l.all fun m => apK fs (sgN n) m.sg 6 != 0
def CohN (pre : List NS) : Prop := pre.map (·.1) = List.range pre.length
theorem CohN.init {pre : List NS} {x : NS} (h : CohN (pre ++ [x])) : CohN pre ∧ x.1 = pre.length := by
  unfold CohN at h
  rw [List.map_append, List.length_append, List.length_singleton, List.range_succ, List.map_cons, List.map_nil] at h
  have := List.append_inj' h rfl
  exact ⟨this.1, by simpa using this.2⟩
theorem CohN.pre {pre : List NS} (h : pre <+: nS 15625) : CohN pre := by
  unfold CohN
  obtain ⟨t, ht⟩ := h
  have h1 := nS_map 15625 (Nat.le_refl _)
  rw [← ht, List.map_append] at h1
  have h2 : pre.length ≤ 15625 := by
    have := congrArg List.length ht
    rw [nS_len (Nat.le_refl _), List.length_append] at this
    omega
  have h3 := congrArg (List.take pre.length) h1
  rw [List.take_left' (by simp), List.take_range, Nat.min_eq_left h2] at h3
  exact h3
def FrI (Wv : World) (fs : List Fd) (l : List Mk) (pre : List NS) (W : World) : Prop := Kept Wv W ∧ (CohN pre → ∀ j, j < pre.length → frB fs l j = false)
theorem FrI.own (Wv : World) (fs : List Fd) (l : List Mk) (B : Nat) (hB : Wv.heap.size ≤ B) : OwnFrom B (FrI Wv fs l) := by
  rintro pre W W' row ⟨h1, h2⟩ hg hr
  exact ⟨h1.below.grown hg h1.size (fun k e => Nat.le_trans hB (hr k e).1), h2⟩
def FrX (w : World) (fs : List Fd) (l : List Mk) (c : Code) (pre : List NS) (W : World) : Prop :=
  c = .ret ∧ Kept w W ∧ (CohN pre → ∃ n, n < 15625 ∧ RowC W (w.heap.size + 1) (sgV (sgN n)) ∧ RowC W (w.heap.size + 1 + 1) [.int .i64 0] ∧ frB fs l n = true ∧ ∀ j, j < n → frB fs l j = false)
theorem FrX.own (w : World) (fs : List Fd) (l : List Mk) (c : Code) (B : Nat) (hB : w.heap.size ≤ B) : OwnFrom B (FrX w fs l c) := by
  rintro pre W W' row ⟨h0, h1, h2⟩ hg hr
  refine ⟨h0, h1.below.grown hg h1.size (fun k e => Nat.le_trans hB (hr k e).1), fun hc => ?_⟩
  obtain ⟨n, h3, h4, h5, h6⟩ := h2 hc
  exact ⟨n, h3, own_rowc hg hr h4, own_rowc hg hr h5, h6⟩
def FreP (w : World) (ms : List Mk) (fs : List Fd) (day : Int) (e : Ending) (w' : World) : Prop :=
  ((inE ms fs day ≠ 0 ∧ e = .returned (.tuple #[sgA ⟨0, 0, 0, 0, 0, 0⟩, .int .i64 (inE ms fs day)])) ∨
   (inE ms fs day = 0 ∧ ∃ l, l.Perm (frcL ms day) ∧ l.Pairwise (fun a b => a.own ≤ b.own) ∧
     ((∃ n, n < 15625 ∧ frB fs l n = true ∧ (∀ j, j < n → frB fs l j = false) ∧ e = .returned (.tuple #[sgA (sgN n), .int .i64 0])) ∨ ((∀ j, j < 15625 → frB fs l j = false) ∧ e = .returned (.tuple #[sgA ⟨0, 0, 0, 0, 0, 0⟩, .int .i64 5]))))) ∧ Kept w w'
set_option maxRecDepth 100000 in
set_option maxHeartbeats 6400000 in
theorem free_any (A B : Option Addr) (n c m d : Nat) (ms : List Mk) (fs : List Fd) (day : Int) (w : World) (hs : SmA w A n c ms B m d fs) :
    Calls Tryz.prog 42 #[.agg #[.slice A n c, .slice B m d], .int .i64 day] w (FreP w ms fs day) := by
  obtain ⟨W0, hW0⟩ : ∃ W0, W0 = ((w.alloc (.cells #[.slice A n c, .slice B m d] 25)).alloc (.cells #[.int .u8 0, .int .u8 0, .int .u8 0, .int .u8 0, .int .u8 0, .int .u8 0] 39)).alloc (.cells #[.int .i64 0] 27) := ⟨_, rfl⟩
  have K0 : RowKit.Hid (Kept w W0) := Lib.hid (by rw [hW0]; exact (((Kept.refl _).alloc _).alloc _).alloc _)
  have R0 : RowKit.Hid (RowC W0 w.heap.size [.slice A n c, .slice B m d]) := Lib.hid (by rw [hW0]; exact (RowC.new w [.slice A n c, .slice B m d] 25).kept (((Kept.refl _).alloc _).alloc _))
  have Z0 : RowKit.Hid (RowC W0 (w.heap.size + 1) zero6) := Lib.hid (by
    rw [hW0]
    have h := (RowC.new (w.alloc (.cells #[.slice A n c, .slice B m d] 25)) zero6 39).kept ((Kept.refl _).alloc (.cells #[.int .i64 0] 27))
    rw [World.size_alloc] at h
    exact h)
  have Y0 : RowKit.Hid (RowC W0 (w.heap.size + 1 + 1) [.int .i64 0]) := Lib.hid (by
    rw [hW0]
    have h := RowC.new ((w.alloc (.cells #[.slice A n c, .slice B m d] 25)).alloc (.cells #[.int .u8 0, .int .u8 0, .int .u8 0, .int .u8 0, .int .u8 0, .int .u8 0] 39)) [.int .i64 0] 27
    rw [World.size_alloc, World.size_alloc] at h
    exact h)
  have HW := Lib.hid hW0
  have HS := Lib.hid (hs.kept K0.out)
  obtain ⟨E1, hE1⟩ : ∃ E, smE ms fs = E := ⟨_, rfl⟩
  obtain ⟨b2, hb2⟩ : ∃ b, inB day 0 100000 = b := ⟨_, rfl⟩
  obtain ⟨v2, hv2⟩ : ∃ v, errB b2 = v := ⟨_, rfl⟩
  obtain ⟨E, hE⟩ : ∃ E, fstE [E1, v2] = E := ⟨_, rfl⟩
  have HE : RowKit.Hid (inE ms fs day = E) := Lib.hid (by unfold inE; rw [hE1, hb2, hv2, hE])
  have H25 : RowKit.Hid (∀ W, Kept W0 W → Calls Tryz.prog 25 #[.agg #[.slice A n c, .slice B m d]] W fun e w' => e = .returned (.int .i64 E1) ∧ Kept W w') := Lib.hid (fun W hW => by rw [← hE1]; exact checkSmits_any A B n c m d ms fs W (HS.out.kept hW))
  have H75 : RowKit.Hid (∀ W, Calls Tryz.prog 75 #[.int .i64 day] W fun e w' => e = .returned (.bool b2) ∧ W = w') := Lib.hid (fun W => by rw [← hb2]; exact isDay_any _ W)
  have HV2 : RowKit.Hid (∀ W, Calls Tryz.prog 74 #[.bool b2] W fun e w' => e = .returned (.int .i64 v2) ∧ W = w') := Lib.hid (fun W => by rw [← hv2]; exact valid_any b2 W)
  have H73 : RowKit.Hid (∀ W g, RowC W g [.int .i64 E1, .int .i64 v2] → Calls Tryz.prog 73 #[.slice (some ⟨g, 0, none⟩) 2 2] W fun e w' => e = .returned (.int .i64 E) ∧ W = w') := Lib.hid (fun W g hr => by
    rw [← hE]
    exact firstError_any g 0 2 2 [E1, v2] rfl (by omega) W (intsR hr))
  have a0 := (R0.out 0 _ rfl).1
  have a1 := (R0.out 1 _ rfl).1
  have la := cell_lt a0
  clear hW0 hs hE1 hb2 hv2 hE
  refine (callsIn_wide (n := 8)).1 ?_
  refine callsIn_of_wp_marks Tryz.func42 rfl trivial ?_ rfl
  simp only [Tryz.ntmps42, List.size_toArray, List.length_cons, List.length_nil, Nat.reduceAdd, Nat.reduceSub, Array.replicate_succ, Array.replicate_zero, List.push_toArray, List.append_toArray, List.nil_append, List.cons_append]
  refine wpIn_wide.2 ?_
  go_upto_region 1 with (fail)
  rw [← HW.out]
  refine wp_scope_straight ?_
  go_wp2_with fail
  refine (H25.out _ (Kept.refl _)).mono ?_
  rintro e w1 ⟨rfl, hk1⟩
  have K1 := Lib.hid hk1
  have R1 := Lib.hid (R0.out.kept hk1)
  clear hk1 a0 a1 la
  go_wp2_with fail
  refine (H75.out _).mono ?_
  rintro e w2 ⟨rfl, rfl⟩
  go_wp2_with fail
  refine (HV2.out _).mono ?_
  rintro e w2 ⟨rfl, rfl⟩
  go_wp2_with fail
  refine (H73.out _ _ (RowC.new _ _ _)).mono ?_
  rintro e w3 ⟨rfl, rfl⟩
  obtain ⟨w3, hw3⟩ : ∃ w3, w3 = w1.alloc (.cells #[.int .i64 E1, .int .i64 v2] 27) := ⟨_, rfl⟩
  have K3 := Lib.hid (show Kept W0 w3 by rw [hw3]; exact K1.out.alloc _)
  have R3 := Lib.hid (R0.out.kept K3.out)
  rw [← hw3]
  have HW3 := Lib.hid hw3
  clear hw3
  have RZ := Lib.hid (Z0.out.kept K3.out)
  have RY := Lib.hid (Y0.out.kept K3.out)
  have hz0 := K0.out.size
  have hz3 := K3.out.size
  by_cases h0 : E = 0
  rotate_left
  · have h1 : (E == 0) = false := by simpa using h0
    have H0 := Lib.hid h0
    obtain ⟨z01, z02⟩ := RZ.out 0 _ rfl
    obtain ⟨z11, z12⟩ := RZ.out 1 _ rfl
    obtain ⟨z21, z22⟩ := RZ.out 2 _ rfl
    obtain ⟨z31, z32⟩ := RZ.out 3 _ rfl
    obtain ⟨z41, z42⟩ := RZ.out 4 _ rfl
    obtain ⟨z51, z52⟩ := RZ.out 5 _ rfl
    obtain ⟨y01, y02⟩ := RY.out 0 _ rfl
    have lz := cell_lt z01
    have ly := cell_lt y01
    clear h0
    have HF := Lib.hid (set7_ok (w := w) (s := ⟨0, 0, 0, 0, 0, 0⟩) (e := E) RZ.out RY.out (K0.out.trans K3.out) (by omega) (by omega) (by omega))
    go_wp2_with fail
    obtain ⟨f1, f2, f3, _⟩ := HF.out
    unfold set7 at f1 f2 f3
    have x0 := (f1 0 _ rfl).1
    have x1 := (f1 1 _ rfl).1
    have x2 := (f1 2 _ rfl).1
    have x3 := (f1 3 _ rfl).1
    have x4 := (f1 4 _ rfl).1
    have x5 := (f1 5 _ rfl).1
    have y0 := (f2 0 _ rfl).1
    refine ⟨.tuple #[sgA ⟨0, 0, 0, 0, 0, 0⟩, .int .i64 E], by simp [results, Tryz.results42, go_sem, sgA, x0, x1, x2, x3, x4, x5, y0], .inl ⟨by rw [HE.out]; exact H0.out, by rw [HE.out]⟩, f3⟩
  · subst h0
    obtain ⟨e1, e2⟩ := fstE_two HE.out
    obtain ⟨hm1, hm2, hmv, hfv, _, _⟩ := sm_ok e1
    have HMV := Lib.hid hmv
    have HFV := Lib.hid hfv
    have hn100 : n ≤ 1000 := by rw [← HS.out.1.1]; omega
    have hl100 := hm1
    have HVW := Lib.hid (viewOf2_any A B n c m d ms fs day w3 (HS.out.kept K3.out) hn100 hmv hfv)
    have hi7 : (Tryz.prog.info? 122).map (·.size) = some 31 := by kernel_rfl
    have hi2 : (Tryz.prog.info? 120).map (·.size) = some 30 := by kernel_rfl
    have a0 := (R3.out 0 _ rfl).1
    have a1 := (R3.out 1 _ rfl).1
    have la := cell_lt a0
    clear e1 e2 hm1 hm2 hmv hfv
    go_wp2_with fail
    refine HVW.out.mono ?_
    rintro e w4 ⟨A5, c5, l5, rfl, p1, p2, sl5, fr5, hk4⟩
    have HP1 := Lib.hid p1
    have HP2 := Lib.hid p2
    have SL5 := Lib.hid sl5
    have K4 := Lib.hid (K3.out.trans hk4)
    have HK34 := Lib.hid hk4
    have hlen : l5.length ≤ 100 := by
      have h1 := p1.length_eq
      have h2 : (frcL ms day).length ≤ ms.length := List.length_filter_le _ _
      omega
    clear hk4 p1 p2 sl5 fr5 a0 a1 la
    go_upto_region 5 with (refine wpList_store_row rfl 122 (.tmp 7) (.tmp 24) rfl w4.heap.size (Value.slice A5 l5.length c5 :: lkL (lkX fs)).toArray rfl rfl 122 zero31.toArray (heap_alloc_new w4 _) (by rw [hi7]; simp [lkL_len]) (by simp [zero31, lkL_len]) (by simp [lkL, Value.oneCell']) ?_)
    obtain ⟨Wv, hWv⟩ : ∃ Wv, Wv = (w4.alloc (.cells zero31.toArray 122)).setRow w4.heap.size (Value.slice A5 l5.length c5 :: lkL (lkX fs)).toArray := ⟨_, rfl⟩
    have hbb : Wv.heap[w4.heap.size]? = some (.cells (Value.slice A5 l5.length c5 :: lkL (lkX fs)).toArray 122 (0, 0)) := by rw [hWv]; exact setRow_heap _ _ _ _ _ _ (heap_alloc_new w4 _)
    have RB := Lib.hid (show RowC Wv w4.heap.size (Value.slice A5 l5.length c5 :: lkL (lkX fs)) from fun j v hv => ⟨by rw [cell_of_row _ _ _ _ _ _ hbb]; simpa using hv, frozen_of_row _ _ _ _ _ hbb⟩)
    have hkv : Kept w4 Wv := by rw [hWv]; exact ((Kept.refl w4).alloc _).setRow (Nat.le_refl _) _
    have HZZ : RowKit.Hid (Wv = (w4.alloc (.cells #[.slice none 0 0, .int .u8 0, .int .u8 0, .int .u8 0, .int .u8 0, .int .u8 0, .int .u8 0, .int .u8 0, .int .u8 0, .int .u8 0, .int .u8 0, .int .u8 0, .int .u8 0, .int .u8 0, .int .u8 0, .int .u8 0, .int .u8 0, .int .u8 0, .int .u8 0, .int .u8 0, .int .u8 0, .int .u8 0, .int .u8 0, .int .u8 0, .int .u8 0, .int .u8 0, .int .u8 0, .int .u8 0, .int .u8 0, .int .u8 0, .int .u8 0] 122)).setRow w4.heap.size (Value.slice A5 l5.length c5 :: lkL (lkX fs)).toArray) := Lib.hid (by rw [hWv]; rfl)
    have KV := Lib.hid hkv
    have SLV := Lib.hid (SL5.out.kept hkv)
    have HKW := Lib.hid (K4.out.trans hkv)
    have HKW' := Lib.hid (HK34.out.trans hkv)
    have HKV' := Lib.hid (K0.out.trans HKW.out)
    have r0 := (RB.out 0 _ rfl).1
    have lr := cell_lt r0
    have hnc5 := SL5.out.2.1
    have hcm5 := SL5.out.2.2.1
    obtain ⟨N, hN⟩ : ∃ N, l5.length = N := ⟨_, rfl⟩
    have HN := Lib.hid hN
    rw [hN] at r0 hnc5 hlen HZZ
    rw [← hN] at HZZ
    rw [← HZZ.out]
    rw [hN] at HZZ ⊢
    clear hWv hbb hkv hN
    have HZv := Lib.hid (RZ.out.kept HKW'.out)
    have HYv := Lib.hid (RY.out.kept HKW'.out)
    have hwv := HKV'.out.size
    refine wp_label ?_
    go_wp2_with fail
    refine (allSigns_any Wv).mono ?_
    rintro e w5 ⟨rfl, rfl⟩
    go_wp2_with fail
    have hseq := allSigns_stops 7 (by omega) w w5 HKV'.out
    have hI0 : FrI w5 fs l5 [] w5 := ⟨Kept.refl _, fun _ j hj => by simp at hj⟩
    refine (wpIn_wide (n := 8)).1 ?_
    refine wpIn_rangeFunc_ownH rfl (by omega) (gf := 166) (lb := #[]) rfl trivial (enters_of Tryz.func166 (by kernel_rfl) rfl)
      hseq KpB.trans (KpB.put hwv) (Below.refl _ _) (fun _ => rfl)
      (FrI w5 fs l5) (FrX w fs l5) (FrI.own _ _ _ _ (Nat.le_refl _)) (fun c => FrX.own _ _ _ _ _ hwv) hI0
      (fun x a' W => ∃ bs, RowC W bs (sgV (sgN x.1)) ∧ w5.heap.size ≤ bs ∧ a' = { tmps := #[.agg #[.slice A n c, .slice B m d], .int .i64 day, .pointer (some ⟨w.heap.size, 0, none⟩), undef, .pointer (some ⟨w.heap.size + 1, 0, none⟩), .pointer (some ⟨w.heap.size + 1 + 1, 0, none⟩), .int .i64 0, .pointer (some ⟨w4.heap.size, 0, none⟩), .pointer (some ⟨bs, 0, none⟩), undef, undef, .agg #[.slice A n c, .slice B m d], .int .i64 E1, .int .i64 day, .bool b2, .int .i64 v2, .slice (some ⟨w1.heap.size, 0, none⟩) 2 2, .int .i64 0, .int .i64 0, .bool false, undef, undef, .agg #[.slice A n c, .slice B m d], .int .i64 day, vwV A5 N c5 fs, .func (.func 166) #[] #[], .agg #[.int .u8 (sgN x.1).s0, .int .u8 (sgN x.1).s1, .int .u8 (sgN x.1).s2, .int .u8 (sgN x.1).s3, .int .u8 (sgN x.1).s4, .int .u8 (sgN x.1).s5], undef, undef, undef, undef, undef, undef, undef, undef, undef, undef, undef, undef, undef, undef, undef, undef, undef, undef], defers := [] }) (fun x a' => fun s W W' row h hg hr => by obtain ⟨bs, h1, h2, h3⟩ := h; exact ⟨bs, own_rowc hg hr h1, h2, h3⟩) ?assign ?body ?done ?stop
    case assign =>
      intro l pre x V K hi hK
      have hV := hi.1.size
      unfold sgA
      gi_wp2
      refine hK _ _ ((KeepsOthers.alloc _ _).from _) ((Below.refl _ _).alloc (by omega) _) ⟨hi.1.alloc _, hi.2⟩ ⟨V.heap.size, RowC.new V (sgV (sgN x.1)) 30, hV, rfl⟩
    case body =>
      rintro l pre x a' V hl2 - ⟨hkv9, hall⟩ ⟨bs, hbs, hbl, rfl⟩ hlt2
      have HKV9 := Lib.hid hkv9
      have HALL := Lib.hid hall
      have HBS := Lib.hid hbs
      have r9 := (RB.out.kept hkv9 0 _ rfl).1
      rw [HN.out] at r9
      have l9 := cell_lt r9
      have hz9 := hkv9.size
      obtain ⟨xn, hxn⟩ := x
      dsimp only
      dsimp only at HBS
      clear hkv9 hall hbs hI0 hseq hlt2 r0 lr
      gi_wp2_with fail
      gi_loopw [30] (fun v w1 => ∃ j : Nat, j ≤ N ∧ v = .int .i64 j ∧ Kept V w1 ∧ (∀ i m, i < j → l5[i]? = some m → (apK fs (sgN xn) m.sg 6 != 0) = true)) (fun v _ => N - (intOf v).toNat)
      case atStart => exact ⟨0, by omega, by first | rfl | go_num, Kept.refl _, fun i m hi => by omega⟩
      case round =>
        obtain ⟨j, hj, rfl, hk10, hap⟩ := hrel
        have HK10 := Lib.hid hk10
        have HAPS := Lib.hid hap
        have r10 := (RB.out.kept (HKV9.out.trans hk10) 0 _ rfl).1
        have l10 := cell_lt r10
        clear hk10 hap r9 l9
        by_cases hlt : j < N
        · obtain ⟨y, hy⟩ : ∃ y, l5[j]? = some y := ⟨_, List.getElem?_eq_getElem (by rw [HN.out]; exact hlt)⟩
          have hne : 0 < l5.length := by rw [HN.out]; omega
          obtain ⟨b, off, hA, ht⟩ := SLV.out.2.2.2.2 hne
          subst hA
          have HY := Lib.hid hy
          have hcc : ∀ j' v, (mkC y)[j']? = some v → wr.cell? ⟨b, off + j * 9 + j', none⟩ = some v := fun j' v hv => ((HKV9.out.trans HK10.out).cells _ _ (cell_lt (ht j y hy j' v hv))).trans (ht j y hy j' v hv)
          have c0 := hcc 0 _ rfl
          have c1 := hcc 1 _ rfl
          have c2 := hcc 2 _ rfl
          have c3 := hcc 3 _ rfl
          have c4 := hcc 4 _ rfl
          have c5' := hcc 5 _ rfl
          have c6 := hcc 6 _ rfl
          have c7 := hcc 7 _ rfl
          have c8 := hcc 8 _ rfl
          rw [Nat.add_zero] at c0
          have lc := cell_lt c0
          obtain ⟨Wb, hWb⟩ : ∃ Wb, Wb = wr.alloc (.cells (mkC y).toArray 32) := ⟨_, rfl⟩
          have kb : Kept wr Wb := by rw [hWb]; exact (Kept.refl _).alloc _
          have RY5 := Lib.hid (show RowC Wb wr.heap.size (mkC y) by rw [hWb]; exact RowC.new wr (mkC y) 32)
          have KB := Lib.hid (HK10.out.trans kb)
          have HWB : RowKit.Hid (wr.alloc (.cells #[.int .i64 y.own, .int .i64 y.frm, .int .i64 y.unt, .int .u8 y.sg.s0, .int .u8 y.sg.s1, .int .u8 y.sg.s2, .int .u8 y.sg.s3, .int .u8 y.sg.s4, .int .u8 y.sg.s5] 32) = Wb) := Lib.hid (by rw [hWb]; rfl)
          have RSb := Lib.hid (HBS.out.kept KB.out)
          have HRG : RowKit.Hid (Wb.rangeAt w4.heap.size 1 (lkL (lkX fs))) := Lib.hid (fun j' v hv => (RB.out.kept (HKV9.out.trans KB.out) (1 + j') v (by rw [Nat.add_comm]; simpa using hv)).1)
          have hmy := HMV.out y (List.mem_filter.1 (HP1.out.mem_iff.1 (List.mem_of_getElem? hy))).1
          have hys := SL5.out.2.2.2.1 y (List.mem_of_getElem? hy)
          have HAP := Lib.hid (apart_any fs (sgN xn) y.sg (fade4 HFV.out) (sgN_ok xn) (mk_sg hys) (sgN_clear xn) (mark_clear hmy))
          obtain ⟨M, hM⟩ : ∃ M, apK fs (sgN xn) y.sg 6 = M := ⟨_, rfl⟩
          rw [hM] at HAP
          have HM := Lib.hid hM
          clear ht hcc hy hWb kb hmy hys hM
          gi_upto_region 10 with (fail)
          rw [HWB.out]
          clear c0 c1 c2 c3 c4 c5' c6 c7 c8 lc
          have d0 := (RSb.out 0 _ rfl).1
          have d1 := (RSb.out 1 _ rfl).1
          have d2 := (RSb.out 2 _ rfl).1
          have d3 := (RSb.out 3 _ rfl).1
          have d4 := (RSb.out 4 _ rfl).1
          have d5 := (RSb.out 5 _ rfl).1
          have g0 := (RY5.out 0 _ rfl).1
          have g3 := (RY5.out 3 _ rfl).1
          have g4 := (RY5.out 4 _ rfl).1
          have g5 := (RY5.out 5 _ rfl).1
          have g6 := (RY5.out 6 _ rfl).1
          have g7 := (RY5.out 7 _ rfl).1
          have g8 := (RY5.out 8 _ rfl).1
          have ld := cell_lt d0
          have lg := cell_lt g0
          gi_wp2_with (first | (refine wpListIn_load_mid rfl 120 (.tmp 34) rfl w4.heap.size 1 rfl (lkL (lkX fs)) _ HRG.out Tryz.underlying120 rfl (by rw [hi2]; simp [lkL_len]) ?_) | fail)
          refine ⟨trivial, (CallsIn.inRound l (callsIn_wide.2 (HAP.out _))).mono ?_⟩
          rintro e w12 ⟨rfl, hk12⟩
          have K12 := Lib.hid (KB.out.trans hk12)
          clear d0 d1 d2 d3 d4 d5 g0 g3 g4 g5 g6 g7 g8 ld lg hk12
          by_cases hM0 : M = 0
          · subst hM0
            gi_wp2_with fail
            have h12 := K12.out
            have hv0 := HKV9.out.size
            refine ⟨⟨h12.size, fun kk o _ hk ho => (h12.block kk (Array.getElem?_eq_some_iff.1 hk).1).trans hk⟩, h12.below.mono (by omega), HKV9.out.trans h12, fun hco => ?_⟩
            obtain ⟨hco1, hxl⟩ := hco.init
            dsimp only at hxl
            intro i hi
            rw [List.length_append, List.length_singleton] at hi
            by_cases hix : i < pre.length
            · exact HALL.out hco1 i hix
            · obtain rfl : i = xn := by omega
              unfold frB
              rw [List.all_eq_false]
              exact ⟨y, List.mem_of_getElem? HY.out, by rw [HM.out]; simp⟩
          · have hM2 : ((M : Int) == 0) = false := by simp; omega
            gi_wp2_with fail
            go_roundw
            case rel =>
              refine ⟨j + 1, by omega, by go_num, K12.out, fun i m hi hm => ?_⟩
              rcases Nat.lt_or_eq_of_le (Nat.le_of_lt_succ hi) with h | h
              · exact HAPS.out i m h hm
              · subst h
                have := HY.out
                rw [hm] at this
                cases this
                rw [HM.out]
                simpa using hM0
            case measure => simp [intOf]; omega
        · obtain rfl : j = N := by omega
          have RSb := Lib.hid (HBS.out.kept HK10.out)
          have RZb := Lib.hid (HZv.out.kept (HKV9.out.trans HK10.out))
          have RYb := Lib.hid (HYv.out.kept (HKV9.out.trans HK10.out))
          have KW := Lib.hid (HKV'.out.trans (HKV9.out.trans HK10.out))
          have HFR : RowKit.Hid (frB fs l5 xn = true) := Lib.hid (by
            unfold frB
            rw [List.all_eq_true]
            intro m hm
            obtain ⟨i, hi⟩ := List.getElem?_of_mem hm
            exact HAPS.out i m (by rw [← HN.out]; exact (List.getElem?_eq_some_iff.1 hi).1) hi)
          obtain ⟨z01, z02⟩ := RZb.out 0 _ rfl
          obtain ⟨z11, z12⟩ := RZb.out 1 _ rfl
          obtain ⟨z21, z22⟩ := RZb.out 2 _ rfl
          obtain ⟨z31, z32⟩ := RZb.out 3 _ rfl
          obtain ⟨z41, z42⟩ := RZb.out 4 _ rfl
          obtain ⟨z51, z52⟩ := RZb.out 5 _ rfl
          obtain ⟨y01, y02⟩ := RYb.out 0 _ rfl
          have d0 := (RSb.out 0 _ rfl).1
          have d1 := (RSb.out 1 _ rfl).1
          have d2 := (RSb.out 2 _ rfl).1
          have d3 := (RSb.out 3 _ rfl).1
          have d4 := (RSb.out 4 _ rfl).1
          have d5 := (RSb.out 5 _ rfl).1
          have lz := cell_lt z01
          have ly := cell_lt y01
          have ld := cell_lt d0
          have HF := Lib.hid (set7_ok (w := w) (s := sgN xn) (e := 0) RZb.out RYb.out KW.out (by omega) (by omega) (by omega))
          have hk10 := HK10.out
          have HKF := Lib.hid (show KeepsFrom w5.heap.size V wr from ⟨hk10.size, fun kk o _ hk ho => (hk10.block kk (Array.getElem?_eq_some_iff.1 hk).1).trans hk⟩)
          clear hk10
          gi_wp2_with fail
          obtain ⟨f1, f2, f3, f4⟩ := HF.out
          unfold set7 at f1 f2 f3 f4
          refine ⟨HKF.out.trans (f4.from _), rfl, f3, fun hco => ?_⟩
          obtain ⟨hco1, hxl⟩ := hco.init
          dsimp only at hxl
          exact ⟨xn, hxn, f1, f2, HFR.out, fun i hi => HALL.out hco1 i (by omega)⟩
    case done =>
      rintro D ys V hD rfl ⟨hkv9, hall⟩ hK
      have HALL := Lib.hid (hall (CohN.pre (List.prefix_refl _)))
      have RZb := Lib.hid (HZv.out.kept hkv9)
      have RYb := Lib.hid (HYv.out.kept hkv9)
      have KW := Lib.hid (HKV'.out.trans hkv9)
      have HKD := Lib.hid hK
      obtain ⟨z01, z02⟩ := RZb.out 0 _ rfl
      obtain ⟨z11, z12⟩ := RZb.out 1 _ rfl
      obtain ⟨z21, z22⟩ := RZb.out 2 _ rfl
      obtain ⟨z31, z32⟩ := RZb.out 3 _ rfl
      obtain ⟨z41, z42⟩ := RZb.out 4 _ rfl
      obtain ⟨z51, z52⟩ := RZb.out 5 _ rfl
      obtain ⟨y01, y02⟩ := RYb.out 0 _ rfl
      have lz := cell_lt z01
      have ly := cell_lt y01
      have HF := Lib.hid (set7_ok (w := w) (s := ⟨0, 0, 0, 0, 0, 0⟩) (e := 5) RZb.out RYb.out KW.out (by omega) (by omega) (by omega))
      clear hkv9 hall hI0 hseq hK r0 lr
      go_wp2_with fail
      obtain ⟨f1, f2, f3, _⟩ := HF.out
      obtain ⟨V2, hV2⟩ : ∃ V2, V2 = set7 V (w.heap.size + 1) (w.heap.size + 1 + 1) ⟨0, 0, 0, 0, 0, 0⟩ 5 := ⟨_, rfl⟩
      have hh : ∀ b, b ≠ w.heap.size + 1 → b ≠ w.heap.size + 1 + 1 → V2.heap[b]? = V.heap[b]? := fun b h1 h2 => by
        rw [hV2]; exact set7_heap h1 h2
      rw [← hV2] at f1 f2 f3
      unfold set7 at hV2
      rw [← hV2]
      have hz0' := KW.out.size
      have hzz : w.heap.size + 1 + 1 < w5.heap.size := by have := cell_lt (HYv.out 0 _ rfl).1; omega
      have hK2 : V2.heap[D]? = some (.deferred (some [])) := by
        rw [hh D (by omega) (by omega)]; exact HKD.out
      refine ⟨by simp, .inl ⟨_, _, rfl, run_takeDeferred hK2, ?_⟩⟩
      have hpb : ∀ b, b ≠ D → (V2.putObj D (.deferred none)).heap[b]? = V2.heap[b]? := fun b hb => World.putObj_heap_other (by omega)
      have q1 := rowc_heap (hpb _ (by omega)) f1
      have q2 := rowc_heap (hpb _ (by omega)) f2
      have x0 := (q1 0 _ rfl).1
      have x1 := (q1 1 _ rfl).1
      have x2 := (q1 2 _ rfl).1
      have x3 := (q1 3 _ rfl).1
      have x4 := (q1 4 _ rfl).1
      have x5 := (q1 5 _ rfl).1
      have y0 := (q2 0 _ rfl).1
      refine ⟨.tuple #[sgA ⟨0, 0, 0, 0, 0, 0⟩, .int .i64 5], by simp [results, Tryz.results42, go_sem, sgA, x0, x1, x2, x3, x4, x5, y0], .inr ⟨HE.out, l5, HP1.out, HP2.out, .inr ⟨fun j hj => HALL.out j (by rw [nS_len (Nat.le_refl _)]; exact hj), rfl⟩⟩, ?_⟩
      exact f3.putDeferred (by omega) hK2 rfl rfl
    case stop =>
      rintro D c pre V hD hp9 ⟨rfl, hkv9, hfin⟩ hK
      obtain ⟨nn, hnn, f1, f2, hfr, hlo⟩ := hfin (CohN.pre hp9)
      gi_wp2
      have hzz : w.heap.size + 1 + 1 < w5.heap.size := by have := cell_lt (HYv.out 0 _ rfl).1; omega
      refine ⟨by simp, .inl ⟨_, _, rfl, run_takeDeferred hK, ?_⟩⟩
      have hpb : ∀ b, b ≠ D → (V.putObj D (.deferred none)).heap[b]? = V.heap[b]? := fun b hb => World.putObj_heap_other (by omega)
      have q1 := rowc_heap (hpb _ (by omega)) f1
      have q2 := rowc_heap (hpb _ (by omega)) f2
      have x0 := (q1 0 _ rfl).1
      have x1 := (q1 1 _ rfl).1
      have x2 := (q1 2 _ rfl).1
      have x3 := (q1 3 _ rfl).1
      have x4 := (q1 4 _ rfl).1
      have x5 := (q1 5 _ rfl).1
      have y0 := (q2 0 _ rfl).1
      refine ⟨.tuple #[sgA (sgN nn), .int .i64 0], by simp [results, Tryz.results42, go_sem, sgA, x0, x1, x2, x3, x4, x5, y0], .inr ⟨HE.out, l5, HP1.out, HP2.out, .inl ⟨nn, hnn, hfr, hlo, rfl⟩⟩, ?_⟩
      exact hkv9.putDeferred (by omega) hK rfl rfl
end Go.Proofs.YtologmoanaccpaaGreatDoor

namespace Go.Proofs.YtologmoanaccpaaGreatDoor
set_option linter.all false

def bitO (x : Int) : Nat := if x = 0 then 0 else 2 ^ x.toNat
/-- one list comes before another -/
def LexLt (p q : List Int) : Prop := ∃ i : Nat, (∀ j, j < i → p[j]? = q[j]?) ∧ ∃ x y, p[i]? = some x ∧ q[i]? = some y ∧ x < y
def curF (fits : List Nat) (p : List Int) : List Nat := p.map bitO ++ fits.drop p.length
def OkP (fits : List Nat) (p : List Int) : Prop := ∀ (j : Nat) (x : Int), p[j]? = some x → x = 0 ∨ (1 ≤ x ∧ x ≤ 40 ∧ ∃ f, fits[j]? = some f ∧ f.testBit x.toNat = true)
/-- what is known when the owners of the first beasts stand -/
structure FsI (fits : List Nat) (cl : Nat) (wt : List Int) (p ow : List Int) : Prop where
  (le : p.length ≤ fits.length) (ok : OkP fits p) (met : MetA (curF fits p) cl wt ow)
  (all : ∀ ow', MetA (curF fits p) cl wt ow' → ow'.take p.length = p)
  (lex : ∀ ow', MetA fits cl wt ow' → ow'.take p.length = p ∨ LexLt p ow')
theorem curF_len {fits : List Nat} {p : List Int} (h : p.length ≤ fits.length) : (curF fits p).length = fits.length := by
  unfold curF; simp; omega
theorem curF_lt {fits : List Nat} {p : List Int} {j : Nat} (h : j < p.length) : (curF fits p)[j]? = (p[j]?).map bitO := by
  unfold curF
  rw [List.getElem?_append_left (by simpa using h), List.getElem?_map]
theorem curF_ge {fits : List Nat} {p : List Int} {j : Nat} (h : p.length ≤ j) : (curF fits p)[j]? = fits[j]? := by
  unfold curF
  rw [List.getElem?_append_right (by simpa using h), List.getElem?_drop, List.length_map]
  congr 1; omega
theorem curF_snoc {fits : List Nat} {p : List Int} {x : Int} (h : p.length < fits.length) : (curF fits p).set p.length (bitO x) = curF fits (p ++ [x]) := by
  apply List.ext_getElem?
  intro j
  rw [List.getElem?_set]
  have hl := curF_len (fits := fits) (p := p) (by omega)
  by_cases h1 : p.length = j
  · subst h1
    rw [if_pos rfl, if_pos (by omega), curF_lt (by simp)]
    simp
  · rw [if_neg h1]
    rcases Nat.lt_or_ge j p.length with h2 | h2
    · rw [curF_lt h2, curF_lt (by simp; omega), List.getElem?_append_left h2]
    · rw [curF_ge h2, curF_ge (by simp; omega)]
theorem bitO_bit {x : Int} {q : Nat} (h : (bitO x).testBit q = true) : x ≠ 0 ∧ q = x.toNat := by
  unfold bitO at h
  split at h
  · simp at h
  · rename_i h0
    rw [Nat.testBit_two_pow] at h
    exact ⟨h0, (by simpa using h : x.toNat = q).symm⟩
/-- an assignment for fewer is one for more -/
theorem met_up {fits fits' : List Nat} {cl : Nat} {wt ow : List Int} (hl : fits'.length = fits.length) (hs : ∀ (j : Nat) (f : Nat), fits[j]? = some f → ∀ q, f.testBit q = true → ∃ f', fits'[j]? = some f' ∧ f'.testBit q = true) (h : MetA fits cl wt ow) : MetA fits' cl wt ow :=
  ⟨⟨by rw [hl]; exact h.1.1, fun b x hb h0 => by
    obtain ⟨h1, h2, f, hf, hq⟩ := h.1.2 b x hb h0
    exact ⟨h1, h2, hs b f hf _ hq⟩⟩, h.2⟩
theorem met_cur {fits : List Nat} {p : List Int} {cl : Nat} {wt ow : List Int} (hp : p.length ≤ fits.length) (ho : OkP fits p) (h : MetA (curF fits p) cl wt ow) : MetA fits cl wt ow := by
  refine met_up (curF_len hp).symm (fun j f hf q hq => ?_) h
  rcases Nat.lt_or_ge j p.length with h2 | h2
  · rw [curF_lt h2] at hf
    obtain ⟨x, hx, rfl⟩ := Option.map_eq_some_iff.1 hf
    obtain ⟨hx0, rfl⟩ := bitO_bit hq
    rcases ho j x hx with h3 | ⟨_, _, h5⟩
    · exact absurd h3 hx0
    · exact h5
  · rw [curF_ge h2] at hf
    exact ⟨f, hf, hq⟩
theorem cur_met {fits : List Nat} {p : List Int} {cl : Nat} {wt ow : List Int} (hp : p.length ≤ fits.length) (h : MetA fits cl wt ow) (ht : ow.take p.length = p) : MetA (curF fits p) cl wt ow :=
  ⟨⟨by rw [curF_len hp]; exact h.1.1, fun b x hb h0 => by
    obtain ⟨h1, h2, f, hf, hq⟩ := h.1.2 b x hb h0
    refine ⟨h1, h2, ?_⟩
    rcases Nat.lt_or_ge b p.length with h3 | h3
    · have hpb : p[b]? = some x := by rw [← ht, List.getElem?_take, if_pos h3]; exact hb
      refine ⟨bitO x, by rw [curF_lt h3, hpb]; rfl, ?_⟩
      unfold bitO
      rw [if_neg h0, Nat.testBit_two_pow]
      simp
    · exact ⟨f, by rw [curF_ge h3]; exact hf, hq⟩⟩, h.2⟩
theorem take_snoc2 {l : List Int} {k : Nat} {x : Int} (h : l[k]? = some x) : l.take (k + 1) = l.take k ++ [x] := by
  rw [List.take_add_one, h]; rfl
theorem lex_snoc {p q : List Int} {x : Int} (h : LexLt p q) : LexLt (p ++ [x]) q := by
  obtain ⟨i, h1, a, b, h2, h3, h4⟩ := h
  have hi : i < p.length := (List.getElem?_eq_some_iff.1 h2).1
  exact ⟨i, fun j hj => by rw [List.getElem?_append_left (by omega)]; exact h1 j hj, a, b, by rw [List.getElem?_append_left hi]; exact h2, h3, h4⟩
theorem lex_here {p q : List Int} {x y : Int} (h : q.take p.length = p) (hq : q[p.length]? = some y) (hx : x < y) : LexLt (p ++ [x]) q := by
  refine ⟨p.length, fun j hj => ?_, x, y, by simp, hq, hx⟩
  rw [List.getElem?_append_left hj]
  conv => lhs; rw [← h]
  rw [List.getElem?_take, if_pos hj]
theorem met_at {fits : List Nat} {cl : Nat} {wt ow : List Int} (h : MetA fits cl wt ow) {k : Nat} (hk : k < fits.length) : ∃ y, ow[k]? = some y ∧ (y = 0 ∨ (1 ≤ y ∧ y ≤ 40 ∧ ∃ f, fits[k]? = some f ∧ f.testBit y.toNat = true)) := by
  have hl : k < ow.length := by rw [h.1.1]; exact hk
  refine ⟨ow[k], List.getElem?_eq_getElem hl, ?_⟩
  by_cases h0 : ow[k] = 0
  · exact .inl h0
  · exact .inr (h.1.2 k _ (List.getElem?_eq_getElem hl) h0)
theorem FsI.none {fits : List Nat} {cl : Nat} {wt p ow : List Int} (h : FsI fits cl wt p ow) {f : Nat} (hk : p.length < fits.length) (hf : fits[p.length]? = some f) (h0 : ∀ ow', ¬ MetA (curF fits (p ++ [0])) cl wt ow')
    (hy : ∀ y : Nat, f.testBit y = true → 1 ≤ y → y ≤ 40 → ∀ ow', ¬ MetA (curF fits (p ++ [(y : Int)])) cl wt ow') : False := by
  obtain ⟨y, hy1, hy2⟩ := met_at h.met (k := p.length) (by rw [curF_len h.le]; exact hk)
  have ht := h.all ow h.met
  have hm := met_cur h.le h.ok h.met
  rcases hy2 with rfl | ⟨y1, y2, f', hf', hb⟩
  · exact h0 ow (cur_met (by simp; omega) hm (by rw [List.length_append, List.length_singleton, take_snoc2 hy1, ht]))
  · rw [curF_ge (Nat.le_refl _), hf] at hf'
    cases hf'
    have e : ((y.toNat : Nat) : Int) = y := by omega
    refine hy y.toNat hb (by omega) (by omega) ow (cur_met (by simp; omega) hm ?_)
    rw [List.length_append, List.length_singleton, take_snoc2 hy1, ht, e]
/-- one beast more: its owner is o, and nobody before o could be it -/
theorem FsI.step {fits : List Nat} {cl : Nat} {wt p ow ow1 : List Int} (h : FsI fits cl wt p ow) {f : Nat} {o : Nat} (hk : p.length < fits.length) (hf : fits[p.length]? = some f) (hm1 : MetA (curF fits (p ++ [(o : Int)])) cl wt ow1)
    (ho : o = 0 ∨ (1 ≤ o ∧ o ≤ 40 ∧ f.testBit o = true ∧ ∀ ow', ¬ MetA (curF fits (p ++ [0])) cl wt ow'))
    (hy : ∀ y : Nat, f.testBit y = true → 1 ≤ y → y < o → ∀ ow', ¬ MetA (curF fits (p ++ [(y : Int)])) cl wt ow') : FsI fits cl wt (p ++ [(o : Int)]) ow1 := by
  have hok : OkP fits (p ++ [(o : Int)]) := fun j x hx => by
    rcases Nat.lt_or_ge j p.length with h1 | h1
    · rw [List.getElem?_append_left h1] at hx
      exact h.ok j x hx
    · rw [List.getElem?_append_right h1] at hx
      have hj : j - p.length = 0 := by
        have := (List.getElem?_eq_some_iff.1 hx).1
        simp at this; omega
      rw [hj] at hx
      simp at hx
      subst hx
      have hj2 : j = p.length := by omega
      subst hj2
      rcases ho with rfl | ⟨h2, h3, h4, _⟩
      · exact .inl rfl
      · exact .inr ⟨by omega, by omega, f, hf, by rw [Int.toNat_natCast]; exact h4⟩
  have hle : (p ++ [(o : Int)]).length ≤ fits.length := by simp; omega
  -- every assignment that begins with p and is one of all has at k an owner that is o or comes behind it
  have key : ∀ ow', MetA fits cl wt ow' → ow'.take p.length = p → ∃ y, ow'[p.length]? = some y ∧ (o : Int) ≤ y := fun ow' hm ht => by
    obtain ⟨y, hy1, hy2⟩ := met_at hm hk
    refine ⟨y, hy1, ?_⟩
    rcases ho with rfl | ⟨h2, h3, h4, h5⟩
    · rcases hy2 with rfl | ⟨y1, _⟩ <;> omega
    · rcases hy2 with rfl | ⟨y1, y2, f', hf', hb⟩
      · exact absurd (cur_met (by simp; omega) hm (by rw [List.length_append, List.length_singleton, take_snoc2 hy1, ht])) (h5 ow')
      · rw [hf] at hf'
        cases hf'
        rcases Int.lt_or_le y (o : Int) with h6 | h6
        · have e : ((y.toNat : Nat) : Int) = y := by omega
          refine absurd (cur_met (by simp; omega) hm ?_) (hy y.toNat hb (by omega) (by omega) ow')
          rw [List.length_append, List.length_singleton, take_snoc2 hy1, ht, e]
        · exact h6
  refine ⟨hle, hok, hm1, fun ow' hm' => ?_, fun ow' hm' => ?_⟩
  · have hmf := met_cur hle hok hm'
    have hmp : MetA (curF fits p) cl wt ow' := by
      refine met_up (by rw [curF_len h.le, curF_len hle]) (fun j g hg q hq => ?_) hm'
      rcases Nat.lt_or_ge j p.length with h1 | h1
      · rw [curF_lt (by simp; omega), List.getElem?_append_left h1] at hg
        exact ⟨g, by rw [curF_lt h1]; exact hg, hq⟩
      · by_cases h2 : j = p.length
        · subst h2
          rw [curF_lt (by simp)] at hg
          simp at hg
          subst hg
          obtain ⟨h3, rfl⟩ := bitO_bit hq
          rcases ho with rfl | ⟨_, _, h4, _⟩
          · exact absurd rfl h3
          · exact ⟨f, by rw [curF_ge (Nat.le_refl _)]; exact hf, by first | exact h4 | (rw [Int.toNat_natCast]; exact h4)⟩
        · rw [curF_ge (by simp; omega)] at hg
          exact ⟨g, by rw [curF_ge h1]; exact hg, hq⟩
    have ht := h.all ow' hmp
    obtain ⟨y, hy1, hy2⟩ := met_at hm' (k := p.length) (by rw [curF_len hle]; exact hk)
    obtain ⟨y', hy1', hy3⟩ := key ow' hmf ht
    rw [hy1] at hy1'
    cases hy1'
    rw [List.length_append, List.length_singleton, take_snoc2 hy1, ht]
    rcases hy2 with rfl | ⟨y1, y2, f', hf', hb⟩
    · congr 2; omega
    · rw [curF_lt (by simp)] at hf'
      simp at hf'
      subst hf'
      obtain ⟨_, h5⟩ := bitO_bit hb
      congr 2
      omega
  · rcases h.lex ow' hm' with ht | hl
    · obtain ⟨y, hy1, hy2⟩ := key ow' hm' ht
      rcases Int.lt_or_eq_of_le hy2 with h6 | h6
      · exact .inr (lex_here ht hy1 h6)
      · left
        rw [List.length_append, List.length_singleton, take_snoc2 hy1, ht, h6]
    · exact .inr (lex_snoc hl)
theorem FsI.init {fits : List Nat} {cl : Nat} {wt ow : List Int} (h : MetA fits cl wt ow) : FsI fits cl wt [] ow :=
  ⟨by simp, fun j x hx => by simp at hx, by unfold curF; simpa using h, fun ow' _ => by simp, fun ow' _ => .inl (by simp)⟩
/-- the first assignment that meets claims -/
def FirstA (fits : List Nat) (cl : Nat) (wt ow : List Int) : Prop := MetA fits cl wt ow ∧ ∀ ow', MetA fits cl wt ow' → ow' = ow ∨ LexLt ow ow'
theorem FsI.done {fits : List Nat} {cl : Nat} {wt p ow : List Int} (h : FsI fits cl wt p ow) (hl : p.length = fits.length) : FirstA fits cl wt ow := by
  have hm := met_cur h.le h.ok h.met
  have e : ow = p := by
    have := h.all ow h.met
    rw [List.take_of_length_le (by rw [hm.1.1]; omega)] at this
    exact this
  subst e
  refine ⟨hm, fun ow' hm' => ?_⟩
  rcases h.lex ow' hm' with h1 | h1
  · left
    rw [List.take_of_length_le (by rw [hm'.1.1]; omega)] at h1
    exact h1
  · exact .inr h1
theorem lex_irrefl {p q : List Int} (h : LexLt p q) (k : LexLt q p) : False := by
  obtain ⟨i, h1, a, b, h2, h3, h4⟩ := h
  obtain ⟨j, k1, c, d, k2, k3, k4⟩ := k
  rcases Nat.lt_trichotomy i j with hij | hij | hij
  · have := k1 i hij
    rw [h2, h3] at this
    cases this; omega
  · subst hij
    rw [h3] at k2; rw [h2] at k3
    cases k2; cases k3; omega
  · have := h1 j hij
    rw [k2, k3] at this
    cases this; omega
theorem FirstA.uniq {fits : List Nat} {cl : Nat} {wt ow ow' : List Int} (h : FirstA fits cl wt ow) (k : FirstA fits cl wt ow') : ow = ow' := by
  rcases h.2 ow' k.1 with h1 | h1
  · exact h1.symm
  · rcases k.2 ow h.1 with h2 | h2
    · exact h2
    · exact (lex_irrefl h1 h2).elim
end Go.Proofs.YtologmoanaccpaaGreatDoor
