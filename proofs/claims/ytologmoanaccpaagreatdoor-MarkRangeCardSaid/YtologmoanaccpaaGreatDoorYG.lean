/-
  the mark of an owner: MarkOf of the code and of the reference
  MarkOf
-/
import Derived.Test.YtologmoanaccpaaGreatDoorYD
import Derived.Test.YtologmoanaccpaaGreatDoorXZ
namespace Go.Proofs.YtologmoanaccpaaGreatDoor
set_option linter.all false
open Go.RowKit Go.Shelf

def moAt (l : List Mk) (o : Int) : Option Mk := l.find? fun m => decide (m.own = o)
def MoR (w : World) (l : List Mk) (o : Int) (e : Ending) (w' : World) : Prop :=
  e = .returned (.tuple #[.agg (mkC ((moAt l o).getD mk0)).toArray, .bool (moAt l o).isSome]) ∧ Kept w w'
theorem e152 : ∀ args w, (callFunc 152 args).run Tryz.prog w = .ok (.enter 152 args) w := enters_of Tryz.func152 (by kernel_rfl) rfl
set_option maxRecDepth 100000 in
theorem pred152 (o : Int) (b : Nat) (w : World) (hb : w.cell? ⟨b, 0, none⟩ = some (.int .i64 o)) : PredG mkC Mk.ok 152 #[.pointer (some ⟨b, 0, none⟩)] (fun m => decide (m.own = o)) w := by
  intro W x hx hk
  have hc := (hk.cells _ _ (cell_lt hb)).trans hb
  have lc := cell_lt hc
  obtain ⟨W0, hW0⟩ : ∃ W0, W0 = W.alloc (.cells #[.int .i64 x.own, .int .i64 x.frm, .int .i64 x.unt, .int .u8 x.sg.s0, .int .u8 x.sg.s1, .int .u8 x.sg.s2, .int .u8 x.sg.s3, .int .u8 x.sg.s4, .int .u8 x.sg.s5] 32) := ⟨_, rfl⟩
  have K0 : RowKit.Hid (Kept W W0) := Lib.hid (by rw [hW0]; exact (Kept.refl _).alloc _)
  have R0 : RowKit.Hid (RowC W0 W.heap.size (mkC x)) := Lib.hid (by rw [hW0]; exact RowC.new W (mkC x) 32)
  have hc0 := (K0.out.cells _ _ lc).trans hc
  have lc0 := cell_lt hc0
  have HW := Lib.hid hW0
  have a0 := (R0.out 0 _ rfl).1
  have la := cell_lt a0
  clear hW0 hk hx hb hc lc
  by_cases he : x.own = o
  · have h1 : (x.own == o) = true := by simpa using he
    have HE := Lib.hid he
    clear he
    show Calls Tryz.prog 152 #[.agg #[.int .i64 x.own, .int .i64 x.frm, .int .i64 x.unt, .int .u8 x.sg.s0, .int .u8 x.sg.s1, .int .u8 x.sg.s2, .int .u8 x.sg.s3, .int .u8 x.sg.s4, .int .u8 x.sg.s5], .pointer (some ⟨b, 0, none⟩)] W _
    go_enter Tryz.func152, Tryz.ntmps152
    go_upto_region 1 with (fail)
    rw [← HW.out]
    go_wp2_with fail
    go_ret
    exact ⟨ret_bool (by simp [HE.out]), K0.out⟩
  · have h1 : (x.own == o) = false := by simpa using he
    have HE := Lib.hid he
    clear he
    show Calls Tryz.prog 152 #[.agg #[.int .i64 x.own, .int .i64 x.frm, .int .i64 x.unt, .int .u8 x.sg.s0, .int .u8 x.sg.s1, .int .u8 x.sg.s2, .int .u8 x.sg.s3, .int .u8 x.sg.s4, .int .u8 x.sg.s5], .pointer (some ⟨b, 0, none⟩)] W _
    go_enter Tryz.func152, Tryz.ntmps152
    go_upto_region 1 with (fail)
    rw [← HW.out]
    go_wp2_with fail
    go_ret
    exact ⟨ret_bool (by simp [HE.out]), K0.out⟩
set_option maxRecDepth 100000 in
set_option maxHeartbeats 3200000 in
theorem markOf_any (A : Option Addr) (n c : Nat) (l : List Mk) (o : Int) (w : World) (hs : SlA mkC 9 Mk.ok w A n c l) :
    Calls Tryz.prog 80 #[.slice A n c, .int .i64 o] w (MoR w l o) := by
  obtain ⟨W0, hW0⟩ : ∃ W0, W0 = (w.alloc (.cells #[.int .i64 o] 3)).alloc (.cells #[.int .i64 0, .int .i64 0, .int .i64 0, .int .u8 0, .int .u8 0, .int .u8 0, .int .u8 0, .int .u8 0, .int .u8 0] 32) := ⟨_, rfl⟩
  have K0 : RowKit.Hid (Kept w W0) := Lib.hid (by rw [hW0]; exact ((Kept.refl _).alloc _).alloc _)
  have R0 : RowKit.Hid (RowC W0 w.heap.size [.int .i64 o]) := Lib.hid (by rw [hW0]; exact (RowC.new w [.int .i64 o] 3).kept ((Kept.refl _).alloc _))
  have R1 : RowKit.Hid (RowC W0 (w.heap.size + 1) zero9) := Lib.hid (by rw [hW0]; have h := RowC.new (w.alloc (.cells #[.int .i64 o] 3)) zero9 32; rwa [World.size_alloc] at h)
  have HW := Lib.hid hW0
  have HS := Lib.hid (hs.kept K0.out)
  have HIX := Lib.hid (index_mk 152 #[.pointer (some ⟨w.heap.size, 0, none⟩)] (fun m => decide (m.own = o)) e152 A n c l W0 HS.out (pred152 o w.heap.size W0 (R0.out 0 _ rfl).1))
  have hnc := hs.2.1
  have hcm := hs.2.2.1
  clear hW0 hs
  go_enter Tryz.func80, Tryz.ntmps80
  go_upto_region 1 with (fail)
  rw [← HW.out]
  go_wp2_with fail
  refine HIX.out.mono ?_
  rintro e w1 ⟨rfl, hk1⟩
  have K1 := Lib.hid (K0.out.trans hk1)
  have r1 := R1.out.kept hk1
  have HR1 := Lib.hid r1
  have HS1 := Lib.hid (HS.out.kept hk1)
  clear hk1 r1
  by_cases ha : l.any (fun m => decide (m.own = o)) = true
  · obtain ⟨k, x, hx, hpx, hbef⟩ : ∃ k x, l[k]? = some x ∧ decide (x.own = o) = true ∧ ∀ (j : Nat) (y : Mk), j < k → l[j]? = some y → decide (y.own = o) = false := by
      obtain ⟨x, hx, hp⟩ := List.any_eq_true.1 ha
      have hlt : l.findIdx (fun m => decide (m.own = o)) < l.length := List.findIdx_lt_length_of_exists ⟨x, hx, hp⟩
      refine ⟨l.findIdx (fun m => decide (m.own = o)), _, List.getElem?_eq_getElem hlt, List.findIdx_getElem (w := hlt), fun j y hj hy => ?_⟩
      have := List.not_of_lt_findIdx hj
      obtain ⟨h1, h2⟩ := List.getElem?_eq_some_iff.1 hy
      rw [← h2]
      simpa using this
    have hid : idxP (fun m => decide (m.own = o)) l = (k : Int) := idxP_at hx hpx hbef
    have hmo : moAt l o = some x := find_snoc hx hpx hbef
    have HMO := Lib.hid hmo
    have hkn : k < n := by rw [← HS1.out.1]; exact (List.getElem?_eq_some_iff.1 hx).1
    obtain ⟨b, off, hA, ht⟩ := HS1.out.2.2.2.2 (by omega)
    subst hA
    have c0 := ht k x hx 0 _ rfl
    have c1 := ht k x hx 1 _ rfl
    have c2 := ht k x hx 2 _ rfl
    have c3 := ht k x hx 3 _ rfl
    have c4 := ht k x hx 4 _ rfl
    have c5 := ht k x hx 5 _ rfl
    have c6 := ht k x hx 6 _ rfl
    have c7 := ht k x hx 7 _ rfl
    have c8 := ht k x hx 8 _ rfl
    simp only [Nat.add_zero] at c0
    have lc := cell_lt c0
    rw [hid]
    clear ha hx hpx hbef ht hid hmo
    have hi0 : (0 : Int) ≤ (k : Int) := by omega
    have hi1 : (k : Int) < (n : Int) := by omega
    have HS9 : RowKit.Hid (RowC (set9 w1 (w.heap.size + 1) x) (w.heap.size + 1) (mkC x) ∧ Kept w (set9 w1 (w.heap.size + 1) x)) := Lib.hid (set9_ok HR1.out K1.out (by omega))
    have z0 := (HR1.out 0 _ rfl).1
    have f0 := (HR1.out 0 _ rfl).2
    have z1 := (HR1.out 1 _ rfl).1
    have f1 := (HR1.out 1 _ rfl).2
    have z2 := (HR1.out 2 _ rfl).1
    have f2 := (HR1.out 2 _ rfl).2
    have z3 := (HR1.out 3 _ rfl).1
    have f3 := (HR1.out 3 _ rfl).2
    have z4 := (HR1.out 4 _ rfl).1
    have f4 := (HR1.out 4 _ rfl).2
    have z5 := (HR1.out 5 _ rfl).1
    have f5 := (HR1.out 5 _ rfl).2
    have z6 := (HR1.out 6 _ rfl).1
    have f6 := (HR1.out 6 _ rfl).2
    have z7 := (HR1.out 7 _ rfl).1
    have f7 := (HR1.out 7 _ rfl).2
    have z8 := (HR1.out 8 _ rfl).1
    have f8 := (HR1.out 8 _ rfl).2
    have lz := cell_lt z0
    go_wp2_with fail
    obtain ⟨hs9, hk9⟩ := HS9.out
    unfold set9 at hs9 hk9
    have e0 := (hs9 0 _ rfl).1
    have e1 := (hs9 1 _ rfl).1
    have e2 := (hs9 2 _ rfl).1
    have e3 := (hs9 3 _ rfl).1
    have e4 := (hs9 4 _ rfl).1
    have e5 := (hs9 5 _ rfl).1
    have e6 := (hs9 6 _ rfl).1
    have e7 := (hs9 7 _ rfl).1
    have e8 := (hs9 8 _ rfl).1
    refine bodyPost_ret (v := .tuple #[.agg #[.int .i64 x.own, .int .i64 x.frm, .int .i64 x.unt, .int .u8 x.sg.s0, .int .u8 x.sg.s1, .int .u8 x.sg.s2, .int .u8 x.sg.s3, .int .u8 x.sg.s4, .int .u8 x.sg.s5], .bool true]) (by simp [results, Tryz.results80, go_sem, e0, e1, e2, e3, e4, e5, e6, e7, e8]) rfl ⟨?_, hk9⟩
    unfold moAt at *; rw [show l.find? (fun m => decide (m.own = o)) = some x from HMO.out]; rfl
  · have hid : idxP (fun m => decide (m.own = o)) l = -1 := by unfold idxP; rw [if_neg ha]
    have HMO : RowKit.Hid (moAt l o = none) := Lib.hid (List.find?_eq_none.2 (fun x hx hp => ha (List.any_eq_true.2 ⟨x, hx, hp⟩)))
    rw [hid]
    clear ha hid
    have HS9 : RowKit.Hid (RowC (set9 w1 (w.heap.size + 1) mk0) (w.heap.size + 1) (mkC mk0) ∧ Kept w (set9 w1 (w.heap.size + 1) mk0)) := Lib.hid (set9_ok HR1.out K1.out (by omega))
    have z0 := (HR1.out 0 _ rfl).1
    have f0 := (HR1.out 0 _ rfl).2
    have z1 := (HR1.out 1 _ rfl).1
    have f1 := (HR1.out 1 _ rfl).2
    have z2 := (HR1.out 2 _ rfl).1
    have f2 := (HR1.out 2 _ rfl).2
    have z3 := (HR1.out 3 _ rfl).1
    have f3 := (HR1.out 3 _ rfl).2
    have z4 := (HR1.out 4 _ rfl).1
    have f4 := (HR1.out 4 _ rfl).2
    have z5 := (HR1.out 5 _ rfl).1
    have f5 := (HR1.out 5 _ rfl).2
    have z6 := (HR1.out 6 _ rfl).1
    have f6 := (HR1.out 6 _ rfl).2
    have z7 := (HR1.out 7 _ rfl).1
    have f7 := (HR1.out 7 _ rfl).2
    have z8 := (HR1.out 8 _ rfl).1
    have f8 := (HR1.out 8 _ rfl).2
    have lz := cell_lt z0
    go_wp2_with fail
    obtain ⟨hs9, hk9⟩ := HS9.out
    unfold set9 mk0 at hs9 hk9
    have e0 := (hs9 0 _ rfl).1
    have e1 := (hs9 1 _ rfl).1
    have e2 := (hs9 2 _ rfl).1
    have e3 := (hs9 3 _ rfl).1
    have e4 := (hs9 4 _ rfl).1
    have e5 := (hs9 5 _ rfl).1
    have e6 := (hs9 6 _ rfl).1
    have e7 := (hs9 7 _ rfl).1
    have e8 := (hs9 8 _ rfl).1
    refine bodyPost_ret (v := .tuple #[.agg #[.int .i64 0, .int .i64 0, .int .i64 0, .int .u8 0, .int .u8 0, .int .u8 0, .int .u8 0, .int .u8 0, .int .u8 0], .bool false]) (by simp [results, Tryz.results80, go_sem, e0, e1, e2, e3, e4, e5, e6, e7, e8]) rfl ⟨?_, hk9⟩
    unfold moAt at *; rw [show l.find? (fun m => decide (m.own = o)) = none from HMO.out]; rfl
theorem mo_rf {ms : List Mk} (h : clashB ms = false) (day : Int) {o : Int} (h1 : 1 ≤ o) (h2 : o ≤ 40) : moAt (rfL ms day 40) o = mkAt ms day o := by
  have hmem : ∀ {m : Mk}, m ∈ rfL ms day 40 → m ∈ frcL ms day := fun {m} hm => by
    unfold rfL at hm
    rw [List.mem_filterMap] at hm
    obtain ⟨i, _, hi⟩ := hm
    exact ((mkAt_iff h).1 hi).1
  cases e : mkAt ms day o with
  | none =>
    refine List.find?_eq_none.2 fun m hm hp => ?_
    have := (mkAt_iff h).2 ⟨hmem hm, of_decide_eq_true hp⟩
    rw [e] at this
    cases this
  | some x =>
    obtain ⟨h3, h4⟩ := (mkAt_iff h).1 e
    have hx : x ∈ rfL ms day 40 := by
      unfold rfL
      rw [List.mem_filterMap]
      exact ⟨(o - 1).toNat, List.mem_range.2 (by omega), by rw [show (((o - 1).toNat : Nat) : Int) + 1 = o by omega]; exact e⟩
    cases e2 : moAt (rfL ms day 40) o with
    | none =>
      have := List.find?_eq_none.1 e2 x hx
      simp [h4] at this
    | some y =>
      have h5 : y.own = o := by have := List.find?_some (p := fun m : Mk => decide (m.own = o)) e2; simpa using this
      have h6 := hmem (List.mem_of_find?_eq_some e2)
      rw [pw_uniq (frc_ne h day) h6 h3 (by omega)]
def moE (ms : List Mk) (fs : List Fd) (day o : Int) : Int := fstE [smE ms fs, errB (inB day 0 100000), errB (inB o 1 40)]
def moV (ms : List Mk) (fs : List Fd) (day o : Int) : Mk × Int := if moE ms fs day o ≠ 0 then (mk0, moE ms fs day o) else match mkAt ms day o with | some m => (m, 0) | none => (mk0, 5)
def MoP (w : World) (ms : List Mk) (fs : List Fd) (day o : Int) (e : Ending) (w' : World) : Prop :=
  e = .returned (.tuple #[.agg (mkC (moV ms fs day o).1).toArray, .int .i64 (moV ms fs day o).2]) ∧ Kept w w'
theorem moE_st (ms : List Mk) (fs : List Fd) (day o : Int) : stE ms fs day [o] = moE ms fs day o := by
  unfold stE moE
  rw [show ([o].all fun o => inB o 1 40) = inB o 1 40 by simp]
theorem fstE_threeX {a b c : Int} (h : fstE [a, b, c] = 0) : a = 0 ∧ b = 0 ∧ c = 0 := by
  unfold fstE at h
  by_cases ha : a = 0
  · rw [if_pos ha] at h
    obtain ⟨h1, h2⟩ := fstE_two h
    exact ⟨ha, h1, h2⟩
  · rw [if_neg ha] at h; exact absurd h ha
theorem errB_0 {b : Bool} (h : errB b = 0) : b = true := by
  cases b
  · exact absurd h (by decide)
  · rfl
set_option maxRecDepth 100000 in
set_option maxHeartbeats 3200000 in
theorem rmarkOf_any (A B : Option Addr) (n c m d : Nat) (ms : List Mk) (fs : List Fd) (day o : Int) (w : World) (hs : SmA w A n c ms B m d fs) :
    Calls Tryz.prog 23 #[.agg #[.slice A n c, .slice B m d], .int .i64 day, .int .i64 o] w (MoP w ms fs day o) := by
  obtain ⟨W0, hW0⟩ : ∃ W0, W0 = (w.alloc (.cells #[.slice A n c, .slice B m d] 25)).alloc (.cells #[.int .i64 0, .int .i64 0, .int .i64 0, .int .u8 0, .int .u8 0, .int .u8 0, .int .u8 0, .int .u8 0, .int .u8 0] 32) := ⟨_, rfl⟩
  have K0 : RowKit.Hid (Kept w W0) := Lib.hid (by rw [hW0]; exact ((Kept.refl _).alloc _).alloc _)
  have R0 : RowKit.Hid (RowC W0 w.heap.size [.slice A n c, .slice B m d]) := Lib.hid (by rw [hW0]; exact (RowC.new w [.slice A n c, .slice B m d] 25).kept ((Kept.refl _).alloc _))
  have R1 : RowKit.Hid (RowC W0 (w.heap.size + 1) zero9) := Lib.hid (by rw [hW0]; have h := RowC.new (w.alloc (.cells #[.slice A n c, .slice B m d] 25)) zero9 32; rwa [World.size_alloc] at h)
  have HW := Lib.hid hW0
  have HS := Lib.hid (hs.kept K0.out)
  have a0 := (R0.out 0 _ rfl).1
  have a1 := (R0.out 1 _ rfl).1
  have la := cell_lt a0
  obtain ⟨E, hE⟩ : ∃ E, stE ms fs day [o] = E := ⟨_, rfl⟩
  have HE : RowKit.Hid (moE ms fs day o = E) := Lib.hid (by rw [← moE_st, hE])
  obtain ⟨Wb, hWb⟩ : ∃ Wb, Wb = W0.alloc (.cells #[.int .i64 o] 3) := ⟨_, rfl⟩
  have kb : Kept W0 Wb := by rw [hWb]; exact (Kept.refl _).alloc _
  have hib : IntA Wb (some ⟨W0.heap.size, 0, none⟩) 1 1 [o] := ia_row (l := [o]) (by rw [hWb]; exact RowC.new W0 [.int .i64 o] 3) rfl (by omega)
  have HST := Lib.hid (rstart_any A B _ n c m d 1 1 ms fs day [o] Wb (HS.out.kept kb) hib (by omega))
  rw [hE] at HST
  have HWB := Lib.hid hWb
  have KB := Lib.hid kb
  clear hW0 hs hE hWb kb hib
  go_enter Tryz.func23, Tryz.ntmps23
  go_upto_region 1 with (fail)
  rw [← HW.out]
  go_wp2_with fail
  rw [← HWB.out]
  refine HST.out.mono ?_
  rintro e w1 ⟨rfl, hk1⟩
  have K1 := Lib.hid (KB.out.trans hk1)
  have r1 := R1.out.kept K1.out
  have HR1 := Lib.hid r1
  have R01 := Lib.hid (R0.out.kept K1.out)
  clear hk1 a0 a1 la r1
  by_cases h0 : E = 0
  rotate_left
  · have h1 : (E == 0) = false := by simpa using h0
    have H0 := Lib.hid h0
    clear h0
    have HS9 : RowKit.Hid (RowC (set9 w1 (w.heap.size + 1) mk0) (w.heap.size + 1) (mkC mk0) ∧ Kept w (set9 w1 (w.heap.size + 1) mk0)) := Lib.hid (set9_ok HR1.out (K0.out.trans K1.out) (by omega))
    have z0 := (HR1.out 0 _ rfl).1
    have f0 := (HR1.out 0 _ rfl).2
    have z1 := (HR1.out 1 _ rfl).1
    have f1 := (HR1.out 1 _ rfl).2
    have z2 := (HR1.out 2 _ rfl).1
    have f2 := (HR1.out 2 _ rfl).2
    have z3 := (HR1.out 3 _ rfl).1
    have f3 := (HR1.out 3 _ rfl).2
    have z4 := (HR1.out 4 _ rfl).1
    have f4 := (HR1.out 4 _ rfl).2
    have z5 := (HR1.out 5 _ rfl).1
    have f5 := (HR1.out 5 _ rfl).2
    have z6 := (HR1.out 6 _ rfl).1
    have f6 := (HR1.out 6 _ rfl).2
    have z7 := (HR1.out 7 _ rfl).1
    have f7 := (HR1.out 7 _ rfl).2
    have z8 := (HR1.out 8 _ rfl).1
    have f8 := (HR1.out 8 _ rfl).2
    have lz := cell_lt z0
    go_wp2_with fail
    obtain ⟨hs9, hk9⟩ := HS9.out
    unfold set9 mk0 at hs9 hk9
    have e0 := (hs9 0 _ rfl).1
    have e1 := (hs9 1 _ rfl).1
    have e2 := (hs9 2 _ rfl).1
    have e3 := (hs9 3 _ rfl).1
    have e4 := (hs9 4 _ rfl).1
    have e5 := (hs9 5 _ rfl).1
    have e6 := (hs9 6 _ rfl).1
    have e7 := (hs9 7 _ rfl).1
    have e8 := (hs9 8 _ rfl).1
    refine bodyPost_ret (v := .tuple #[.agg #[.int .i64 0, .int .i64 0, .int .i64 0, .int .u8 0, .int .u8 0, .int .u8 0, .int .u8 0, .int .u8 0, .int .u8 0], .int .i64 E]) (by simp [results, Tryz.results23, go_sem, e0, e1, e2, e3, e4, e5, e6, e7, e8]) rfl ⟨?_, hk9⟩
    unfold moV; rw [HE.out, if_pos H0.out]; rfl
  subst h0
  have HM := Lib.hid (rmark_any A B n c m d ms fs day o w1 (HS.out.kept K1.out))
  have HV : RowKit.Hid (moV ms fs day o = match mkAt ms day o with | some m => (m, 0) | none => (mk0, 5)) := Lib.hid (by unfold moV; rw [if_neg (by rw [HE.out]; simp)])
  have a0 := (R01.out 0 _ rfl).1
  have a1 := (R01.out 1 _ rfl).1
  have la := cell_lt a0
  go_wp2_with fail
  refine HM.out.mono ?_
  rintro e w2 ⟨he, hk2⟩
  have K2 := Lib.hid (K1.out.trans hk2)
  have HR2 := Lib.hid (HR1.out.kept hk2)
  clear hk2 a0 a1 la
  obtain ⟨mo, hmk⟩ : ∃ mo, mkAt ms day o = mo := ⟨_, rfl⟩
  have he' := he
  clear he
  rw [hmk] at he' HV
  clear hmk
  cases mo with
  | none =>
    obtain rfl : e = .returned (.tuple #[.agg #[.int .i64 0, .int .i64 0, .int .i64 0, .int .u8 0, .int .u8 0, .int .u8 0, .int .u8 0, .int .u8 0, .int .u8 0], .bool false]) := he'
    go_upto_region 5 with (fail)
    obtain ⟨Wa, hWa⟩ : ∃ Wa, Wa = w2.alloc (.cells #[.int .i64 0, .int .i64 0, .int .i64 0, .int .u8 0, .int .u8 0, .int .u8 0, .int .u8 0, .int .u8 0, .int .u8 0] 32) := ⟨_, rfl⟩
    have ka : Kept w2 Wa := by rw [hWa]; exact (Kept.refl _).alloc _
    rw [← hWa]
    have HZ9 := Lib.hid (HR2.out.kept ka)
    have HKZ := Lib.hid ((K0.out.trans K2.out).trans ka)
    clear hWa ka
    have HS9 : RowKit.Hid (RowC (set9 Wa (w.heap.size + 1) mk0) (w.heap.size + 1) (mkC mk0) ∧ Kept w (set9 Wa (w.heap.size + 1) mk0)) := Lib.hid (set9_ok HZ9.out HKZ.out (by omega))
    have z0 := (HZ9.out 0 _ rfl).1
    have f0 := (HZ9.out 0 _ rfl).2
    have z1 := (HZ9.out 1 _ rfl).1
    have f1 := (HZ9.out 1 _ rfl).2
    have z2 := (HZ9.out 2 _ rfl).1
    have f2 := (HZ9.out 2 _ rfl).2
    have z3 := (HZ9.out 3 _ rfl).1
    have f3 := (HZ9.out 3 _ rfl).2
    have z4 := (HZ9.out 4 _ rfl).1
    have f4 := (HZ9.out 4 _ rfl).2
    have z5 := (HZ9.out 5 _ rfl).1
    have f5 := (HZ9.out 5 _ rfl).2
    have z6 := (HZ9.out 6 _ rfl).1
    have f6 := (HZ9.out 6 _ rfl).2
    have z7 := (HZ9.out 7 _ rfl).1
    have f7 := (HZ9.out 7 _ rfl).2
    have z8 := (HZ9.out 8 _ rfl).1
    have f8 := (HZ9.out 8 _ rfl).2
    have lz := cell_lt z0
    go_wp2_with fail
    obtain ⟨hs9, hk9⟩ := HS9.out
    unfold set9 mk0 at hs9 hk9
    have e0 := (hs9 0 _ rfl).1
    have e1 := (hs9 1 _ rfl).1
    have e2 := (hs9 2 _ rfl).1
    have e3 := (hs9 3 _ rfl).1
    have e4 := (hs9 4 _ rfl).1
    have e5 := (hs9 5 _ rfl).1
    have e6 := (hs9 6 _ rfl).1
    have e7 := (hs9 7 _ rfl).1
    have e8 := (hs9 8 _ rfl).1
    refine bodyPost_ret (v := .tuple #[.agg #[.int .i64 0, .int .i64 0, .int .i64 0, .int .u8 0, .int .u8 0, .int .u8 0, .int .u8 0, .int .u8 0, .int .u8 0], .int .i64 5]) (by simp [results, Tryz.results23, go_sem, e0, e1, e2, e3, e4, e5, e6, e7, e8]) rfl ⟨?_, hk9⟩
    rw [HV.out]; rfl
  | some x =>
    obtain rfl : e = .returned (.tuple #[.agg #[.int .i64 x.own, .int .i64 x.frm, .int .i64 x.unt, .int .u8 x.sg.s0, .int .u8 x.sg.s1, .int .u8 x.sg.s2, .int .u8 x.sg.s3, .int .u8 x.sg.s4, .int .u8 x.sg.s5], .bool true]) := he'
    have lw : w.heap.size + 1 < w2.heap.size := cell_lt (HR2.out 0 _ rfl).1
    go_upto_region 5 with (fail)
    obtain ⟨Wa, hWa⟩ : ∃ Wa, Wa = w2.alloc (.cells #[.int .i64 x.own, .int .i64 x.frm, .int .i64 x.unt, .int .u8 x.sg.s0, .int .u8 x.sg.s1, .int .u8 x.sg.s2, .int .u8 x.sg.s3, .int .u8 x.sg.s4, .int .u8 x.sg.s5] 32) := ⟨_, rfl⟩
    have ka : Kept w2 Wa := by rw [hWa]; exact (Kept.refl _).alloc _
    have ra : RowC Wa w2.heap.size (mkC x) := by rw [hWa]; exact RowC.new w2 (mkC x) 32
    rw [← hWa]
    have HZ9 := Lib.hid (HR2.out.kept ka)
    have HKZ := Lib.hid ((K0.out.trans K2.out).trans ka)
    have HRA := Lib.hid ra
    clear hWa ka ra
    have x0 := (HRA.out 0 _ rfl).1
    have x1 := (HRA.out 1 _ rfl).1
    have x2 := (HRA.out 2 _ rfl).1
    have x3 := (HRA.out 3 _ rfl).1
    have x4 := (HRA.out 4 _ rfl).1
    have x5 := (HRA.out 5 _ rfl).1
    have x6 := (HRA.out 6 _ rfl).1
    have x7 := (HRA.out 7 _ rfl).1
    have x8 := (HRA.out 8 _ rfl).1
    have lx := cell_lt x0
    have HS9 : RowKit.Hid (RowC (set9 Wa (w.heap.size + 1) x) (w.heap.size + 1) (mkC x) ∧ Kept w (set9 Wa (w.heap.size + 1) x)) := Lib.hid (set9_ok HZ9.out HKZ.out (by omega))
    have z0 := (HZ9.out 0 _ rfl).1
    have f0 := (HZ9.out 0 _ rfl).2
    have z1 := (HZ9.out 1 _ rfl).1
    have f1 := (HZ9.out 1 _ rfl).2
    have z2 := (HZ9.out 2 _ rfl).1
    have f2 := (HZ9.out 2 _ rfl).2
    have z3 := (HZ9.out 3 _ rfl).1
    have f3 := (HZ9.out 3 _ rfl).2
    have z4 := (HZ9.out 4 _ rfl).1
    have f4 := (HZ9.out 4 _ rfl).2
    have z5 := (HZ9.out 5 _ rfl).1
    have f5 := (HZ9.out 5 _ rfl).2
    have z6 := (HZ9.out 6 _ rfl).1
    have f6 := (HZ9.out 6 _ rfl).2
    have z7 := (HZ9.out 7 _ rfl).1
    have f7 := (HZ9.out 7 _ rfl).2
    have z8 := (HZ9.out 8 _ rfl).1
    have f8 := (HZ9.out 8 _ rfl).2
    have lz := cell_lt z0
    go_wp2_with fail
    obtain ⟨hs9, hk9⟩ := HS9.out
    unfold set9 at hs9 hk9
    have e0 := (hs9 0 _ rfl).1
    have e1 := (hs9 1 _ rfl).1
    have e2 := (hs9 2 _ rfl).1
    have e3 := (hs9 3 _ rfl).1
    have e4 := (hs9 4 _ rfl).1
    have e5 := (hs9 5 _ rfl).1
    have e6 := (hs9 6 _ rfl).1
    have e7 := (hs9 7 _ rfl).1
    have e8 := (hs9 8 _ rfl).1
    refine bodyPost_ret (v := .tuple #[.agg #[.int .i64 x.own, .int .i64 x.frm, .int .i64 x.unt, .int .u8 x.sg.s0, .int .u8 x.sg.s1, .int .u8 x.sg.s2, .int .u8 x.sg.s3, .int .u8 x.sg.s4, .int .u8 x.sg.s5], .int .i64 0]) (by simp [results, Tryz.results23, go_sem, e0, e1, e2, e3, e4, e5, e6, e7, e8]) rfl ⟨?_, hk9⟩
    rw [HV.out]; rfl
end Go.Proofs.YtologmoanaccpaaGreatDoor

namespace Go.Proofs.YtologmoanaccpaaGreatDoor
set_option linter.all false
open Go.RowKit Go.Shelf

set_option maxRecDepth 100000 in
set_option maxHeartbeats 3200000 in
theorem markOfX_any (A B : Option Addr) (n c m d : Nat) (ms : List Mk) (fs : List Fd) (day o : Int) (w : World) (hs : SmA w A n c ms B m d fs) :
    Calls Tryz.prog 22 #[.agg #[.slice A n c, .slice B m d], .int .i64 day, .int .i64 o] w (MoP w ms fs day o) := by
  obtain ⟨W0, hW0⟩ : ∃ W0, W0 = (w.alloc (.cells #[.slice A n c, .slice B m d] 25)).alloc (.cells #[.int .i64 0, .int .i64 0, .int .i64 0, .int .u8 0, .int .u8 0, .int .u8 0, .int .u8 0, .int .u8 0, .int .u8 0] 32) := ⟨_, rfl⟩
  have K0 : RowKit.Hid (Kept w W0) := Lib.hid (by rw [hW0]; exact ((Kept.refl _).alloc _).alloc _)
  have R0 : RowKit.Hid (RowC W0 w.heap.size [.slice A n c, .slice B m d]) := Lib.hid (by rw [hW0]; exact (RowC.new w [.slice A n c, .slice B m d] 25).kept ((Kept.refl _).alloc _))
  have RZ : RowKit.Hid (RowC W0 (w.heap.size + 1) zero9) := Lib.hid (by rw [hW0]; have h := RowC.new (w.alloc (.cells #[.slice A n c, .slice B m d] 25)) zero9 32; rwa [World.size_alloc] at h)
  have HW := Lib.hid hW0
  have HS := Lib.hid (hs.kept K0.out)
  obtain ⟨E1, hE1⟩ : ∃ E, smE ms fs = E := ⟨_, rfl⟩
  obtain ⟨b2, hb2⟩ : ∃ b, inB day 0 100000 = b := ⟨_, rfl⟩
  obtain ⟨v2, hv2⟩ : ∃ v, errB b2 = v := ⟨_, rfl⟩
  obtain ⟨b3, hb3⟩ : ∃ b, inB o 1 40 = b := ⟨_, rfl⟩
  obtain ⟨v3, hv3⟩ : ∃ v, errB b3 = v := ⟨_, rfl⟩
  obtain ⟨E, hE⟩ : ∃ E, fstE [E1, v2, v3] = E := ⟨_, rfl⟩
  have HE : RowKit.Hid (moE ms fs day o = E) := Lib.hid (by unfold moE; rw [hE1, hb2, hv2, hb3, hv3, hE])
  have H25 : RowKit.Hid (∀ W, Kept W0 W → Calls Tryz.prog 25 #[.agg #[.slice A n c, .slice B m d]] W fun e w' => e = .returned (.int .i64 E1) ∧ Kept W w') := Lib.hid (fun W hW => by rw [← hE1]; exact checkSmits_any A B n c m d ms fs W (HS.out.kept hW))
  have H75 : RowKit.Hid (∀ W, Calls Tryz.prog 75 #[.int .i64 day] W fun e w' => e = .returned (.bool b2) ∧ W = w') := Lib.hid (fun W => by rw [← hb2]; exact isDay_any _ W)
  have H79 : RowKit.Hid (∀ W, Calls Tryz.prog 79 #[.int .i64 o] W fun e w' => e = .returned (.bool b3) ∧ W = w') := Lib.hid (fun W => by rw [← hb3]; exact isOwner_any _ W)
  have HV2 : RowKit.Hid (∀ W, Calls Tryz.prog 74 #[.bool b2] W fun e w' => e = .returned (.int .i64 v2) ∧ W = w') := Lib.hid (fun W => by rw [← hv2]; exact valid_any b2 W)
  have HV3 : RowKit.Hid (∀ W, Calls Tryz.prog 74 #[.bool b3] W fun e w' => e = .returned (.int .i64 v3) ∧ W = w') := Lib.hid (fun W => by rw [← hv3]; exact valid_any b3 W)
  have H73 : RowKit.Hid (∀ W g, RowC W g [.int .i64 E1, .int .i64 v2, .int .i64 v3] → Calls Tryz.prog 73 #[.slice (some ⟨g, 0, none⟩) 3 3] W fun e w' => e = .returned (.int .i64 E) ∧ W = w') := Lib.hid (fun W g hr => by
    rw [← hE]
    exact firstError_any g 0 3 3 [E1, v2, v3] rfl (by omega) W (intsR hr))
  have a0 := (R0.out 0 _ rfl).1
  have a1 := (R0.out 1 _ rfl).1
  have la := cell_lt a0
  clear hW0 hs hE1 hb2 hv2 hb3 hv3 hE
  go_enter Tryz.func22, Tryz.ntmps22
  go_upto_region 1 with (fail)
  rw [← HW.out]
  go_wp2_with fail
  refine (H25.out _ (Kept.refl _)).mono ?_
  rintro e w1 ⟨rfl, hk1⟩
  have K1 := Lib.hid hk1
  have R1 := Lib.hid (R0.out.kept hk1)
  clear hk1 a0 a1 la
  go_wp2_with fail
  refine (H75.out _).mono ?_
  rintro e w2 ⟨rfl, rfl⟩
  go_wp2_with fail
  refine (HV2.out _).mono ?_
  rintro e w2 ⟨rfl, rfl⟩
  go_wp2_with fail
  refine (H79.out _).mono ?_
  rintro e w2 ⟨rfl, rfl⟩
  go_wp2_with fail
  refine (HV3.out _).mono ?_
  rintro e w2 ⟨rfl, rfl⟩
  go_wp2_with fail
  refine (H73.out _ _ (RowC.new _ _ _)).mono ?_
  rintro e w3 ⟨rfl, rfl⟩
  obtain ⟨w3, hw3⟩ : ∃ w3, w3 = w1.alloc (.cells #[.int .i64 E1, .int .i64 v2, .int .i64 v3] 27) := ⟨_, rfl⟩
  have K3 := Lib.hid (show Kept W0 w3 by rw [hw3]; exact K1.out.alloc _)
  have R3 := Lib.hid (R0.out.kept K3.out)
  have RZ3 := Lib.hid (RZ.out.kept K3.out)
  rw [← hw3]
  have HW3 := Lib.hid hw3
  clear hw3
  by_cases h0 : E = 0
  rotate_left
  · have h1 : (E == 0) = false := by simpa using h0
    have H0 := Lib.hid h0
    clear h0
    have HS9 : RowKit.Hid (RowC (set9 w3 (w.heap.size + 1) mk0) (w.heap.size + 1) (mkC mk0) ∧ Kept w (set9 w3 (w.heap.size + 1) mk0)) := Lib.hid (set9_ok RZ3.out (K0.out.trans K3.out) (by omega))
    have z0 := (RZ3.out 0 _ rfl).1
    have f0 := (RZ3.out 0 _ rfl).2
    have z1 := (RZ3.out 1 _ rfl).1
    have f1 := (RZ3.out 1 _ rfl).2
    have z2 := (RZ3.out 2 _ rfl).1
    have f2 := (RZ3.out 2 _ rfl).2
    have z3 := (RZ3.out 3 _ rfl).1
    have f3 := (RZ3.out 3 _ rfl).2
    have z4 := (RZ3.out 4 _ rfl).1
    have f4 := (RZ3.out 4 _ rfl).2
    have z5 := (RZ3.out 5 _ rfl).1
    have f5 := (RZ3.out 5 _ rfl).2
    have z6 := (RZ3.out 6 _ rfl).1
    have f6 := (RZ3.out 6 _ rfl).2
    have z7 := (RZ3.out 7 _ rfl).1
    have f7 := (RZ3.out 7 _ rfl).2
    have z8 := (RZ3.out 8 _ rfl).1
    have f8 := (RZ3.out 8 _ rfl).2
    have lz := cell_lt z0
    go_wp2_with fail
    obtain ⟨hs9, hk9⟩ := HS9.out
    unfold set9 mk0 at hs9 hk9
    have e0 := (hs9 0 _ rfl).1
    have e1 := (hs9 1 _ rfl).1
    have e2 := (hs9 2 _ rfl).1
    have e3 := (hs9 3 _ rfl).1
    have e4 := (hs9 4 _ rfl).1
    have e5 := (hs9 5 _ rfl).1
    have e6 := (hs9 6 _ rfl).1
    have e7 := (hs9 7 _ rfl).1
    have e8 := (hs9 8 _ rfl).1
    refine bodyPost_ret (v := .tuple #[.agg #[.int .i64 0, .int .i64 0, .int .i64 0, .int .u8 0, .int .u8 0, .int .u8 0, .int .u8 0, .int .u8 0, .int .u8 0], .int .i64 E]) (by simp [results, Tryz.results22, go_sem, e0, e1, e2, e3, e4, e5, e6, e7, e8]) rfl ⟨?_, hk9⟩
    unfold moV; rw [HE.out, if_pos H0.out]; rfl
  subst h0
  obtain ⟨e1, e2, e3⟩ := fstE_three HE.out
  obtain ⟨hm1, hm2, hmv, hfv, _, hcl⟩ := sm_ok e1
  have hob := inB_iff.1 (errB_0 e3)
  have HMO : RowKit.Hid (∀ l : List Mk, l.Perm (frcL ms day) → l.Pairwise (fun a b => a.own ≤ b.own) → moAt l o = mkAt ms day o) := Lib.hid (fun l h1 h2 => by rw [rf_eq hcl hmv h1 h2, mo_rf hcl day hob.1 hob.2])
  have hn100 : n ≤ 1000 := by rw [← HS.out.1.1]; omega
  have HIF := Lib.hid (inForce_any A B n c m d ms fs day w3 (HS.out.kept K3.out) hn100 hmv)
  have HV : RowKit.Hid (moV ms fs day o = match mkAt ms day o with | some m => (m, 0) | none => (mk0, 5)) := Lib.hid (by unfold moV; rw [if_neg (by rw [HE.out]; simp)]; first | done | rfl)
  have a0 := (R3.out 0 _ rfl).1
  have a1 := (R3.out 1 _ rfl).1
  have la := cell_lt a0
  clear e1 e2 e3 hm1 hm2 hmv hfv hcl hob
  go_wp2_with fail
  refine HIF.out.mono ?_
  rintro e w4 ⟨A5, c5, l5, rfl, p1, p2, sl5, fr5, hk4⟩
  have HL := Lib.hid (HMO.out l5 p1 p2)
  have HMA := Lib.hid (markOf_any A5 l5.length c5 l5 o w4 sl5)
  have K4 := Lib.hid (K3.out.trans hk4)
  clear p1 p2 sl5 fr5 hk4 a0 a1 la
  go_wp2_with fail
  refine HMA.out.mono ?_
  rintro e w5 ⟨he, hk5⟩
  have K5 := Lib.hid (K4.out.trans hk5)
  have HR2 := Lib.hid (RZ.out.kept K5.out)
  clear hk5
  rw [HL.out] at he
  obtain ⟨mo, hmk⟩ : ∃ mo, mkAt ms day o = mo := ⟨_, rfl⟩
  have he' := he
  clear he
  rw [hmk] at he' HV
  clear hmk HL HMA
  cases mo with
  | none =>
    obtain rfl : e = .returned (.tuple #[.agg #[.int .i64 0, .int .i64 0, .int .i64 0, .int .u8 0, .int .u8 0, .int .u8 0, .int .u8 0, .int .u8 0, .int .u8 0], .bool false]) := he'
    go_upto_region 5 with (fail)
    obtain ⟨Wa, hWa⟩ : ∃ Wa, Wa = w5.alloc (.cells #[.int .i64 0, .int .i64 0, .int .i64 0, .int .u8 0, .int .u8 0, .int .u8 0, .int .u8 0, .int .u8 0, .int .u8 0] 32) := ⟨_, rfl⟩
    have ka : Kept w5 Wa := by rw [hWa]; exact (Kept.refl _).alloc _
    rw [← hWa]
    have HZ9 := Lib.hid (HR2.out.kept ka)
    have HKZ := Lib.hid ((K0.out.trans K5.out).trans ka)
    clear hWa ka
    have HS9 : RowKit.Hid (RowC (set9 Wa (w.heap.size + 1) mk0) (w.heap.size + 1) (mkC mk0) ∧ Kept w (set9 Wa (w.heap.size + 1) mk0)) := Lib.hid (set9_ok HZ9.out HKZ.out (by omega))
    have z0 := (HZ9.out 0 _ rfl).1
    have f0 := (HZ9.out 0 _ rfl).2
    have z1 := (HZ9.out 1 _ rfl).1
    have f1 := (HZ9.out 1 _ rfl).2
    have z2 := (HZ9.out 2 _ rfl).1
    have f2 := (HZ9.out 2 _ rfl).2
    have z3 := (HZ9.out 3 _ rfl).1
    have f3 := (HZ9.out 3 _ rfl).2
    have z4 := (HZ9.out 4 _ rfl).1
    have f4 := (HZ9.out 4 _ rfl).2
    have z5 := (HZ9.out 5 _ rfl).1
    have f5 := (HZ9.out 5 _ rfl).2
    have z6 := (HZ9.out 6 _ rfl).1
    have f6 := (HZ9.out 6 _ rfl).2
    have z7 := (HZ9.out 7 _ rfl).1
    have f7 := (HZ9.out 7 _ rfl).2
    have z8 := (HZ9.out 8 _ rfl).1
    have f8 := (HZ9.out 8 _ rfl).2
    have lz := cell_lt z0
    go_wp2_with fail
    obtain ⟨hs9, hk9⟩ := HS9.out
    unfold set9 mk0 at hs9 hk9
    have e0 := (hs9 0 _ rfl).1
    have e1 := (hs9 1 _ rfl).1
    have e2 := (hs9 2 _ rfl).1
    have e3 := (hs9 3 _ rfl).1
    have e4 := (hs9 4 _ rfl).1
    have e5 := (hs9 5 _ rfl).1
    have e6 := (hs9 6 _ rfl).1
    have e7 := (hs9 7 _ rfl).1
    have e8 := (hs9 8 _ rfl).1
    refine bodyPost_ret (v := .tuple #[.agg #[.int .i64 0, .int .i64 0, .int .i64 0, .int .u8 0, .int .u8 0, .int .u8 0, .int .u8 0, .int .u8 0, .int .u8 0], .int .i64 5]) (by simp [results, Tryz.results22, go_sem, e0, e1, e2, e3, e4, e5, e6, e7, e8]) rfl ⟨?_, hk9⟩
    rw [HV.out]; rfl
  | some x =>
    obtain rfl : e = .returned (.tuple #[.agg #[.int .i64 x.own, .int .i64 x.frm, .int .i64 x.unt, .int .u8 x.sg.s0, .int .u8 x.sg.s1, .int .u8 x.sg.s2, .int .u8 x.sg.s3, .int .u8 x.sg.s4, .int .u8 x.sg.s5], .bool true]) := he'
    have lw : w.heap.size + 1 < w5.heap.size := cell_lt (HR2.out 0 _ rfl).1
    go_upto_region 5 with (fail)
    obtain ⟨Wa, hWa⟩ : ∃ Wa, Wa = w5.alloc (.cells #[.int .i64 x.own, .int .i64 x.frm, .int .i64 x.unt, .int .u8 x.sg.s0, .int .u8 x.sg.s1, .int .u8 x.sg.s2, .int .u8 x.sg.s3, .int .u8 x.sg.s4, .int .u8 x.sg.s5] 32) := ⟨_, rfl⟩
    have ka : Kept w5 Wa := by rw [hWa]; exact (Kept.refl _).alloc _
    have ra : RowC Wa w5.heap.size (mkC x) := by rw [hWa]; exact RowC.new w5 (mkC x) 32
    rw [← hWa]
    have HZ9 := Lib.hid (HR2.out.kept ka)
    have HKZ := Lib.hid ((K0.out.trans K5.out).trans ka)
    have HRA := Lib.hid ra
    clear hWa ka ra
    have x0 := (HRA.out 0 _ rfl).1
    have x1 := (HRA.out 1 _ rfl).1
    have x2 := (HRA.out 2 _ rfl).1
    have x3 := (HRA.out 3 _ rfl).1
    have x4 := (HRA.out 4 _ rfl).1
    have x5 := (HRA.out 5 _ rfl).1
    have x6 := (HRA.out 6 _ rfl).1
    have x7 := (HRA.out 7 _ rfl).1
    have x8 := (HRA.out 8 _ rfl).1
    have lx := cell_lt x0
    have HS9 : RowKit.Hid (RowC (set9 Wa (w.heap.size + 1) x) (w.heap.size + 1) (mkC x) ∧ Kept w (set9 Wa (w.heap.size + 1) x)) := Lib.hid (set9_ok HZ9.out HKZ.out (by omega))
    have z0 := (HZ9.out 0 _ rfl).1
    have f0 := (HZ9.out 0 _ rfl).2
    have z1 := (HZ9.out 1 _ rfl).1
    have f1 := (HZ9.out 1 _ rfl).2
    have z2 := (HZ9.out 2 _ rfl).1
    have f2 := (HZ9.out 2 _ rfl).2
    have z3 := (HZ9.out 3 _ rfl).1
    have f3 := (HZ9.out 3 _ rfl).2
    have z4 := (HZ9.out 4 _ rfl).1
    have f4 := (HZ9.out 4 _ rfl).2
    have z5 := (HZ9.out 5 _ rfl).1
    have f5 := (HZ9.out 5 _ rfl).2
    have z6 := (HZ9.out 6 _ rfl).1
    have f6 := (HZ9.out 6 _ rfl).2
    have z7 := (HZ9.out 7 _ rfl).1
    have f7 := (HZ9.out 7 _ rfl).2
    have z8 := (HZ9.out 8 _ rfl).1
    have f8 := (HZ9.out 8 _ rfl).2
    have lz := cell_lt z0
    go_wp2_with fail
    obtain ⟨hs9, hk9⟩ := HS9.out
    unfold set9 at hs9 hk9
    have e0 := (hs9 0 _ rfl).1
    have e1 := (hs9 1 _ rfl).1
    have e2 := (hs9 2 _ rfl).1
    have e3 := (hs9 3 _ rfl).1
    have e4 := (hs9 4 _ rfl).1
    have e5 := (hs9 5 _ rfl).1
    have e6 := (hs9 6 _ rfl).1
    have e7 := (hs9 7 _ rfl).1
    have e8 := (hs9 8 _ rfl).1
    refine bodyPost_ret (v := .tuple #[.agg #[.int .i64 x.own, .int .i64 x.frm, .int .i64 x.unt, .int .u8 x.sg.s0, .int .u8 x.sg.s1, .int .u8 x.sg.s2, .int .u8 x.sg.s3, .int .u8 x.sg.s4, .int .u8 x.sg.s5], .int .i64 0]) (by simp [results, Tryz.results22, go_sem, e0, e1, e2, e3, e4, e5, e6, e7, e8]) rfl ⟨?_, hk9⟩
    rw [HV.out]; rfl
end Go.Proofs.YtologmoanaccpaaGreatDoor
