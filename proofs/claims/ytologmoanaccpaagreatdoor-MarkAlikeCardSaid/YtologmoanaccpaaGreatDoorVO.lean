/-
  Alike of the reference 36
  Alike of the code 35
-/
import Derived.Test.YtologmoanaccpaaGreatDoorVL
import Derived.Test.YtologmoanaccpaaGreatDoorYG
namespace Go.Proofs.YtologmoanaccpaaGreatDoor
set_option linter.all false
open Go.RowKit Go.Shelf

def alE (ms : List Mk) (fs : List Fd) (day o1 o2 : Int) : Int := stE ms fs day [o1, o2]
def alV (ms : List Mk) (fs : List Fd) (day o1 o2 : Int) : Sg × Bool × Int := if alE ms fs day o1 o2 ≠ 0 then (sgz, false, alE ms fs day o1 o2) else match mkAt ms day o1, mkAt ms day o2 with
  | some x, some y => (if cmB fs x.sg y.sg 6 = true then cmS fs x.sg y.sg else sgz, cmB fs x.sg y.sg 6, 0)
  | _, _ => (sgz, false, 5)
def AlP (w : World) (ms : List Mk) (fs : List Fd) (day o1 o2 : Int) (e : Ending) (w' : World) : Prop :=
  e = .returned (.tuple #[sgAgg (alV ms fs day o1 o2).1, .bool (alV ms fs day o1 o2).2.1, .int .i64 (alV ms fs day o1 o2).2.2]) ∧ Kept w w'
theorem alV_no {ms : List Mk} {fs : List Fd} {day o1 o2 E : Int} (h : alE ms fs day o1 o2 = E) (h0 : E ≠ 0) : alV ms fs day o1 o2 = (sgz, false, E) := by
  unfold alV
  rw [if_pos (by rw [h]; exact h0), h]
theorem alV_none {ms : List Mk} {fs : List Fd} {day o1 o2 : Int} (h : alE ms fs day o1 o2 = 0) (h0 : mkAt ms day o1 = none ∨ mkAt ms day o2 = none) : alV ms fs day o1 o2 = (sgz, false, 5) := by
  unfold alV
  rw [if_neg (fun k => k h)]
  rcases h0 with h0 | h0
  · rw [h0]
  · rw [h0]
    cases mkAt ms day o1 <;> rfl
theorem alV_some {ms : List Mk} {fs : List Fd} {day o1 o2 : Int} {x y : Mk} (h : alE ms fs day o1 o2 = 0) (h1 : mkAt ms day o1 = some x) (h2 : mkAt ms day o2 = some y) : alV ms fs day o1 o2 = (if cmB fs x.sg y.sg 6 = true then cmS fs x.sg y.sg else sgz, cmB fs x.sg y.sg 6, 0) := by
  unfold alV
  rw [if_neg (fun k => k h), h1, h2]
theorem mkAt_mem {ms : List Mk} {day o : Int} {m : Mk} (h : mkAt ms day o = some m) : m ∈ ms := List.mem_of_find?_eq_some h
set_option maxRecDepth 100000 in
set_option maxHeartbeats 12800000 in
theorem ralike_any (A B : Option Addr) (n c m d : Nat) (ms : List Mk) (fs : List Fd) (day o1 o2 : Int) (w : World) (hs : SmA w A n c ms B m d fs) :
    Calls Tryz.prog 36 #[.agg #[.slice A n c, .slice B m d], .int .i64 day, .int .i64 o1, .int .i64 o2] w (AlP w ms fs day o1 o2) := by
  obtain ⟨Wa, hWa⟩ : ∃ Wa, Wa = w.alloc (.cells #[.slice A n c, .slice B m d] 25) := ⟨_, rfl⟩
  obtain ⟨W0, hW0⟩ : ∃ W0, W0 = Wa.alloc (.cells #[.int .u8 0, .int .u8 0, .int .u8 0, .int .u8 0, .int .u8 0, .int .u8 0] 39) := ⟨_, rfl⟩
  have ka : Kept w Wa := by rw [hWa]; exact (Kept.refl _).alloc _
  have kb : Kept Wa W0 := by rw [hW0]; exact (Kept.refl _).alloc _
  have za : Wa.heap.size = w.heap.size + 1 := by rw [hWa]; simp
  have K0 : RowKit.Hid (Kept w W0) := Lib.hid (ka.trans kb)
  have RA : RowKit.Hid (RowC W0 w.heap.size [.slice A n c, .slice B m d]) := Lib.hid (RowC.kept (by rw [hWa]; exact RowC.new w [.slice A n c, .slice B m d] 25) kb)
  have RZ : RowKit.Hid (RowC W0 (w.heap.size + 1) zero6) := Lib.hid (by rw [← za, hW0]; exact RowC.new Wa zero6 39)
  have HW := Lib.hid hW0
  have HWA := Lib.hid hWa
  have HS := Lib.hid (hs.kept K0.out)
  have HMO := Lib.hid hs.1.2.2.2.1
  obtain ⟨E, hE⟩ : ∃ E, stE ms fs day [o1, o2] = E := ⟨_, rfl⟩
  have HE : RowKit.Hid (alE ms fs day o1 o2 = E) := Lib.hid hE
  obtain ⟨Wb, hWb⟩ : ∃ Wb, Wb = W0.alloc (.cells #[.int .i64 o1, .int .i64 o2] 3) := ⟨_, rfl⟩
  have kb2 : Kept W0 Wb := by rw [hWb]; exact (Kept.refl _).alloc _
  have hib : IntA Wb (some ⟨W0.heap.size, 0, none⟩) 2 2 [o1, o2] := ia_row (l := [o1, o2]) (by rw [hWb]; exact RowC.new W0 [.int .i64 o1, .int .i64 o2] 3) rfl (by omega)
  have HST := Lib.hid (rstart_any A B _ n c m d 2 2 ms fs day [o1, o2] Wb (HS.out.kept kb2) hib (by omega))
  rw [hE] at HST
  have H78 : RowKit.Hid (∀ (o : Int) W, Kept W0 W → Calls Tryz.prog 78 #[.agg #[.slice A n c, .slice B m d], .int .i64 day, .int .i64 o] W (MkP W ms day o)) := Lib.hid (fun o W hW => rmark_any A B n c m d ms fs day o W (HS.out.kept hW))
  have H100 : RowKit.Hid (∀ (s t : Sg) W, Kept W0 W → s.ok → t.ok → Calls Tryz.prog 100 #[.agg #[.slice A n c, .slice B m d], .agg #[.int .u8 s.s0, .int .u8 s.s1, .int .u8 s.s2, .int .u8 s.s3, .int .u8 s.s4, .int .u8 s.s5], .agg #[.int .u8 t.s0, .int .u8 t.s1, .int .u8 t.s2, .int .u8 t.s3, .int .u8 t.s4, .int .u8 t.s5]] W (CmR W fs s t)) := Lib.hid (fun s t W hW h1 h2 => rcommon_any A B n c m d ms fs s t h1 h2 W (HS.out.kept hW))
  have HWB := Lib.hid hWb
  have KB := Lib.hid kb2
  clear hWa hW0 ka kb za hs hE hWb kb2 hib
  have a0 := (RA.out 0 _ rfl).1
  have a1 := (RA.out 1 _ rfl).1
  have la := cell_lt a0
  go_enter Tryz.func36, Tryz.ntmps36
  go_upto_region 1 with (fail)
  rw [← HWA.out, ← HW.out]
  go_wp2_with fail
  rw [← HWB.out]
  refine HST.out.mono ?_
  rintro e w1 ⟨rfl, hk1⟩
  have K1 := Lib.hid (KB.out.trans hk1)
  clear hk1 a0 a1 la
  by_cases h0 : E = 0
  rotate_left
  · have h1 : (E != 0) = true := by simpa using h0
    have HV := Lib.hid (alV_no HE.out h0)
    clear h0
    have HS6 : RowKit.Hid (RowC (set6 w1 (w.heap.size + 1) sgz) (w.heap.size + 1) (sgV sgz) ∧ Kept w (set6 w1 (w.heap.size + 1) sgz)) := Lib.hid (set6_ok (RZ.out.kept K1.out) (K0.out.trans K1.out) (by omega))
    have RZW := Lib.hid (RZ.out.kept K1.out)
    have z0 := (RZW.out 0 _ rfl).1
    have f0 := (RZW.out 0 _ rfl).2
    have z1 := (RZW.out 1 _ rfl).1
    have f1 := (RZW.out 1 _ rfl).2
    have z2 := (RZW.out 2 _ rfl).1
    have f2 := (RZW.out 2 _ rfl).2
    have z3 := (RZW.out 3 _ rfl).1
    have f3 := (RZW.out 3 _ rfl).2
    have z4 := (RZW.out 4 _ rfl).1
    have f4 := (RZW.out 4 _ rfl).2
    have z5 := (RZW.out 5 _ rfl).1
    have f5 := (RZW.out 5 _ rfl).2
    have lz := cell_lt z0
    go_wp2_with fail
    obtain ⟨hs6, hk6⟩ := HS6.out
    unfold set6 sgz at hs6 hk6
    have e0 := (hs6 0 _ rfl).1
    have e1 := (hs6 1 _ rfl).1
    have e2 := (hs6 2 _ rfl).1
    have e3 := (hs6 3 _ rfl).1
    have e4 := (hs6 4 _ rfl).1
    have e5 := (hs6 5 _ rfl).1
    refine bodyPost_ret (v := .tuple #[.agg #[.int .u8 0, .int .u8 0, .int .u8 0, .int .u8 0, .int .u8 0, .int .u8 0], .bool false, .int .i64 E]) (by simp [results, Tryz.results36, go_sem, e0, e1, e2, e3, e4, e5]) rfl ⟨?_, hk6⟩
    rw [HV.out]
    rfl
  subst h0
  have a0 := (RA.out.kept K1.out 0 _ rfl).1
  have a1 := (RA.out.kept K1.out 1 _ rfl).1
  have la := cell_lt a0
  go_wp2_with fail
  refine (H78.out o1 _ K1.out).mono ?_
  rintro e w2 ⟨he2, hk2⟩
  have K2 := Lib.hid (K1.out.trans hk2)
  clear hk2 a0 a1 la
  obtain ⟨x, hx⟩ : ∃ x, (mkAt ms day o1).getD mk0 = x := ⟨_, rfl⟩
  obtain ⟨b1, hb1⟩ : ∃ b, (mkAt ms day o1).isSome = b := ⟨_, rfl⟩
  rw [hx, hb1] at he2
  have HX := Lib.hid hx
  have HB1 := Lib.hid hb1
  have he2' : e = .returned (.tuple #[.agg #[.int .i64 x.own, .int .i64 x.frm, .int .i64 x.unt, .int .u8 x.sg.s0, .int .u8 x.sg.s1, .int .u8 x.sg.s2, .int .u8 x.sg.s3, .int .u8 x.sg.s4, .int .u8 x.sg.s5], .bool b1]) := he2
  clear he2 hx hb1
  subst he2'
  go_upto_region 5 with fail
  obtain ⟨W2, hW2⟩ : ∃ W2, W2 = w2.alloc (.cells #[.int .i64 x.own, .int .i64 x.frm, .int .i64 x.unt, .int .u8 x.sg.s0, .int .u8 x.sg.s1, .int .u8 x.sg.s2, .int .u8 x.sg.s3, .int .u8 x.sg.s4, .int .u8 x.sg.s5] 32) := ⟨_, rfl⟩
  rw [← hW2]
  have k2 : Kept w2 W2 := by rw [hW2]; exact (Kept.refl _).alloc _
  have RX := Lib.hid (show RowC W2 w2.heap.size (mkC x) by rw [hW2]; exact RowC.new w2 (mkC x) 32)
  have KW2 := Lib.hid (K2.out.trans k2)
  clear hW2 k2
  have a0 := (RA.out.kept KW2.out 0 _ rfl).1
  have a1 := (RA.out.kept KW2.out 1 _ rfl).1
  have la := cell_lt a0
  go_wp2_with fail
  refine (H78.out o2 _ KW2.out).mono ?_
  rintro e w3 ⟨he3, hk3⟩
  have K3 := Lib.hid (KW2.out.trans hk3)
  have RX3 := Lib.hid (RX.out.kept hk3)
  clear hk3 a0 a1 la
  obtain ⟨y, hy⟩ : ∃ y, (mkAt ms day o2).getD mk0 = y := ⟨_, rfl⟩
  obtain ⟨b2, hb2⟩ : ∃ b, (mkAt ms day o2).isSome = b := ⟨_, rfl⟩
  rw [hy, hb2] at he3
  have HY := Lib.hid hy
  have HB2 := Lib.hid hb2
  have he3' : e = .returned (.tuple #[.agg #[.int .i64 y.own, .int .i64 y.frm, .int .i64 y.unt, .int .u8 y.sg.s0, .int .u8 y.sg.s1, .int .u8 y.sg.s2, .int .u8 y.sg.s3, .int .u8 y.sg.s4, .int .u8 y.sg.s5], .bool b2]) := he3
  clear he3 hy hb2
  subst he3'
  go_upto_region 6 with fail
  obtain ⟨W3, hW3⟩ : ∃ W3, W3 = w3.alloc (.cells #[.int .i64 y.own, .int .i64 y.frm, .int .i64 y.unt, .int .u8 y.sg.s0, .int .u8 y.sg.s1, .int .u8 y.sg.s2, .int .u8 y.sg.s3, .int .u8 y.sg.s4, .int .u8 y.sg.s5] 32) := ⟨_, rfl⟩
  rw [← hW3]
  have k3 : Kept w3 W3 := by rw [hW3]; exact (Kept.refl _).alloc _
  have RY := Lib.hid (show RowC W3 w3.heap.size (mkC y) by rw [hW3]; exact RowC.new w3 (mkC y) 32)
  have RXW := Lib.hid (RX3.out.kept k3)
  have KW3 := Lib.hid (K3.out.trans k3)
  clear hW3 k3
  cases b1 with
  | false =>
    have HV := Lib.hid (alV_none HE.out (.inl (by cases h : mkAt ms day o1 with | none => rfl | some z => have := HB1.out; rw [h] at this; cases this)))
    have HS6 : RowKit.Hid (RowC (set6 W3 (w.heap.size + 1) sgz) (w.heap.size + 1) (sgV sgz) ∧ Kept w (set6 W3 (w.heap.size + 1) sgz)) := Lib.hid (set6_ok (RZ.out.kept KW3.out) (K0.out.trans KW3.out) (by omega))
    have RZW := Lib.hid (RZ.out.kept KW3.out)
    have z0 := (RZW.out 0 _ rfl).1
    have f0 := (RZW.out 0 _ rfl).2
    have z1 := (RZW.out 1 _ rfl).1
    have f1 := (RZW.out 1 _ rfl).2
    have z2 := (RZW.out 2 _ rfl).1
    have f2 := (RZW.out 2 _ rfl).2
    have z3 := (RZW.out 3 _ rfl).1
    have f3 := (RZW.out 3 _ rfl).2
    have z4 := (RZW.out 4 _ rfl).1
    have f4 := (RZW.out 4 _ rfl).2
    have z5 := (RZW.out 5 _ rfl).1
    have f5 := (RZW.out 5 _ rfl).2
    have lz := cell_lt z0
    go_wp2_with fail
    obtain ⟨hs6, hk6⟩ := HS6.out
    unfold set6 sgz at hs6 hk6
    have e0 := (hs6 0 _ rfl).1
    have e1 := (hs6 1 _ rfl).1
    have e2 := (hs6 2 _ rfl).1
    have e3 := (hs6 3 _ rfl).1
    have e4 := (hs6 4 _ rfl).1
    have e5 := (hs6 5 _ rfl).1
    refine bodyPost_ret (v := .tuple #[.agg #[.int .u8 0, .int .u8 0, .int .u8 0, .int .u8 0, .int .u8 0, .int .u8 0], .bool false, .int .i64 5]) (by simp [results, Tryz.results36, go_sem, e0, e1, e2, e3, e4, e5]) rfl ⟨?_, hk6⟩
    rw [HV.out]
    rfl
  | true =>
    cases b2 with
    | false =>
      have HV := Lib.hid (alV_none HE.out (.inr (by cases h : mkAt ms day o2 with | none => rfl | some z => have := HB2.out; rw [h] at this; cases this)))
      have HS6 : RowKit.Hid (RowC (set6 W3 (w.heap.size + 1) sgz) (w.heap.size + 1) (sgV sgz) ∧ Kept w (set6 W3 (w.heap.size + 1) sgz)) := Lib.hid (set6_ok (RZ.out.kept KW3.out) (K0.out.trans KW3.out) (by omega))
      have RZW := Lib.hid (RZ.out.kept KW3.out)
      have z0 := (RZW.out 0 _ rfl).1
      have f0 := (RZW.out 0 _ rfl).2
      have z1 := (RZW.out 1 _ rfl).1
      have f1 := (RZW.out 1 _ rfl).2
      have z2 := (RZW.out 2 _ rfl).1
      have f2 := (RZW.out 2 _ rfl).2
      have z3 := (RZW.out 3 _ rfl).1
      have f3 := (RZW.out 3 _ rfl).2
      have z4 := (RZW.out 4 _ rfl).1
      have f4 := (RZW.out 4 _ rfl).2
      have z5 := (RZW.out 5 _ rfl).1
      have f5 := (RZW.out 5 _ rfl).2
      have lz := cell_lt z0
      go_wp2_with fail
      obtain ⟨hs6, hk6⟩ := HS6.out
      unfold set6 sgz at hs6 hk6
      have e0 := (hs6 0 _ rfl).1
      have e1 := (hs6 1 _ rfl).1
      have e2 := (hs6 2 _ rfl).1
      have e3 := (hs6 3 _ rfl).1
      have e4 := (hs6 4 _ rfl).1
      have e5 := (hs6 5 _ rfl).1
      refine bodyPost_ret (v := .tuple #[.agg #[.int .u8 0, .int .u8 0, .int .u8 0, .int .u8 0, .int .u8 0, .int .u8 0], .bool false, .int .i64 5]) (by simp [results, Tryz.results36, go_sem, e0, e1, e2, e3, e4, e5]) rfl ⟨?_, hk6⟩
      rw [HV.out]
      rfl
    | true =>
      have hm1 : mkAt ms day o1 = some x := by
        cases h : mkAt ms day o1 with
        | none => have := HB1.out; rw [h] at this; cases this
        | some z => have := HX.out; rw [h] at this; rw [← this]; rfl
      have hm2 : mkAt ms day o2 = some y := by
        cases h : mkAt ms day o2 with
        | none => have := HB2.out; rw [h] at this; cases this
        | some z => have := HY.out; rw [h] at this; rw [← this]; rfl
      have HV := Lib.hid (alV_some HE.out hm1 hm2)
      have hxo := mk_sg (HMO.out x (mkAt_mem hm1))
      have hyo := mk_sg (HMO.out y (mkAt_mem hm2))
      have HCM := Lib.hid (H100.out x.sg y.sg W3 KW3.out hxo hyo)
      unfold CmR at HCM
      obtain ⟨cb, hcb⟩ : ∃ b, cmB fs x.sg y.sg 6 = b := ⟨_, rfl⟩
      obtain ⟨r, hr⟩ : ∃ r, (if cb = true then cmS fs x.sg y.sg else sgz) = r := ⟨_, rfl⟩
      rw [hcb, hr] at HCM HV
      clear hm1 hm2 hxo hyo hcb hr
      have a0 := (RA.out.kept KW3.out 0 _ rfl).1
      have a1 := (RA.out.kept KW3.out 1 _ rfl).1
      have la := cell_lt a0
      have x0 := (RXW.out 3 _ rfl).1
      have y0 := (RY.out 3 _ rfl).1
      have x1 := (RXW.out 4 _ rfl).1
      have y1 := (RY.out 4 _ rfl).1
      have x2 := (RXW.out 5 _ rfl).1
      have y2 := (RY.out 5 _ rfl).1
      have x3 := (RXW.out 6 _ rfl).1
      have y3 := (RY.out 6 _ rfl).1
      have x4 := (RXW.out 7 _ rfl).1
      have y4 := (RY.out 7 _ rfl).1
      have x5 := (RXW.out 8 _ rfl).1
      have y5 := (RY.out 8 _ rfl).1
      have lx := cell_lt x0
      have ly := cell_lt y0
      go_wp2_with fail
      refine HCM.out.mono ?_
      rintro e w4 ⟨he4, hk4⟩
      have K4 := Lib.hid (KW3.out.trans hk4)
      have he4' : e = .returned (.tuple #[.agg #[.int .u8 r.s0, .int .u8 r.s1, .int .u8 r.s2, .int .u8 r.s3, .int .u8 r.s4, .int .u8 r.s5], .bool cb]) := he4
      clear he4 hk4 a0 a1 la x0 x1 x2 x3 x4 x5 y0 y1 y2 y3 y4 y5 lx ly
      subst he4'
      go_upto_region 9 with fail
      obtain ⟨W4, hW4⟩ : ∃ W4, W4 = w4.alloc (.cells #[.int .u8 r.s0, .int .u8 r.s1, .int .u8 r.s2, .int .u8 r.s3, .int .u8 r.s4, .int .u8 r.s5] 39) := ⟨_, rfl⟩
      rw [← hW4]
      have k4 : Kept w4 W4 := by rw [hW4]; exact (Kept.refl _).alloc _
      have RR := Lib.hid (show RowC W4 w4.heap.size (sgV r) by rw [hW4]; exact RowC.new w4 (sgV r) 39)
      have KW4 := Lib.hid (K4.out.trans k4)
      clear hW4 k4
      have HS6 : RowKit.Hid (RowC (set6 W4 (w.heap.size + 1) r) (w.heap.size + 1) (sgV r) ∧ Kept w (set6 W4 (w.heap.size + 1) r)) := Lib.hid (set6_ok (RZ.out.kept KW4.out) (K0.out.trans KW4.out) (by omega))
      have RZW := Lib.hid (RZ.out.kept KW4.out)
      have z0 := (RZW.out 0 _ rfl).1
      have f0 := (RZW.out 0 _ rfl).2
      have z1 := (RZW.out 1 _ rfl).1
      have f1 := (RZW.out 1 _ rfl).2
      have z2 := (RZW.out 2 _ rfl).1
      have f2 := (RZW.out 2 _ rfl).2
      have z3 := (RZW.out 3 _ rfl).1
      have f3 := (RZW.out 3 _ rfl).2
      have z4 := (RZW.out 4 _ rfl).1
      have f4 := (RZW.out 4 _ rfl).2
      have z5 := (RZW.out 5 _ rfl).1
      have f5 := (RZW.out 5 _ rfl).2
      have lz := cell_lt z0
      have v0 := (RR.out 0 _ rfl).1
      have v1 := (RR.out 1 _ rfl).1
      have v2 := (RR.out 2 _ rfl).1
      have v3 := (RR.out 3 _ rfl).1
      have v4 := (RR.out 4 _ rfl).1
      have v5 := (RR.out 5 _ rfl).1
      have lv := cell_lt v0
      go_wp2_with fail
      obtain ⟨hs6, hk6⟩ := HS6.out
      unfold set6 at hs6 hk6
      have e0 := (hs6 0 _ rfl).1
      have e1 := (hs6 1 _ rfl).1
      have e2 := (hs6 2 _ rfl).1
      have e3 := (hs6 3 _ rfl).1
      have e4 := (hs6 4 _ rfl).1
      have e5 := (hs6 5 _ rfl).1
      refine bodyPost_ret (v := .tuple #[.agg #[.int .u8 r.s0, .int .u8 r.s1, .int .u8 r.s2, .int .u8 r.s3, .int .u8 r.s4, .int .u8 r.s5], .bool cb, .int .i64 0]) (by simp [results, Tryz.results36, go_sem, e0, e1, e2, e3, e4, e5]) rfl ⟨?_, hk6⟩
      rw [HV.out]
      rfl
end Go.Proofs.YtologmoanaccpaaGreatDoor

namespace Go.Proofs.YtologmoanaccpaaGreatDoor
set_option linter.all false
open Go.RowKit Go.Shelf

theorem alE_four (ms : List Mk) (fs : List Fd) (day o1 o2 : Int) : alE ms fs day o1 o2 = fstE [smE ms fs, errB (inB day 0 100000), errB (inB o1 1 40), errB (inB o2 1 40)] := by
  unfold alE stE
  rw [show ([o1, o2].all fun o => inB o 1 40) = (inB o1 1 40 && inB o2 1 40) by simp]
  cases inB o1 1 40 <;> cases inB o2 1 40 <;> rfl
set_option maxRecDepth 100000 in
set_option maxHeartbeats 12800000 in
theorem alikeX_any (A B : Option Addr) (n c m d : Nat) (ms : List Mk) (fs : List Fd) (day o1 o2 : Int) (w : World) (hs : SmA w A n c ms B m d fs) :
    Calls Tryz.prog 35 #[.agg #[.slice A n c, .slice B m d], .int .i64 day, .int .i64 o1, .int .i64 o2] w (AlP w ms fs day o1 o2) := by
  obtain ⟨Wa, hWa⟩ : ∃ Wa, Wa = w.alloc (.cells #[.slice A n c, .slice B m d] 25) := ⟨_, rfl⟩
  obtain ⟨W0, hW0⟩ : ∃ W0, W0 = Wa.alloc (.cells #[.int .u8 0, .int .u8 0, .int .u8 0, .int .u8 0, .int .u8 0, .int .u8 0] 39) := ⟨_, rfl⟩
  have ka : Kept w Wa := by rw [hWa]; exact (Kept.refl _).alloc _
  have kb : Kept Wa W0 := by rw [hW0]; exact (Kept.refl _).alloc _
  have za : Wa.heap.size = w.heap.size + 1 := by rw [hWa]; simp
  have K0 : RowKit.Hid (Kept w W0) := Lib.hid (ka.trans kb)
  have RA : RowKit.Hid (RowC W0 w.heap.size [.slice A n c, .slice B m d]) := Lib.hid (RowC.kept (by rw [hWa]; exact RowC.new w [.slice A n c, .slice B m d] 25) kb)
  have RZ : RowKit.Hid (RowC W0 (w.heap.size + 1) zero6) := Lib.hid (by rw [← za, hW0]; exact RowC.new Wa zero6 39)
  have HW := Lib.hid hW0
  have HWA := Lib.hid hWa
  have HS := Lib.hid (hs.kept K0.out)
  have HMO := Lib.hid hs.1.2.2.2.1
  have HFO := Lib.hid hs.2.2.2.2.1
  obtain ⟨E1, hE1⟩ : ∃ E, smE ms fs = E := ⟨_, rfl⟩
  obtain ⟨b2, hb2⟩ : ∃ b, inB day 0 100000 = b := ⟨_, rfl⟩
  obtain ⟨v2, hv2⟩ : ∃ v, errB b2 = v := ⟨_, rfl⟩
  obtain ⟨b3, hb3⟩ : ∃ b, inB o1 1 40 = b := ⟨_, rfl⟩
  obtain ⟨v3, hv3⟩ : ∃ v, errB b3 = v := ⟨_, rfl⟩
  obtain ⟨b4, hb4⟩ : ∃ b, inB o2 1 40 = b := ⟨_, rfl⟩
  obtain ⟨v4, hv4⟩ : ∃ v, errB b4 = v := ⟨_, rfl⟩
  obtain ⟨E, hE⟩ : ∃ E, fstE [E1, v2, v3, v4] = E := ⟨_, rfl⟩
  have HE : RowKit.Hid (alE ms fs day o1 o2 = E) := Lib.hid (by rw [alE_four, hE1, hb2, hv2, hb3, hv3, hb4, hv4, hE])
  have HE4 := Lib.hid hE
  have HE1 := Lib.hid hE1
  have HB3 : RowKit.Hid (v3 = 0 → 1 ≤ o1 ∧ o1 ≤ 40) := Lib.hid (fun h => inB_iff.1 (hb3.trans (errB_ok (hv3.trans h))))
  have HB4 : RowKit.Hid (v4 = 0 → 1 ≤ o2 ∧ o2 ≤ 40) := Lib.hid (fun h => inB_iff.1 (hb4.trans (errB_ok (hv4.trans h))))
  have H25 : RowKit.Hid (∀ W, Kept W0 W → Calls Tryz.prog 25 #[.agg #[.slice A n c, .slice B m d]] W fun e w' => e = .returned (.int .i64 E1) ∧ Kept W w') := Lib.hid (fun W hW => by rw [← hE1]; exact checkSmits_any A B n c m d ms fs W (HS.out.kept hW))
  have H75 : RowKit.Hid (∀ W, Calls Tryz.prog 75 #[.int .i64 day] W fun e w' => e = .returned (.bool b2) ∧ W = w') := Lib.hid (fun W => by rw [← hb2]; exact isDay_any _ W)
  have H79a : RowKit.Hid (∀ W, Calls Tryz.prog 79 #[.int .i64 o1] W fun e w' => e = .returned (.bool b3) ∧ W = w') := Lib.hid (fun W => by rw [← hb3]; exact isOwner_any _ W)
  have H79b : RowKit.Hid (∀ W, Calls Tryz.prog 79 #[.int .i64 o2] W fun e w' => e = .returned (.bool b4) ∧ W = w') := Lib.hid (fun W => by rw [← hb4]; exact isOwner_any _ W)
  have HV2 : RowKit.Hid (∀ W, Calls Tryz.prog 74 #[.bool b2] W fun e w' => e = .returned (.int .i64 v2) ∧ W = w') := Lib.hid (fun W => by rw [← hv2]; exact valid_any b2 W)
  have HV3 : RowKit.Hid (∀ W, Calls Tryz.prog 74 #[.bool b3] W fun e w' => e = .returned (.int .i64 v3) ∧ W = w') := Lib.hid (fun W => by rw [← hv3]; exact valid_any b3 W)
  have HV4 : RowKit.Hid (∀ W, Calls Tryz.prog 74 #[.bool b4] W fun e w' => e = .returned (.int .i64 v4) ∧ W = w') := Lib.hid (fun W => by rw [← hv4]; exact valid_any b4 W)
  have H73 : RowKit.Hid (∀ W g, RowC W g [.int .i64 E1, .int .i64 v2, .int .i64 v3, .int .i64 v4] → Calls Tryz.prog 73 #[.slice (some ⟨g, 0, none⟩) 4 4] W fun e w' => e = .returned (.int .i64 E) ∧ W = w') := Lib.hid (fun W g hr => by
    rw [← hE]
    exact firstError_any g 0 4 4 [E1, v2, v3, v4] rfl (by omega) W (intsR hr))
  have a0 := (RA.out 0 _ rfl).1
  have a1 := (RA.out 1 _ rfl).1
  have la := cell_lt a0
  clear hWa hW0 ka kb za hs hE1 hb2 hv2 hb3 hv3 hb4 hv4 hE
  go_enter Tryz.func35, Tryz.ntmps35
  go_upto_region 1 with (fail)
  rw [← HWA.out, ← HW.out]
  go_wp2_with fail
  refine (H25.out _ (Kept.refl _)).mono ?_
  rintro e w1 ⟨rfl, hk1⟩
  have K1 := Lib.hid hk1
  clear hk1 a0 a1 la
  go_wp2_with fail
  refine (H75.out _).mono ?_
  rintro e w2 ⟨rfl, rfl⟩
  go_wp2_with fail
  refine (HV2.out _).mono ?_
  rintro e w2 ⟨rfl, rfl⟩
  go_wp2_with fail
  refine (H79a.out _).mono ?_
  rintro e w2 ⟨rfl, rfl⟩
  go_wp2_with fail
  refine (HV3.out _).mono ?_
  rintro e w2 ⟨rfl, rfl⟩
  go_wp2_with fail
  refine (H79b.out _).mono ?_
  rintro e w2 ⟨rfl, rfl⟩
  go_wp2_with fail
  refine (HV4.out _).mono ?_
  rintro e w2 ⟨rfl, rfl⟩
  go_wp2_with fail
  refine (H73.out _ _ (RowC.new _ _ _)).mono ?_
  rintro e w3 ⟨rfl, rfl⟩
  obtain ⟨w3, hw3⟩ : ∃ w3, w3 = w1.alloc (.cells #[.int .i64 E1, .int .i64 v2, .int .i64 v3, .int .i64 v4] 27) := ⟨_, rfl⟩
  have K3 := Lib.hid (show Kept W0 w3 by rw [hw3]; exact K1.out.alloc _)
  rw [← hw3]
  clear hw3
  by_cases h0 : E = 0
  rotate_left
  · have h1 : (E != 0) = true := by simpa using h0
    have HV := Lib.hid (alV_no HE.out h0)
    clear h0
    have HS6 : RowKit.Hid (RowC (set6 w3 (w.heap.size + 1) sgz) (w.heap.size + 1) (sgV sgz) ∧ Kept w (set6 w3 (w.heap.size + 1) sgz)) := Lib.hid (set6_ok (RZ.out.kept K3.out) (K0.out.trans K3.out) (by omega))
    have RZW := Lib.hid (RZ.out.kept K3.out)
    have z0 := (RZW.out 0 _ rfl).1
    have f0 := (RZW.out 0 _ rfl).2
    have z1 := (RZW.out 1 _ rfl).1
    have f1 := (RZW.out 1 _ rfl).2
    have z2 := (RZW.out 2 _ rfl).1
    have f2 := (RZW.out 2 _ rfl).2
    have z3 := (RZW.out 3 _ rfl).1
    have f3 := (RZW.out 3 _ rfl).2
    have z4 := (RZW.out 4 _ rfl).1
    have f4 := (RZW.out 4 _ rfl).2
    have z5 := (RZW.out 5 _ rfl).1
    have f5 := (RZW.out 5 _ rfl).2
    have lz := cell_lt z0
    go_wp2_with fail
    obtain ⟨hs6, hk6⟩ := HS6.out
    unfold set6 sgz at hs6 hk6
    have e0 := (hs6 0 _ rfl).1
    have e1 := (hs6 1 _ rfl).1
    have e2 := (hs6 2 _ rfl).1
    have e3 := (hs6 3 _ rfl).1
    have e4 := (hs6 4 _ rfl).1
    have e5 := (hs6 5 _ rfl).1
    refine bodyPost_ret (v := .tuple #[.agg #[.int .u8 0, .int .u8 0, .int .u8 0, .int .u8 0, .int .u8 0, .int .u8 0], .bool false, .int .i64 E]) (by simp [results, Tryz.results35, go_sem, e0, e1, e2, e3, e4, e5]) rfl ⟨?_, hk6⟩
    rw [HV.out]
    rfl
  subst h0
  obtain ⟨e1, e2, e3, e4⟩ := fstE_four HE4.out
  obtain ⟨hm1, hm2, hmv, hfv, _, hcl⟩ := sm_ok (HE1.out.trans e1)
  have HMV := Lib.hid hmv
  have HFV := Lib.hid hfv
  have HMA : RowKit.Hid (∀ l : List Mk, l.Perm (frcL ms day) → l.Pairwise (fun a b => a.own ≤ b.own) → moAt l o1 = mkAt ms day o1 ∧ moAt l o2 = mkAt ms day o2) := Lib.hid (fun l h1 h2 => by
    rw [rf_eq hcl hmv h1 h2, mo_rf hcl day (HB3.out e3).1 (HB3.out e3).2, mo_rf hcl day (HB4.out e4).1 (HB4.out e4).2]
    exact ⟨rfl, rfl⟩)
  have hn100 : n ≤ 1000 := by rw [← HS.out.1.1]; omega
  have HVW := Lib.hid (viewOf_any A B n c m d ms fs day w3 (HS.out.kept K3.out) hn100 hmv hfv)
  have HAK : RowKit.Hid (∀ (a c' : Sg) W, a.ok → c'.ok → clearB a = true → clearB c' = true → Calls Tryz.prog 99 #[lkV fs, .agg #[.int .u8 a.s0, .int .u8 a.s1, .int .u8 a.s2, .int .u8 a.s3, .int .u8 a.s4, .int .u8 a.s5], .agg #[.int .u8 c'.s0, .int .u8 c'.s1, .int .u8 c'.s2, .int .u8 c'.s3, .int .u8 c'.s4, .int .u8 c'.s5]] W (CmR W fs a c')) := Lib.hid (fun a c' W h1 h2 h3 h4 => alike_any fs a c' HFO.out (fade4 hfv) h1 h2 h3 h4 W)
  have hi7 : (Tryz.prog.info? 122).map (·.size) = some 31 := by kernel_rfl
  have hi2 : (Tryz.prog.info? 120).map (·.size) = some 30 := by kernel_rfl
  clear e1 e2 e3 e4 hm1 hm2 hmv hfv hcl
  have a0 := (RA.out.kept K3.out 0 _ rfl).1
  have a1 := (RA.out.kept K3.out 1 _ rfl).1
  have la := cell_lt a0
  go_wp2_with fail
  refine HVW.out.mono ?_
  rintro e w4 ⟨A5, c5, l5, rfl, p1, p2, sl5, hk4⟩
  obtain ⟨hmo1, hmo2⟩ := HMA.out l5 p1 p2
  have HMO1 := Lib.hid hmo1
  have HMO2 := Lib.hid hmo2
  have SL5 := Lib.hid sl5
  have K4 := Lib.hid (K3.out.trans hk4)
  clear hk4 p1 p2 sl5 a0 a1 la hmo1 hmo2
  go_upto_region 5 with (refine wpList_store_row rfl 122 (.tmp 12) (.tmp 38) rfl w4.heap.size (Value.slice A5 l5.length c5 :: lkL (lkX fs)).toArray rfl rfl 122 zero31.toArray (heap_alloc_new w4 _) (by rw [hi7]; simp [lkL_len]) (by simp [zero31, lkL_len]) (by simp [lkL, Value.oneCell']) ?_)
  obtain ⟨Wv, hWv⟩ : ∃ Wv, Wv = (w4.alloc (.cells zero31.toArray 122)).setRow w4.heap.size (Value.slice A5 l5.length c5 :: lkL (lkX fs)).toArray := ⟨_, rfl⟩
  have hbb : Wv.heap[w4.heap.size]? = some (.cells (Value.slice A5 l5.length c5 :: lkL (lkX fs)).toArray 122 (0, 0)) := by rw [hWv]; exact setRow_heap _ _ _ _ _ _ (heap_alloc_new w4 _)
  have RB := Lib.hid (show RowC Wv w4.heap.size (Value.slice A5 l5.length c5 :: lkL (lkX fs)) from fun j v hv => ⟨by rw [cell_of_row _ _ _ _ _ _ hbb]; simpa using hv, frozen_of_row _ _ _ _ _ hbb⟩)
  have hkv : Kept w4 Wv := by rw [hWv]; exact ((Kept.refl w4).alloc _).setRow (Nat.le_refl _) _
  have HZZ : RowKit.Hid (Wv = (w4.alloc (.cells #[.slice none 0 0, .int .u8 0, .int .u8 0, .int .u8 0, .int .u8 0, .int .u8 0, .int .u8 0, .int .u8 0, .int .u8 0, .int .u8 0, .int .u8 0, .int .u8 0, .int .u8 0, .int .u8 0, .int .u8 0, .int .u8 0, .int .u8 0, .int .u8 0, .int .u8 0, .int .u8 0, .int .u8 0, .int .u8 0, .int .u8 0, .int .u8 0, .int .u8 0, .int .u8 0, .int .u8 0, .int .u8 0, .int .u8 0, .int .u8 0, .int .u8 0] 122)).setRow w4.heap.size (Value.slice A5 l5.length c5 :: lkL (lkX fs)).toArray) := Lib.hid (by rw [hWv]; rfl)
  have SLV := Lib.hid (SL5.out.kept hkv)
  have KV := Lib.hid (K4.out.trans hkv)
  have r0 := (RB.out 0 _ rfl).1
  have lr := cell_lt r0
  obtain ⟨N, hN⟩ : ∃ N, l5.length = N := ⟨_, rfl⟩
  rw [hN] at r0 SLV HZZ
  rw [← hN] at HZZ
  rw [← HZZ.out]
  have H80 := Lib.hid (fun (o : Int) W (hW : Kept Wv W) => markOf_any A5 N c5 l5 o W (SLV.out.kept hW))
  have HN5 := Lib.hid hN
  clear hWv hbb hkv hN
  go_wp2_with fail
  refine (H80.out o1 _ (Kept.refl _)).mono ?_
  rintro e w2 ⟨he2, hk2⟩
  rw [HMO1.out] at he2
  have K2 := Lib.hid hk2
  clear hk2 r0 lr
  obtain ⟨x, hx⟩ : ∃ x, (mkAt ms day o1).getD mk0 = x := ⟨_, rfl⟩
  obtain ⟨b1, hb1⟩ : ∃ b, (mkAt ms day o1).isSome = b := ⟨_, rfl⟩
  rw [hx, hb1] at he2
  have HX := Lib.hid hx
  have HB1 := Lib.hid hb1
  have he2' : e = .returned (.tuple #[.agg #[.int .i64 x.own, .int .i64 x.frm, .int .i64 x.unt, .int .u8 x.sg.s0, .int .u8 x.sg.s1, .int .u8 x.sg.s2, .int .u8 x.sg.s3, .int .u8 x.sg.s4, .int .u8 x.sg.s5], .bool b1]) := he2
  clear he2 hx hb1
  subst he2'
  go_upto_region 6 with fail
  obtain ⟨W2, hW2⟩ : ∃ W2, W2 = w2.alloc (.cells #[.int .i64 x.own, .int .i64 x.frm, .int .i64 x.unt, .int .u8 x.sg.s0, .int .u8 x.sg.s1, .int .u8 x.sg.s2, .int .u8 x.sg.s3, .int .u8 x.sg.s4, .int .u8 x.sg.s5] 32) := ⟨_, rfl⟩
  rw [← hW2]
  have k2 : Kept w2 W2 := by rw [hW2]; exact (Kept.refl _).alloc _
  have RX := Lib.hid (show RowC W2 w2.heap.size (mkC x) by rw [hW2]; exact RowC.new w2 (mkC x) 32)
  have KW2 := Lib.hid (K2.out.trans k2)
  clear hW2 k2
  have r0 := (RB.out.kept KW2.out 0 _ rfl).1
  rw [HN5.out] at r0
  have lr := cell_lt r0
  go_wp2_with fail
  refine (H80.out o2 _ KW2.out).mono ?_
  rintro e w3' ⟨he3, hk3⟩
  rw [HMO2.out] at he3
  have K3' := Lib.hid (KW2.out.trans hk3)
  have RX3 := Lib.hid (RX.out.kept hk3)
  clear hk3 r0 lr
  obtain ⟨y, hy⟩ : ∃ y, (mkAt ms day o2).getD mk0 = y := ⟨_, rfl⟩
  obtain ⟨b2', hb2⟩ : ∃ b, (mkAt ms day o2).isSome = b := ⟨_, rfl⟩
  rw [hy, hb2] at he3
  have HY := Lib.hid hy
  have HB2 := Lib.hid hb2
  have he3' : e = .returned (.tuple #[.agg #[.int .i64 y.own, .int .i64 y.frm, .int .i64 y.unt, .int .u8 y.sg.s0, .int .u8 y.sg.s1, .int .u8 y.sg.s2, .int .u8 y.sg.s3, .int .u8 y.sg.s4, .int .u8 y.sg.s5], .bool b2']) := he3
  clear he3 hy hb2
  subst he3'
  go_upto_region 7 with fail
  obtain ⟨W3, hW3⟩ : ∃ W3, W3 = w3'.alloc (.cells #[.int .i64 y.own, .int .i64 y.frm, .int .i64 y.unt, .int .u8 y.sg.s0, .int .u8 y.sg.s1, .int .u8 y.sg.s2, .int .u8 y.sg.s3, .int .u8 y.sg.s4, .int .u8 y.sg.s5] 32) := ⟨_, rfl⟩
  rw [← hW3]
  have k3 : Kept w3' W3 := by rw [hW3]; exact (Kept.refl _).alloc _
  have RY := Lib.hid (show RowC W3 w3'.heap.size (mkC y) by rw [hW3]; exact RowC.new w3' (mkC y) 32)
  have RXW := Lib.hid (RX3.out.kept k3)
  have KV3 := Lib.hid (K3'.out.trans k3)
  have KW3 := Lib.hid (KV.out.trans KV3.out)
  clear hW3 k3
  cases b1 with
  | false =>
    have HV := Lib.hid (alV_none HE.out (.inl (by cases h : mkAt ms day o1 with | none => rfl | some z => have := HB1.out; rw [h] at this; cases this)))
    have HS6 : RowKit.Hid (RowC (set6 W3 (w.heap.size + 1) sgz) (w.heap.size + 1) (sgV sgz) ∧ Kept w (set6 W3 (w.heap.size + 1) sgz)) := Lib.hid (set6_ok (RZ.out.kept KW3.out) (K0.out.trans KW3.out) (by omega))
    have RZW := Lib.hid (RZ.out.kept KW3.out)
    have z0 := (RZW.out 0 _ rfl).1
    have f0 := (RZW.out 0 _ rfl).2
    have z1 := (RZW.out 1 _ rfl).1
    have f1 := (RZW.out 1 _ rfl).2
    have z2 := (RZW.out 2 _ rfl).1
    have f2 := (RZW.out 2 _ rfl).2
    have z3 := (RZW.out 3 _ rfl).1
    have f3 := (RZW.out 3 _ rfl).2
    have z4 := (RZW.out 4 _ rfl).1
    have f4 := (RZW.out 4 _ rfl).2
    have z5 := (RZW.out 5 _ rfl).1
    have f5 := (RZW.out 5 _ rfl).2
    have lz := cell_lt z0
    go_wp2_with fail
    obtain ⟨hs6, hk6⟩ := HS6.out
    unfold set6 sgz at hs6 hk6
    have e0 := (hs6 0 _ rfl).1
    have e1 := (hs6 1 _ rfl).1
    have e2 := (hs6 2 _ rfl).1
    have e3 := (hs6 3 _ rfl).1
    have e4 := (hs6 4 _ rfl).1
    have e5 := (hs6 5 _ rfl).1
    refine bodyPost_ret (v := .tuple #[.agg #[.int .u8 0, .int .u8 0, .int .u8 0, .int .u8 0, .int .u8 0, .int .u8 0], .bool false, .int .i64 5]) (by simp [results, Tryz.results35, go_sem, e0, e1, e2, e3, e4, e5]) rfl ⟨?_, hk6⟩
    rw [HV.out]
    rfl
  | true =>
    cases b2' with
    | false =>
      have HV := Lib.hid (alV_none HE.out (.inr (by cases h : mkAt ms day o2 with | none => rfl | some z => have := HB2.out; rw [h] at this; cases this)))
      have HS6 : RowKit.Hid (RowC (set6 W3 (w.heap.size + 1) sgz) (w.heap.size + 1) (sgV sgz) ∧ Kept w (set6 W3 (w.heap.size + 1) sgz)) := Lib.hid (set6_ok (RZ.out.kept KW3.out) (K0.out.trans KW3.out) (by omega))
      have RZW := Lib.hid (RZ.out.kept KW3.out)
      have z0 := (RZW.out 0 _ rfl).1
      have f0 := (RZW.out 0 _ rfl).2
      have z1 := (RZW.out 1 _ rfl).1
      have f1 := (RZW.out 1 _ rfl).2
      have z2 := (RZW.out 2 _ rfl).1
      have f2 := (RZW.out 2 _ rfl).2
      have z3 := (RZW.out 3 _ rfl).1
      have f3 := (RZW.out 3 _ rfl).2
      have z4 := (RZW.out 4 _ rfl).1
      have f4 := (RZW.out 4 _ rfl).2
      have z5 := (RZW.out 5 _ rfl).1
      have f5 := (RZW.out 5 _ rfl).2
      have lz := cell_lt z0
      go_wp2_with fail
      obtain ⟨hs6, hk6⟩ := HS6.out
      unfold set6 sgz at hs6 hk6
      have e0 := (hs6 0 _ rfl).1
      have e1 := (hs6 1 _ rfl).1
      have e2 := (hs6 2 _ rfl).1
      have e3 := (hs6 3 _ rfl).1
      have e4 := (hs6 4 _ rfl).1
      have e5 := (hs6 5 _ rfl).1
      refine bodyPost_ret (v := .tuple #[.agg #[.int .u8 0, .int .u8 0, .int .u8 0, .int .u8 0, .int .u8 0, .int .u8 0], .bool false, .int .i64 5]) (by simp [results, Tryz.results35, go_sem, e0, e1, e2, e3, e4, e5]) rfl ⟨?_, hk6⟩
      rw [HV.out]
      rfl
    | true =>
      have hm1 : mkAt ms day o1 = some x := by
        cases h : mkAt ms day o1 with
        | none => have := HB1.out; rw [h] at this; cases this
        | some z => have := HX.out; rw [h] at this; rw [← this]; rfl
      have hm2 : mkAt ms day o2 = some y := by
        cases h : mkAt ms day o2 with
        | none => have := HB2.out; rw [h] at this; cases this
        | some z => have := HY.out; rw [h] at this; rw [← this]; rfl
      have HV := Lib.hid (alV_some HE.out hm1 hm2)
      have HCM := Lib.hid (fun W => HAK.out x.sg y.sg W (mk_sg (HMO.out x (mkAt_mem hm1))) (mk_sg (HMO.out y (mkAt_mem hm2))) (mark_clear (HMV.out x (mkAt_mem hm1))) (mark_clear (HMV.out y (mkAt_mem hm2))))
      unfold CmR at HCM
      obtain ⟨cb, hcb⟩ : ∃ b, cmB fs x.sg y.sg 6 = b := ⟨_, rfl⟩
      obtain ⟨r, hr⟩ : ∃ r, (if cb = true then cmS fs x.sg y.sg else sgz) = r := ⟨_, rfl⟩
      rw [hcb, hr] at HCM HV
      have HRG : RowKit.Hid (W3.rangeAt w4.heap.size 1 (lkL (lkX fs))) := Lib.hid (fun j' v hv => (RB.out.kept KV3.out (1 + j') v (by rw [Nat.add_comm]; simpa using hv)).1)
      have lv4 := cell_lt (RB.out.kept KV3.out 0 _ rfl).1
      clear hm1 hm2 hcb hr
      have x0 := (RXW.out 3 _ rfl).1
      have y0 := (RY.out 3 _ rfl).1
      have x1 := (RXW.out 4 _ rfl).1
      have y1 := (RY.out 4 _ rfl).1
      have x2 := (RXW.out 5 _ rfl).1
      have y2 := (RY.out 5 _ rfl).1
      have x3 := (RXW.out 6 _ rfl).1
      have y3 := (RY.out 6 _ rfl).1
      have x4 := (RXW.out 7 _ rfl).1
      have y4 := (RY.out 7 _ rfl).1
      have x5 := (RXW.out 8 _ rfl).1
      have y5 := (RY.out 8 _ rfl).1
      have lx := cell_lt x0
      have ly := cell_lt y0
      unfold lkV at HCM
      go_wp2_with (first | (refine wpList_load_mid rfl 120 (.tmp 61) rfl w4.heap.size 1 rfl (lkL (lkX fs)) _ HRG.out Tryz.underlying120 rfl (by rw [hi2]; simp [lkL_len]) ?_) | fail)
      refine (HCM.out _).mono ?_
      rintro e w5 ⟨he4, hk4⟩
      have K5 := Lib.hid (KW3.out.trans hk4)
      have he4' : e = .returned (.tuple #[.agg #[.int .u8 r.s0, .int .u8 r.s1, .int .u8 r.s2, .int .u8 r.s3, .int .u8 r.s4, .int .u8 r.s5], .bool cb]) := he4
      clear he4 hk4 x0 x1 x2 x3 x4 x5 y0 y1 y2 y3 y4 y5 lx ly
      subst he4'
      go_upto_region 10 with fail
      obtain ⟨W4, hW4⟩ : ∃ W4, W4 = w5.alloc (.cells #[.int .u8 r.s0, .int .u8 r.s1, .int .u8 r.s2, .int .u8 r.s3, .int .u8 r.s4, .int .u8 r.s5] 39) := ⟨_, rfl⟩
      rw [← hW4]
      have k4 : Kept w5 W4 := by rw [hW4]; exact (Kept.refl _).alloc _
      have RR := Lib.hid (show RowC W4 w5.heap.size (sgV r) by rw [hW4]; exact RowC.new w5 (sgV r) 39)
      have KW4 := Lib.hid (K5.out.trans k4)
      clear hW4 k4
      have HS6 : RowKit.Hid (RowC (set6 W4 (w.heap.size + 1) r) (w.heap.size + 1) (sgV r) ∧ Kept w (set6 W4 (w.heap.size + 1) r)) := Lib.hid (set6_ok (RZ.out.kept KW4.out) (K0.out.trans KW4.out) (by omega))
      have RZW := Lib.hid (RZ.out.kept KW4.out)
      have z0 := (RZW.out 0 _ rfl).1
      have f0 := (RZW.out 0 _ rfl).2
      have z1 := (RZW.out 1 _ rfl).1
      have f1 := (RZW.out 1 _ rfl).2
      have z2 := (RZW.out 2 _ rfl).1
      have f2 := (RZW.out 2 _ rfl).2
      have z3 := (RZW.out 3 _ rfl).1
      have f3 := (RZW.out 3 _ rfl).2
      have z4 := (RZW.out 4 _ rfl).1
      have f4 := (RZW.out 4 _ rfl).2
      have z5 := (RZW.out 5 _ rfl).1
      have f5 := (RZW.out 5 _ rfl).2
      have lz := cell_lt z0
      have v0 := (RR.out 0 _ rfl).1
      have v1 := (RR.out 1 _ rfl).1
      have v2 := (RR.out 2 _ rfl).1
      have v3 := (RR.out 3 _ rfl).1
      have v4 := (RR.out 4 _ rfl).1
      have v5 := (RR.out 5 _ rfl).1
      have lv := cell_lt v0
      go_wp2_with fail
      obtain ⟨hs6, hk6⟩ := HS6.out
      unfold set6 at hs6 hk6
      have e0 := (hs6 0 _ rfl).1
      have e1 := (hs6 1 _ rfl).1
      have e2 := (hs6 2 _ rfl).1
      have e3 := (hs6 3 _ rfl).1
      have e4 := (hs6 4 _ rfl).1
      have e5 := (hs6 5 _ rfl).1
      refine bodyPost_ret (v := .tuple #[.agg #[.int .u8 r.s0, .int .u8 r.s1, .int .u8 r.s2, .int .u8 r.s3, .int .u8 r.s4, .int .u8 r.s5], .bool cb, .int .i64 0]) (by simp [results, Tryz.results35, go_sem, e0, e1, e2, e3, e4, e5]) rfl ⟨?_, hk6⟩
      rw [HV.out]
      rfl
end Go.Proofs.YtologmoanaccpaaGreatDoor
