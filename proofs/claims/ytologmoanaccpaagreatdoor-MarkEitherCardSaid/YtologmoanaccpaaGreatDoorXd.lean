/-
  the law MarkEither
-/
import Derived.Test.YtologmoanaccpaaGreatDoorEA
import Derived.Test.YtologmoanaccpaaGreatDoorBN
namespace Go.Proofs.YtologmoanaccpaaGreatDoor
set_option linter.all false
open Go.RowKit Go.Shelf

theorem ia_of {w : World} {A : Option Addr} {n c : Nat} {xs : List Int} (h : SlA inC 1 i64 w A n c xs) (hn : n ≤ 1000) : IntA w A n c xs :=
  ⟨h.1, by omega, trivial, fun h0 => by
    obtain ⟨b, off, e, ht⟩ := h.2.2.2.2 h0
    refine ⟨b, off, e, fun i x hx => ?_⟩
    have := ht i x hx 0 (.int .i64 x) rfl
    rwa [Nat.mul_one, Nat.add_zero] at this⟩
theorem ia_has {w : World} {hb p : Nat} {ow : List Int} (h : HasR w (some ⟨hb, 0, none⟩) p p hb 0 ow) (hp : p ≤ 1000) : IntA w (some ⟨hb, 0, none⟩) p p ow :=
  ⟨h.ln, by omega, trivial, fun h0 => ⟨hb, 0, rfl, fun i x hx => (h.rh i x hx).1⟩⟩
theorem ia_row {w : World} {g n c : Nat} {l : List Int} (h : RowC w g (l.map (Value.int .i64))) (hn : n = l.length) (hs : n ≤ 1000) : IntA w (some ⟨g, 0, none⟩) n c l :=
  ⟨hn.symm, by omega, trivial, fun h0 => ⟨g, 0, rfl, fun i x hx => by rw [Nat.zero_add]; exact (h i (.int .i64 x) (by rw [List.getElem?_map, hx]; rfl)).1⟩⟩
/-- what is so when the arguments are right -/
structure EiF (ms : List Mk) (fs : List Fd) (day : Int) (found : List Sg) (cls : List Cl) : Prop where
  (c41 : clN cls < 2 ^ 41) (c0 : (clN cls).testBit 0 = false)
theorem eif_of {ms : List Mk} {fs : List Fd} {day : Int} {found : List Sg} {cls : List Cl} (h : chE ms fs day found cls = 0) : EiF ms fs day found cls := by
  obtain ⟨e1, e2, e3, e4⟩ := fstE_four h
  obtain ⟨c1, c2, c3⟩ := cl_ok e4
  exact ⟨clN_41 c2, clN_0 c2⟩
theorem ei_q {ms : List Mk} {fs : List Fd} {day : Int} {found : List Sg} {cls : List Cl} (h : chE ms fs day found cls = 0) {ow : List Int} (hm : MetA (fitsN ms fs day found cls) (clN cls) (wtL cls) ow) (l : List Int) : (okK (clN cls) l l.length && shB (fitsN ms fs day found cls) (wtL cls) (setL l)) = false := by
  have H := eif_of h
  cases e : okK (clN cls) l l.length
  · rfl
  · have hs := setL_lt (clN cls) l (by have := okK_all e (Nat.le_refl _); rwa [List.take_length] at this)
    rw [met_shB hm H.c41 H.c0 hs]; rfl
set_option maxRecDepth 100000 in
set_option maxHeartbeats 6400000 in
theorem markEither_any (A B C D G H : Option Addr) (n c m d p q u v x y a b : Nat) (ms : List Mk) (fs : List Fd) (day : Int) (found : List Sg) (cls : List Cl) (ows ls : List Int) (w : World) (hs : SmA w A n c ms B m d fs) (hfo : SlA sgV 6 Sg.ok w C p q found) (hcl : SlA clC 2 Cl.ok w D u v cls) (how : SlA inC 1 i64 w G x y ows) (hls : SlA inC 1 i64 w H a b ls) (hE : EnvT w) (hM : EnvM w) :
    Calls Tryz.prog 12 #[.agg #[.slice A n c, .slice B m d], .int .i64 day, .slice C p q, .slice D u v, .slice G x y, .slice H a b] w fun e w' => e = .returned (.bool true) ∧ Kept w w' := by
  obtain ⟨W0, hW0⟩ : ∃ W0, W0 = w.alloc (.cells #[.slice A n c, .slice B m d] 25) := ⟨_, rfl⟩
  have K0 : RowKit.Hid (Kept w W0) := Lib.hid (by rw [hW0]; exact (Kept.refl _).alloc _)
  have R0 : RowKit.Hid (RowC W0 w.heap.size [.slice A n c, .slice B m d]) := Lib.hid (by rw [hW0]; exact RowC.new w [.slice A n c, .slice B m d] 25)
  have HW := Lib.hid hW0
  have HMK : RowKit.Hid (∀ W, Kept w W → Calls Tryz.prog 19 #[] W fun e w' => e = .returned (.bool true) ∧ Kept W w') := Lib.hid (fun W hW => marked_any W (hE.kept hW) (hM.kept hW))
  have HAS : RowKit.Hid (∀ W, Kept w W → Calls Tryz.prog 49 #[.agg #[.slice A n c, .slice B m d], .int .i64 day, .slice C p q, .slice D u v] W (AsP W ms fs day found cls p)) := Lib.hid (fun W hW => assign_any A B C D n c m d p q u v ms fs day found cls W (hs.kept hW) (hfo.kept hW) (hcl.kept hW) (hE.kept hW))
  have HST : RowKit.Hid (∀ W, Kept w W → Calls Tryz.prog 53 #[.agg #[.slice A n c, .slice B m d], .int .i64 day, .slice C p q, .slice D u v] W (StP W ms fs day found cls)) := Lib.hid (fun W hW => shortage_any A B C D n c m d p q u v ms fs day found cls W (hs.kept hW) (hfo.kept hW) (hcl.kept hW) (hE.kept hW))
  have HME : RowKit.Hid (∀ W (G : Option Addr) (x y : Nat) (ows : List Int), Kept w W → IntA W G x y ows → x ≤ 1000 → Calls Tryz.prog 51 #[.agg #[.slice A n c, .slice B m d], .int .i64 day, .slice C p q, .slice D u v, .slice G x y] W (MeP W ms fs day found cls ows)) := Lib.hid (fun W G x y ows hW hi hx => meets_any A B C D G n c m d p q u v x y ms fs day found cls ows W (hs.kept hW) (hfo.kept hW) (hcl.kept hW) hi hx (hE.kept hW))
  have HCS : RowKit.Hid (∀ W (G : Option Addr) (x y : Nat) (ows : List Int), Kept w W → IntA W G x y ows → x ≤ 1000 → Calls Tryz.prog 55 #[.agg #[.slice A n c, .slice B m d], .int .i64 day, .slice C p q, .slice D u v, .slice G x y] W (CsP W ms fs day found cls ows)) := Lib.hid (fun W G x y ows hW hi hx => checkShortage_any A B C D G n c m d p q u v x y ms fs day found cls ows W (hs.kept hW) (hfo.kept hW) (hcl.kept hW) hi hx (hE.kept hW))
  have HOW := Lib.hid how
  have HLS := Lib.hid hls
  have hnc := hs.1.2.1
  have hcm := hs.1.2.2.1
  have hpc := hfo.2.1
  have hpm := hfo.2.2.1
  have huc := hcl.2.1
  have hum := hcl.2.2.1
  have hxc := how.2.1
  have hxm := how.2.2.1
  have hac := hls.2.1
  have ham := hls.2.2.1
  have a0 := (R0.out 0 _ rfl).1
  have a1 := (R0.out 1 _ rfl).1
  have la := cell_lt a0
  clear hW0 hs hfo hcl hE hM how hls
  go_enter Tryz.func12, Tryz.ntmps12
  go_upto_region 1 with (fail)
  rw [← HW.out]
  by_cases g1 : 40 < n
  · go_wp2_with fail
    refine (HMK.out _ K0.out).mono ?_
    rintro e w1 ⟨rfl, hk1⟩
    have K1 := Lib.hid (K0.out.trans hk1)
    clear hk1
    go_wp2_with fail
    go_ret
    exact ⟨rfl, K1.out⟩
  by_cases g2 : 20 < p
  · go_wp2_with fail
    refine (HMK.out _ K0.out).mono ?_
    rintro e w1 ⟨rfl, hk1⟩
    have K1 := Lib.hid (K0.out.trans hk1)
    clear hk1
    go_wp2_with fail
    go_ret
    exact ⟨rfl, K1.out⟩
  by_cases g3 : 8 < u
  · go_wp2_with fail
    refine (HMK.out _ K0.out).mono ?_
    rintro e w1 ⟨rfl, hk1⟩
    have K1 := Lib.hid (K0.out.trans hk1)
    clear hk1
    go_wp2_with fail
    go_ret
    exact ⟨rfl, K1.out⟩
  by_cases g4 : 30 < x
  · go_wp2_with fail
    refine (HMK.out _ K0.out).mono ?_
    rintro e w1 ⟨rfl, hk1⟩
    have K1 := Lib.hid (K0.out.trans hk1)
    clear hk1
    go_wp2_with fail
    go_ret
    exact ⟨rfl, K1.out⟩
  by_cases g5 : 20 < a
  · go_wp2_with fail
    refine (HMK.out _ K0.out).mono ?_
    rintro e w1 ⟨rfl, hk1⟩
    have K1 := Lib.hid (K0.out.trans hk1)
    clear hk1
    go_wp2_with fail
    go_ret
    exact ⟨rfl, K1.out⟩
  have HOI := Lib.hid (ia_of HOW.out (by omega))
  have HLI := Lib.hid (ia_of HLS.out (by omega))
  go_upto_region 3 with (fail)
  clear a0 a1 la
  have a0 := (R0.out 0 _ rfl).1
  have a1 := (R0.out 1 _ rfl).1
  have la := cell_lt a0
  clear g1 g3
  -- the four calls
  go_wp2_with fail
  refine (HAS.out _ K0.out).mono ?_
  rintro e w1 ⟨has, hk1⟩
  have K1 := Lib.hid (K0.out.trans hk1)
  have r1 := R0.out.kept hk1
  have R1 := Lib.hid r1
  have HA := Lib.hid has
  clear has hk1 a0 a1 la r1
  have a0 := (R1.out 0 _ rfl).1
  have a1 := (R1.out 1 _ rfl).1
  have la := cell_lt a0
  obtain ⟨E, hEe⟩ : ∃ E, chE ms fs day found cls = E := ⟨_, rfl⟩
  by_cases h0 : E = 0
  rotate_left
  · have hx : chE ms fs day found cls ≠ 0 := by rw [hEe]; exact h0
    obtain rfl : e = .returned (.tuple #[.slice none 0 0, .bool false, .int .i64 E]) := by
      rcases HA.out with ⟨_, h⟩ | ⟨h, _⟩
      · rw [h, hEe]
      · exact absurd h hx
    have HX := Lib.hid hx
    have HEE := Lib.hid hEe
    have e1 : (E != 0) = true := by simpa using h0
    have H0 := Lib.hid h0
    clear hx hEe h0
    go_wp2_with fail
    refine (HST.out _ K1.out).mono ?_
    rintro e w2 ⟨hst, hk2⟩
    have K2 := Lib.hid (K1.out.trans hk2)
    have r2 := R1.out.kept hk2
    have R2 := Lib.hid r2
    clear hk2 r2 a0 a1 la
    have a0 := (R2.out 0 _ rfl).1
    have a1 := (R2.out 1 _ rfl).1
    have la := cell_lt a0
    obtain rfl : e = .returned (.tuple #[.slice none 0 0, .bool false, .int .i64 E]) := by
      rcases hst with ⟨_, h⟩ | ⟨h, _⟩
      · rw [h, HEE.out]
      · exact absurd h HX.out
    clear hst
    go_wp2_with fail
    refine (HME.out _ _ _ _ _ K2.out (HOI.out.kept K2.out) (by omega)).mono ?_
    rintro e w3 ⟨hme, hk3⟩
    have K3 := Lib.hid (K2.out.trans hk3)
    have r3 := R2.out.kept hk3
    have R3 := Lib.hid r3
    clear hk3 r3 a0 a1 la
    have a0 := (R3.out 0 _ rfl).1
    have a1 := (R3.out 1 _ rfl).1
    have la := cell_lt a0
    obtain rfl : e = .returned (.tuple #[.bool false, .int .i64 E]) := by
      rcases hme with ⟨_, h⟩ | ⟨h, _⟩
      · rw [h, HEE.out]
      · exact absurd h HX.out
    clear hme
    go_wp2_with fail
    refine (HCS.out _ _ _ _ _ K3.out (HLI.out.kept K3.out) (by omega)).mono ?_
    rintro e w4 ⟨hcs, hk4⟩
    have K4 := Lib.hid (K3.out.trans hk4)
    clear hk4 a0 a1 la
    obtain rfl : e = .returned (.tuple #[.bool false, .int .i64 E]) := by
      rcases hcs with ⟨_, h⟩ | ⟨h, _⟩
      · rw [h, HEE.out]
      · exact absurd h HX.out
    clear hcs
    go_wp2_with fail
    refine (HMK.out _ K4.out).mono ?_
    rintro e w5 ⟨rfl, hk5⟩
    have K5 := Lib.hid (K4.out.trans hk5)
    clear hk5
    go_wp2_with fail
    go_ret
    exact ⟨rfl, K5.out⟩
  subst h0
  have HEE := Lib.hid hEe
  clear hEe
  rcases HA.out with ⟨h, _⟩ | ⟨_, ⟨hb, ow, rfl, hhas, hfst, hlb⟩ | ⟨rfl, hsh⟩⟩
  · exact absurd HEE.out h
  · -- an assignment
    have HMT := Lib.hid hfst.1
    have HIA := Lib.hid (ia_has hhas (by omega))
    have hpp := hhas.lt
    have HF := Lib.hid (eif_of HEE.out)
    clear hhas hfst hlb hpp
    go_wp2_with fail
    refine (HST.out _ K1.out).mono ?_
    rintro e w2 ⟨hst, hk2⟩
    have K2 := Lib.hid (K1.out.trans hk2)
    have K12 := Lib.hid hk2
    have r2 := R1.out.kept hk2
    have R2 := Lib.hid r2
    clear hk2 r2 a0 a1 la
    have a0 := (R2.out 0 _ rfl).1
    have a1 := (R2.out 1 _ rfl).1
    have la := cell_lt a0
    obtain rfl : e = .returned (.tuple #[.slice none 0 0, .bool false, .int .i64 0]) := by
      rcases hst with ⟨h, _⟩ | ⟨_, ⟨_, h⟩ | ⟨g, n1, c1, P, _, _, _, _, hP, _⟩⟩
      · exact absurd HEE.out h
      · exact h
      · have := met_shB HMT.out HF.out.c41 HF.out.c0 P.2.2
        rw [this] at hP
        cases hP
    clear hst
    go_wp2_with fail
    refine (HME.out _ _ _ _ _ K2.out (HOI.out.kept K2.out) (by omega)).mono ?_
    rintro e w3 ⟨hme, hk3⟩
    have K3 := Lib.hid (K2.out.trans hk3)
    have K13 := Lib.hid (K12.out.trans hk3)
    have r3 := R2.out.kept hk3
    have R3 := Lib.hid r3
    clear hk3 r3 a0 a1 la
    have a0 := (R3.out 0 _ rfl).1
    have a1 := (R3.out 1 _ rfl).1
    have la := cell_lt a0
    obtain ⟨b3, rfl⟩ : ∃ b3, e = .returned (.tuple #[.bool b3, .int .i64 0]) := by
      rcases hme with ⟨h, _⟩ | ⟨_, b3, h, _⟩
      · exact absurd HEE.out h
      · exact ⟨b3, h⟩
    clear hme
    go_wp2_with fail
    refine (HCS.out _ _ _ _ _ K3.out (HLI.out.kept K3.out) (by omega)).mono ?_
    rintro e w4 ⟨hcs, hk4⟩
    have K4 := Lib.hid (K3.out.trans hk4)
    have K14 := Lib.hid (K13.out.trans hk4)
    have r4 := R3.out.kept hk4
    have R4 := Lib.hid r4
    clear hk4 r4 a0 a1 la
    have a0 := (R4.out 0 _ rfl).1
    have a1 := (R4.out 1 _ rfl).1
    have la := cell_lt a0
    obtain rfl : e = .returned (.tuple #[.bool false, .int .i64 0]) := by
      rcases hcs with ⟨h, _⟩ | ⟨_, h⟩
      · exact absurd HEE.out h
      · rw [h, ei_q HEE.out HMT.out]
    clear hcs
    have HM2 := Lib.hid (HME.out w4 _ _ _ _ K4.out (HIA.out.kept K14.out) (by omega))
    cases b3 <;>
    · go_wp2_with fail
      refine HM2.out.mono ?_
      rintro e w5 ⟨hme, hk5⟩
      have K5 := Lib.hid (K4.out.trans hk5)
      clear hk5 a0 a1 la
      obtain rfl : e = .returned (.tuple #[.bool true, .int .i64 0]) := by
        rcases hme with ⟨h, _⟩ | ⟨_, b5, h, hb5⟩
        · exact absurd HEE.out h
        · rw [h, hb5.2 HMT.out]
      clear hme
      go_wp2_with fail
      refine (HMK.out _ K5.out).mono ?_
      rintro e w6 ⟨rfl, hk6⟩
      have K6 := Lib.hid (K5.out.trans hk6)
      clear hk6
      go_wp2_with fail
      go_ret
      exact ⟨rfl, K6.out⟩
  · -- a shortage
    have HSH := Lib.hid hsh
    have HF := Lib.hid (eif_of HEE.out)
    clear hsh
    go_wp2_with fail
    refine (HST.out _ K1.out).mono ?_
    rintro e w2 ⟨hst, hk2⟩
    have K2 := Lib.hid (K1.out.trans hk2)
    have r2 := R1.out.kept hk2
    have R2 := Lib.hid r2
    clear hk2 r2 a0 a1 la
    have a0 := (R2.out 0 _ rfl).1
    have a1 := (R2.out 1 _ rfl).1
    have la := cell_lt a0
    obtain ⟨g, n1, c1, P, rfl, hn1, hrow, hPb⟩ : ∃ (g n1 c1 : Nat) (P : PS (clN cls)), e = .returned (.tuple #[.slice (some ⟨g, 0, none⟩) n1 c1, .bool true, .int .i64 0]) ∧ n1 = (lsI P.1).length ∧ RowC w2 g ((lsI P.1).map (Value.int .i64)) ∧ shB (fitsN ms fs day found cls) (wtL cls) P.1 = true := by
      rcases hst with ⟨h, _⟩ | ⟨_, ⟨h, _⟩ | ⟨g, n1, c1, P, h1, h2, h3, _, hP, _⟩⟩
      · exact absurd HEE.out h
      · obtain ⟨z, hz⟩ := sh_some HSH.out HF.out.c41 HF.out.c0 fitsN_cl
        rw [h z] at hz
        cases hz
      · exact ⟨g, n1, c1, P, h1, h2, h3, hP⟩
    have hn64 : n1 ≤ 64 := by rw [hn1, lsI_len]; exact bitsK_len _ _
    have HPI := Lib.hid (ia_row (c := c1) hrow hn1 (by omega))
    have HPB := Lib.hid hPb
    have HN1 := Lib.hid hn1
    clear hst hrow hPb hn1
    go_wp2_with fail
    refine (HME.out _ _ _ _ _ K2.out (HOI.out.kept K2.out) (by omega)).mono ?_
    rintro e w3 ⟨hme, hk3⟩
    have K3 := Lib.hid (K2.out.trans hk3)
    have K23 := Lib.hid hk3
    have r3 := R2.out.kept hk3
    have R3 := Lib.hid r3
    clear hk3 r3 a0 a1 la
    have a0 := (R3.out 0 _ rfl).1
    have a1 := (R3.out 1 _ rfl).1
    have la := cell_lt a0
    obtain rfl : e = .returned (.tuple #[.bool false, .int .i64 0]) := by
      rcases hme with ⟨h, _⟩ | ⟨_, b3, h, hb3⟩
      · exact absurd HEE.out h
      · cases b3 with
        | false => exact h
        | true => exact absurd HSH.out (met_not_sh (hb3.1 rfl))
    clear hme
    go_wp2_with fail
    refine (HCS.out _ _ _ _ _ K3.out (HLI.out.kept K3.out) (by omega)).mono ?_
    rintro e w4 ⟨hcs, hk4⟩
    have K4 := Lib.hid (K3.out.trans hk4)
    have K24 := Lib.hid (K23.out.trans hk4)
    have r4 := R3.out.kept hk4
    have R4 := Lib.hid r4
    clear hk4 r4 a0 a1 la
    have a0 := (R4.out 0 _ rfl).1
    have a1 := (R4.out 1 _ rfl).1
    have la := cell_lt a0
    obtain ⟨q4, rfl⟩ : ∃ q4, e = .returned (.tuple #[.bool q4, .int .i64 0]) := by
      rcases hcs with ⟨h, _⟩ | ⟨_, h⟩
      · exact absurd HEE.out h
      · exact ⟨_, h⟩
    clear hcs
    have HM2 := Lib.hid (HCS.out w4 _ _ _ _ K4.out (HPI.out.kept K24.out) (by omega))
    cases q4 <;>
    · go_wp2_with fail
      refine HM2.out.mono ?_
      rintro e w5 ⟨hcs, hk5⟩
      have K5 := Lib.hid (K4.out.trans hk5)
      clear hk5 a0 a1 la
      obtain rfl : e = .returned (.tuple #[.bool true, .int .i64 0]) := by
        rcases hcs with ⟨h, _⟩ | ⟨_, h⟩
        · exact absurd HEE.out h
        · rw [h, ls_ok P.2.2 HF.out.c41 HF.out.c0, ls_set (sub_lt P.2.2 HF.out.c41), HPB.out]; rfl
      clear hcs
      go_wp2_with fail
      refine (HMK.out _ K5.out).mono ?_
      rintro e w6 ⟨rfl, hk6⟩
      have K6 := Lib.hid (K5.out.trans hk6)
      clear hk6
      go_wp2_with fail
      go_ret
      exact ⟨rfl, K6.out⟩
end Go.Proofs.YtologmoanaccpaaGreatDoor
