/-
  the law MarkAssigns
-/
import Derived.Test.YtologmoanaccpaaGreatDoorUy
import Derived.Test.YtologmoanaccpaaGreatDoorUe
import Derived.Test.YtologmoanaccpaaGreatDoorEA
import Derived.Test.YtologmoanaccpaaGreatDoorXZ
import Derived.Test.YtologmoanaccpaaGreatDoorBN
namespace Go.Proofs.YtologmoanaccpaaGreatDoor
set_option linter.all false
open Go.RowKit Go.Shelf

theorem met_sha {ms : List Mk} {fs : List Fd} {day : Int} {found : List Sg} {cls : List Cl} (g : GoodS ms fs found cls) {ow : List Int} (hm : MetA (fitsN ms fs day found cls) (clN cls) (wtL cls) ow) (hs : ShA (fitsN ms fs day found cls) (clN cls) (wtL cls)) : False := by
  obtain ⟨x, hx⟩ := sh_some hs (clN_41 g.hc) (clN_0 g.hc) fitsN_cl
  rw [met_shB hm (clN_41 g.hc) (clN_0 g.hc) x.2.2] at hx
  cases hx
theorem as_fix {A B C D : Option Addr} {n c m d p q u v : Nat} {ms : List Mk} {fs : List Fd} {day : Int} {found : List Sg} {cls : List Cl} {w : World} (hs : SmA w A n c ms B m d fs) (hfo : SlA sgV 6 Sg.ok w C p q found) (hcl : SlA clC 2 Cl.ok w D u v cls) (hE : EnvT w) :
    ∃ (L : List Int) (b : Bool), (∀ W e w', AsP W ms fs day found cls p e w' → ∃ A n c, e = .returned (.tuple #[.slice A n c, .bool b, .int .i64 (chE ms fs day found cls)]) ∧ IntA w' A n c L ∧ Kept W w') ∧ (∀ W e w', RaP W ms fs day found cls e w' → ∃ A n c, e = .returned (.tuple #[.slice A n c, .bool b, .int .i64 (chE ms fs day found cls)]) ∧ IntA w' A n c L ∧ Kept W w') := by
  by_cases h0 : chE ms fs day found cls = 0
  · have g := GoodS.of h0 hs.1.2.2.2.1 hs.2.2.2.2.1 hfo.2.2.2.1
    have hp := (ch_sizes h0).1
    rw [hfo.1] at hp
    rcases hall_at hs hfo hcl hE h0 with ⟨ow, h1⟩ | h1
    · refine ⟨ow, true, fun W e w' h => ?_, fun W e w' h => ?_⟩
      · obtain ⟨⟨h2, _⟩ | ⟨_, ⟨hb, ow', he, hr, hf, _⟩ | ⟨_, h2⟩⟩, hk⟩ := h
        · exact absurd h0 h2
        · obtain rfl := first_one hf h1
          exact ⟨_, _, _, by rw [h0]; exact he, ia_has hr (by omega), hk⟩
        · exact (met_sha g h1.1 h2).elim
      · obtain ⟨⟨h2, _⟩ | ⟨_, ⟨h2, _⟩ | ⟨ow', A', n', c', hf, he, hi⟩⟩, hk⟩ := h
        · exact absurd h0 h2
        · exact (met_sha g h1.1 h2).elim
        · obtain rfl := first_one hf h1
          exact ⟨_, _, _, by rw [h0]; exact he, hi, hk⟩
    · refine ⟨[], false, fun W e w' h => ?_, fun W e w' h => ?_⟩
      · obtain ⟨⟨h2, _⟩ | ⟨_, ⟨hb, ow', he, hr, hf, _⟩ | ⟨he, h2⟩⟩, hk⟩ := h
        · exact absurd h0 h2
        · exact (met_sha g hf.1 h1).elim
        · exact ⟨none, 0, 0, by rw [h0]; exact he, IntA.nil _, hk⟩
      · obtain ⟨⟨h2, _⟩ | ⟨_, ⟨_, he⟩ | ⟨ow', A', n', c', hf, he, hi⟩⟩, hk⟩ := h
        · exact absurd h0 h2
        · exact ⟨none, 0, 0, by rw [h0]; exact he, IntA.nil _, hk⟩
        · exact (met_sha g hf.1 h1).elim
  · refine ⟨[], false, fun W e w' h => ?_, fun W e w' h => ?_⟩
    · obtain ⟨⟨_, he⟩ | ⟨h2, _⟩, hk⟩ := h
      · exact ⟨none, 0, 0, he, IntA.nil _, hk⟩
      · exact absurd h2 h0
    · obtain ⟨⟨_, he⟩ | ⟨h2, _⟩, hk⟩ := h
      · exact ⟨none, 0, 0, he, IntA.nil _, hk⟩
      · exact absurd h2 h0
def meO (ms : List Mk) (fs : List Fd) (day : Int) (found : List Sg) (cls : List Cl) (ows : List Int) : Bool := if chE ms fs day found cls ≠ 0 then false else meR ms fs day found cls ows
theorem MrP.get {w w' : World} {ms : List Mk} {fs : List Fd} {day : Int} {found : List Sg} {cls : List Cl} {ows : List Int} {e : Ending} (h : MrP w ms fs day found cls ows e w') : e = .returned (.tuple #[.bool (meO ms fs day found cls ows), .int .i64 (chE ms fs day found cls)]) ∧ Kept w w' := by
  obtain ⟨⟨h0, he⟩ | ⟨h0, he⟩, hk⟩ := h
  · exact ⟨by unfold meO; rw [if_pos h0]; exact he, hk⟩
  · exact ⟨by unfold meO; rw [if_neg (fun h => h h0), h0]; exact he, hk⟩
theorem MeP.get {w w' : World} {ms : List Mk} {fs : List Fd} {day : Int} {found : List Sg} {cls : List Cl} {ows : List Int} {e : Ending} (hok : ∀ m ∈ ms, m.ok) (hfo : ∀ f ∈ fs, f.ok) (hs : ∀ s ∈ found, s.ok) (h : MeP w ms fs day found cls ows e w') : e = .returned (.tuple #[.bool (meO ms fs day found cls ows), .int .i64 (chE ms fs day found cls)]) ∧ Kept w w' := by
  obtain ⟨⟨h0, he⟩ | ⟨h0, b, he, hb⟩, hk⟩ := h
  · exact ⟨by unfold meO; rw [if_pos h0]; exact he, hk⟩
  · have : b = meR ms fs day found cls ows := by rw [Bool.eq_iff_iff, hb, me_met (GoodS.of h0 hok hfo hs)]
    exact ⟨by unfold meO; rw [if_neg (fun h => h h0), h0, ← this]; exact he, hk⟩
set_option maxRecDepth 100000 in
set_option maxHeartbeats 12800000 in
theorem markAssigns_any (A B C D G : Option Addr) (n c m d p q u v x y : Nat) (ms : List Mk) (fs : List Fd) (day : Int) (found : List Sg) (cls : List Cl) (ows : List Int) (w : World) (hs : SmA w A n c ms B m d fs) (hfo : SlA sgV 6 Sg.ok w C p q found) (hcl : SlA clC 2 Cl.ok w D u v cls) (how : SlA inC 1 i64 w G x y ows) (hE : EnvT w) (hM : EnvM w) :
    Calls Tryz.prog 8 #[.agg #[.slice A n c, .slice B m d], .int .i64 day, .slice C p q, .slice D u v, .slice G x y] w fun e w' => e = .returned (.bool true) ∧ Kept w w' := by
  obtain ⟨W0, hW0⟩ : ∃ W0, W0 = w.alloc (.cells #[.slice A n c, .slice B m d] 25) := ⟨_, rfl⟩
  have K0 : RowKit.Hid (Kept w W0) := Lib.hid (by rw [hW0]; exact (Kept.refl _).alloc _)
  have R0 : RowKit.Hid (RowC W0 w.heap.size [.slice A n c, .slice B m d]) := Lib.hid (by rw [hW0]; exact RowC.new w [.slice A n c, .slice B m d] 25)
  have HW := Lib.hid hW0
  have hok := hs.1.2.2.2.1
  have hfd := hs.2.2.2.2.1
  have hso := hfo.2.2.2.1
  have hxy := how.2.1
  have hym := how.2.2.1
  obtain ⟨L, b1, hga, hgr⟩ := as_fix (day := day) hs hfo hcl hE
  obtain ⟨E, hEe⟩ : ∃ E, chE ms fs day found cls = E := ⟨_, rfl⟩
  obtain ⟨b2, hb2⟩ : ∃ b, meO ms fs day found cls ows = b := ⟨_, rfl⟩
  have HMK : RowKit.Hid (∀ W, Kept w W → Calls Tryz.prog 19 #[] W fun e w' => e = .returned (.bool true) ∧ Kept W w') := Lib.hid (fun W hW => marked_any W (hE.kept hW) (hM.kept hW))
  have H27 : RowKit.Hid (∀ W, Kept w W → Calls Tryz.prog 27 #[.agg #[.slice A n c, .slice B m d], .slice C p q, .slice D u v] W (FewP W)) := Lib.hid (fun W hW => few_any A B C D n c m d p q u v ms fs found cls W (hs.kept hW) (hfo.kept hW) (hcl.kept hW))
  have H49 : RowKit.Hid (∀ W, Kept w W → Calls Tryz.prog 49 #[.agg #[.slice A n c, .slice B m d], .int .i64 day, .slice C p q, .slice D u v] W fun e w' => ∃ A n c, e = .returned (.tuple #[.slice A n c, .bool b1, .int .i64 E]) ∧ IntA w' A n c L ∧ Kept W w') := Lib.hid (fun W hW => (assign_any A B C D n c m d p q u v ms fs day found cls W (hs.kept hW) (hfo.kept hW) (hcl.kept hW) (hE.kept hW)).mono fun e w' h => by have := hga _ _ _ h; rwa [hEe] at this)
  have H50 : RowKit.Hid (∀ W, Kept w W → Calls Tryz.prog 50 #[.agg #[.slice A n c, .slice B m d], .int .i64 day, .slice C p q, .slice D u v] W fun e w' => ∃ A n c, e = .returned (.tuple #[.slice A n c, .bool b1, .int .i64 E]) ∧ IntA w' A n c L ∧ Kept W w') := Lib.hid (fun W hW => (rassign_any A B C D n c m d p q u v ms fs day found cls W (hs.kept hW) (hfo.kept hW) (hcl.kept hW) (hE.kept hW)).mono fun e w' h => by have := hgr _ _ _ h; rwa [hEe] at this)
  have H51 : RowKit.Hid (x ≤ 1000 → ∀ W, Kept w W → Calls Tryz.prog 51 #[.agg #[.slice A n c, .slice B m d], .int .i64 day, .slice C p q, .slice D u v, .slice G x y] W fun e w' => e = .returned (.tuple #[.bool b2, .int .i64 E]) ∧ Kept W w') := Lib.hid (fun hx W hW => (meets_any A B C D G n c m d p q u v x y ms fs day found cls ows W (hs.kept hW) (hfo.kept hW) (hcl.kept hW) (ia_of (how.kept hW) hx) hx (hE.kept hW)).mono fun e w' h => by have := MeP.get hok hfd hso h; rwa [hb2, hEe] at this)
  have H52 : RowKit.Hid (x ≤ 1000 → ∀ W, Kept w W → Calls Tryz.prog 52 #[.agg #[.slice A n c, .slice B m d], .int .i64 day, .slice C p q, .slice D u v, .slice G x y] W fun e w' => e = .returned (.tuple #[.bool b2, .int .i64 E]) ∧ Kept W w') := Lib.hid (fun hx W hW => (rmeets_any A B C D G n c m d p q u v x y ms fs day found cls ows W (hs.kept hW) (hfo.kept hW) (hcl.kept hW) (ia_of (how.kept hW) hx) hx).mono fun e w' h => by have := MrP.get h; rwa [hb2, hEe] at this)
  have hpc := hfo.2.1
  have hpm := hfo.2.2.1
  have huc := hcl.2.1
  have hum := hcl.2.2.1
  have a0 := (R0.out 0 _ rfl).1
  have a1 := (R0.out 1 _ rfl).1
  have la := cell_lt a0
  clear hW0 hs hE hM hok hfd hso hga hgr hEe hb2 hfo hcl how
  by_cases hx20 : 70 < x
  · go_enter Tryz.func8, Tryz.ntmps8
    go_upto_region 1 with (fail)
    rw [← HW.out]
    go_wp2_with fail
    refine (H27.out _ K0.out).mono ?_
    rintro e w1 ⟨⟨b, rfl⟩, hk1⟩
    have K1 := Lib.hid (K0.out.trans hk1)
    clear hk1 a0 a1 la
    cases b with
    | false =>
      go_wp2_with fail
      refine (HMK.out _ K1.out).mono ?_
      rintro e w2 ⟨rfl, hk2⟩
      have K2 := Lib.hid (K1.out.trans hk2)
      clear hk2
      go_wp2_with fail
      go_ret
      exact ⟨rfl, K2.out⟩
    | true =>
      go_wp2_with fail
      refine (HMK.out _ K1.out).mono ?_
      rintro e w2 ⟨rfl, hk2⟩
      have K2 := Lib.hid (K1.out.trans hk2)
      clear hk2
      go_wp2_with fail
      go_ret
      exact ⟨rfl, K2.out⟩
  have J51 := Lib.hid (H51.out (by omega))
  have J52 := Lib.hid (H52.out (by omega))
  go_enter Tryz.func8, Tryz.ntmps8
  go_upto_region 1 with (fail)
  rw [← HW.out]
  go_wp2_with fail
  refine (H27.out _ K0.out).mono ?_
  rintro e w1 ⟨⟨b, rfl⟩, hk1⟩
  have K1 := Lib.hid (K0.out.trans hk1)
  have R1 := Lib.hid (R0.out.kept hk1)
  clear hk1 a0 a1 la
  cases b with
  | false =>
    go_wp2_with fail
    refine (HMK.out _ K1.out).mono ?_
    rintro e w2 ⟨rfl, hk2⟩
    have K2 := Lib.hid (K1.out.trans hk2)
    clear hk2
    go_wp2_with fail
    go_ret
    exact ⟨rfl, K2.out⟩
  | true =>
    have a0 := (R1.out 0 _ rfl).1
    have a1 := (R1.out 1 _ rfl).1
    have la := cell_lt a0
    go_wp2_with fail
    refine (H49.out _ K1.out).mono ?_
    rintro e w2 ⟨A1, n1, c1, rfl, hia1, hk2⟩
    have IA1 := Lib.hid hia1
    have K2 := Lib.hid (K1.out.trans hk2)
    have R2 := Lib.hid (R1.out.kept hk2)
    clear hk2 hia1 a0 a1 la
    have a0 := (R2.out 0 _ rfl).1
    have a1 := (R2.out 1 _ rfl).1
    have la := cell_lt a0
    go_wp2_with fail
    refine (H50.out _ K2.out).mono ?_
    rintro e w3 ⟨A2, n2, c2, rfl, hia2, hk3⟩
    have IA2 := Lib.hid hia2
    have JA1 := Lib.hid (IA1.out.kept hk3)
    have K3 := Lib.hid (K2.out.trans hk3)
    have R3 := Lib.hid (R2.out.kept hk3)
    clear hk3 hia2 a0 a1 la
    have a0 := (R3.out 0 _ rfl).1
    have a1 := (R3.out 1 _ rfl).1
    have la := cell_lt a0
    go_wp2_with fail
    refine (J51.out _ K3.out).mono ?_
    rintro e w4 ⟨rfl, hk4⟩
    have JA2 := Lib.hid (IA2.out.kept hk4)
    have JB1 := Lib.hid (JA1.out.kept hk4)
    have K4 := Lib.hid (K3.out.trans hk4)
    have R4 := Lib.hid (R3.out.kept hk4)
    clear hk4 a0 a1 la
    have a0 := (R4.out 0 _ rfl).1
    have a1 := (R4.out 1 _ rfl).1
    have la := cell_lt a0
    go_wp2_with fail
    refine (J52.out _ K4.out).mono ?_
    rintro e w5 ⟨rfl, hk5⟩
    have JB2 := Lib.hid (JA2.out.kept hk5)
    have JC1 := Lib.hid (JB1.out.kept hk5)
    have K5 := Lib.hid (K4.out.trans hk5)
    clear hk5 a0 a1 la
    have q1 : (b1 == b1) = true := by simp
    have q2 : (E == E) = true := by simp
    have q3 : (b2 == b2) = true := by simp
    go_wp2_with fail
    refine (HMK.out _ K5.out).mono ?_
    rintro e w6 ⟨rfl, hk6⟩
    have K6 := Lib.hid (K5.out.trans hk6)
    have HSI := Lib.hid (sameInts_any A1 n1 c1 L A2 n2 c2 L w6 (JC1.out.kept hk6) (JB2.out.kept hk6))
    clear hk6
    go_wp2_with fail
    refine HSI.out.mono ?_
    rintro e w7 ⟨rfl, hk7⟩
    have K7 := Lib.hid (K6.out.trans hk7)
    clear hk7
    have q4 : sameB L L = true := by unfold sameB; simp
    rw [q4]
    go_wp2_with fail
    go_ret
    exact ⟨rfl, K7.out⟩
end Go.Proofs.YtologmoanaccpaaGreatDoor
