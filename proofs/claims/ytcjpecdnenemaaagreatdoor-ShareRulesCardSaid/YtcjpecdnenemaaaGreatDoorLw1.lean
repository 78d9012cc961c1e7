/-
  ShareRules: the law's function returns true, whatever its arguments.
-/
import Derived.Test.YtcjpecdnenemaaaGreatDoorLw0
namespace Go.Proofs.YtcjpecdnenemaaaGreatDoor
set_option linter.all false
open Go.RowKit Go.Shelf

set_option maxRecDepth 100000 in
set_option maxHeartbeats 1600000 in
theorem rules_any (an ad bn bd cn cd : Int) (hb1 : -9223372036854775808 ≤ bn) (hb2 : bn ≤ 9223372036854775807) (w : World) (hE : Env w) :
    Calls Tryz.prog 11 #[.agg #[.int .i64 an, .int .i64 ad], .agg #[.int .i64 bn, .int .i64 bd], .agg #[.int .i64 cn, .int .i64 cd]] w fun e w' => e = .returned (.bool true) ∧ Kept w w' := by
  obtain ⟨x0, x1, x2, hx⟩ : ∃ a b c, addS an ad bn bd = (a, b, c) := ⟨_, _, _, rfl⟩
  obtain ⟨z0, z1, z2, hz⟩ : ∃ a b c, mulS an ad bn bd = (a, b, c) := ⟨_, _, _, rfl⟩
  obtain ⟨s0, s1, s2, hs⟩ : ∃ a b c, addS bn bd cn cd = (a, b, c) := ⟨_, _, _, rfl⟩
  obtain ⟨t0, t1, t2, ht⟩ : ∃ a b c, mulS an ad s0 s1 = (a, b, c) := ⟨_, _, _, rfl⟩
  obtain ⟨v0, v1, v2, hv⟩ : ∃ a b c, mulS an ad cn cd = (a, b, c) := ⟨_, _, _, rfl⟩
  obtain ⟨q0, q1, q2, hq⟩ : ∃ a b c, addS z0 z1 v0 v1 = (a, b, c) := ⟨_, _, _, rfl⟩
  have A1 := fun W => add_any an ad bn bd W
  have A2 := fun W => add_any bn bd an ad W
  have M1 := fun W => mul_any an ad bn bd W
  have M2 := fun W => mul_any bn bd an ad W
  have U1 := fun W => lsum_any bn bd cn cd W
  have U2 := fun W => lprod_any an ad s0 s1 W
  have U3 := fun W => lprod_any an ad bn bd W
  have U4 := fun W => lprod_any an ad cn cd W
  have U5 := fun W => lsum_any z0 z1 v0 v1 W
  rw [← addS_comm an ad bn bd] at A2
  rw [← mulS_comm an ad bn bd] at M2
  simp only [hx, hz, hs, ht, hv, hq] at A1 A2 M1 M2 U1 U2 U3 U4 U5
  replace A1 := Lib.hid A1
  replace A2 := Lib.hid A2
  replace M1 := Lib.hid M1
  replace M2 := Lib.hid M2
  replace U1 := Lib.hid U1
  replace U2 := Lib.hid U2
  replace U3 := Lib.hid U3
  replace U4 := Lib.hid U4
  replace U5 := Lib.hid U5
  have HX := Lib.hid hx
  have HZ := Lib.hid hz
  have HS := Lib.hid hs
  have HT := Lib.hid ht
  have HV := Lib.hid hv
  have HQ := Lib.hid hq
  have HE := Lib.hid hE
  have F0 := Lib.hid (Fx.three w an ad bn bd cn cd)
  have K0 := Lib.hid ((((Kept.refl w).alloc (.cells #[.int .i64 an, .int .i64 ad] 23)).alloc (.cells #[.int .i64 bn, .int .i64 bd] 23)).alloc (.cells #[.int .i64 cn, .int .i64 cd] 23))
  clear hx hz hs ht hv hq hE
  go_enter Tryz.func11, Tryz.ntmps11
  go_wp2_with fail
  refine (A1.out _).mono ?_
  rintro e w1 ⟨rfl, hk⟩
  have F1 := Lib.hid ((F0.out.kept hk).new x0 x1)
  have K1 := Lib.hid ((K0.out.trans hk).alloc (.cells #[.int .i64 x0, .int .i64 x1] 23))
  clear hk F0 K0
  have g00 := F1.out.at0 0 rfl
  have g01 := F1.out.at1 0 rfl
  have g10 := F1.out.at0 1 rfl
  have g11 := F1.out.at1 1 rfl
  go_wp2_with fail
  refine (A2.out _).mono ?_
  rintro e w2 ⟨rfl, hk⟩
  have F2 := Lib.hid ((F1.out.kept hk).new x0 x1)
  have K2 := Lib.hid ((K1.out.trans hk).alloc (.cells #[.int .i64 x0, .int .i64 x1] 23))
  clear hk F1 K1
  clear g00 g01 g10 g11
  have g00 := F2.out.at0 0 rfl
  have g01 := F2.out.at1 0 rfl
  have g10 := F2.out.at0 1 rfl
  have g11 := F2.out.at1 1 rfl
  go_wp2_with fail
  refine (M1.out _).mono ?_
  rintro e w3 ⟨rfl, hk⟩
  have F3 := Lib.hid ((F2.out.kept hk).new z0 z1)
  have K3 := Lib.hid ((K2.out.trans hk).alloc (.cells #[.int .i64 z0, .int .i64 z1] 23))
  clear hk F2 K2
  clear g00 g01 g10 g11
  have g00 := F3.out.at0 0 rfl
  have g01 := F3.out.at1 0 rfl
  have g10 := F3.out.at0 1 rfl
  have g11 := F3.out.at1 1 rfl
  go_wp2_with fail
  refine (M2.out _).mono ?_
  rintro e w4 ⟨rfl, hk⟩
  have F4 := Lib.hid ((F3.out.kept hk).new z0 z1)
  have K4 := Lib.hid ((K3.out.trans hk).alloc (.cells #[.int .i64 z0, .int .i64 z1] 23))
  clear hk F3 K3
  clear g00 g01 g10 g11
  have g00 := F4.out.at0 0 rfl
  have g01 := F4.out.at1 0 rfl
  have g10 := F4.out.at0 1 rfl
  have g11 := F4.out.at1 1 rfl
  have g20 := F4.out.at0 2 rfl
  have g21 := F4.out.at1 2 rfl
  have g30 := F4.out.at0 3 rfl
  have g31 := F4.out.at1 3 rfl
  have g40 := F4.out.at0 4 rfl
  have g41 := F4.out.at1 4 rfl
  have g50 := F4.out.at0 5 rfl
  have g51 := F4.out.at1 5 rfl
  have g60 := F4.out.at0 6 rfl
  have g61 := F4.out.at1 6 rfl
  by_cases hx2 : (x2 == 0) = true
  · go_wp2_with fail
    have C1 := sub_add (show addS an ad bn bd = (x0, x1, 0) by rw [HX.out, beq_iff_eq.1 hx2])
    have C2 := fun W => sub_any x0 x1 bn bd W
    rw [C1] at C2
    replace C2 := Lib.hid C2
    refine (C2.out _).mono ?_
    rintro e w5 ⟨rfl, hk⟩
    have F5 := Lib.hid ((F4.out.kept hk).new an ad)
    have K5 := Lib.hid ((K4.out.trans hk).alloc (.cells #[.int .i64 an, .int .i64 ad] 23))
    clear hk F4 K4 C1
    clear g00 g01 g10 g11 g20 g21 g30 g31 g40 g41 g50 g51 g60 g61
    have g00 := F5.out.at0 0 rfl
    have g01 := F5.out.at1 0 rfl
    have g10 := F5.out.at0 1 rfl
    have g11 := F5.out.at1 1 rfl
    have g20 := F5.out.at0 2 rfl
    have g21 := F5.out.at1 2 rfl
    have g70 := F5.out.at0 7 rfl
    have g71 := F5.out.at1 7 rfl
    go_wp2_with fail
    refine (U1.out _).mono ?_
    rintro e w6 ⟨rfl, hk⟩
    have F6 := Lib.hid ((F5.out.kept hk).new s0 s1)
    have K6 := Lib.hid ((K5.out.trans hk).alloc (.cells #[.int .i64 s0, .int .i64 s1] 23))
    clear hk F5 K5
    clear g00 g01 g10 g11 g20 g21 g70 g71
    have g00 := F6.out.at0 0 rfl
    have g01 := F6.out.at1 0 rfl
    have g80 := F6.out.at0 8 rfl
    have g81 := F6.out.at1 8 rfl
    go_wp2_with fail
    refine (U2.out _).mono ?_
    rintro e w7 ⟨rfl, hk⟩
    have F7 := Lib.hid ((F6.out.kept hk).new t0 t1)
    have K7 := Lib.hid ((K6.out.trans hk).alloc (.cells #[.int .i64 t0, .int .i64 t1] 23))
    clear hk F6 K6
    clear g00 g01 g80 g81
    have g00 := F7.out.at0 0 rfl
    have g01 := F7.out.at1 0 rfl
    have g10 := F7.out.at0 1 rfl
    have g11 := F7.out.at1 1 rfl
    go_wp2_with fail
    refine (U3.out _).mono ?_
    rintro e w8 ⟨rfl, hk⟩
    have F8 := Lib.hid ((F7.out.kept hk).new z0 z1)
    have K8 := Lib.hid ((K7.out.trans hk).alloc (.cells #[.int .i64 z0, .int .i64 z1] 23))
    clear hk F7 K7
    clear g00 g01 g10 g11
    have g00 := F8.out.at0 0 rfl
    have g01 := F8.out.at1 0 rfl
    have g20 := F8.out.at0 2 rfl
    have g21 := F8.out.at1 2 rfl
    go_wp2_with fail
    refine (U4.out _).mono ?_
    rintro e w9 ⟨rfl, hk⟩
    have F9 := Lib.hid ((F8.out.kept hk).new v0 v1)
    have K9 := Lib.hid ((K8.out.trans hk).alloc (.cells #[.int .i64 v0, .int .i64 v1] 23))
    clear hk F8 K8
    clear g00 g01 g20 g21
    have g100 := F9.out.at0 10 rfl
    have g101 := F9.out.at1 10 rfl
    have g110 := F9.out.at0 11 rfl
    have g111 := F9.out.at1 11 rfl
    go_wp2_with fail
    refine (U5.out _).mono ?_
    rintro e w10 ⟨rfl, hk⟩
    have F10 := Lib.hid ((F9.out.kept hk).new q0 q1)
    have K10 := Lib.hid ((K9.out.trans hk).alloc (.cells #[.int .i64 q0, .int .i64 q1] 23))
    clear hk F9 K9
    clear g100 g101 g110 g111
    go_wp2_with fail
    refine (alive_any _ (HE.out.kept K10.out)).mono ?_
    rintro e w11 ⟨rfl, hk⟩
    have F11 := Lib.hid (F10.out.kept hk)
    have K11 := Lib.hid (K10.out.trans hk)
    clear hk F10 K10
    have g90 := F11.out.at0 9 rfl
    have g91 := F11.out.at1 9 rfl
    have g120 := F11.out.at0 12 rfl
    have g121 := F11.out.at1 12 rfl
    rcases Bool.eq_false_or_eq_true (s2 == 0) with o1 | o1
    rotate_left
    · go_wp2_with fail
      go_ret
      exact ⟨rfl, K11.out⟩
    rcases Bool.eq_false_or_eq_true (t2 == 0) with o2 | o2
    rotate_left
    · go_wp2_with fail
      go_ret
      exact ⟨rfl, K11.out⟩
    rcases Bool.eq_false_or_eq_true (z2 == 0) with o3 | o3
    rotate_left
    · go_wp2_with fail
      go_ret
      exact ⟨rfl, K11.out⟩
    rcases Bool.eq_false_or_eq_true (v2 == 0) with o4 | o4
    rotate_left
    · go_wp2_with fail
      go_ret
      exact ⟨rfl, K11.out⟩
    rcases Bool.eq_false_or_eq_true (q2 == 0) with o5 | o5
    rotate_left
    · go_wp2_with fail
      go_ret
      exact ⟨rfl, K11.out⟩
    have E := mul_add (by rw [HS.out, beq_iff_eq.1 o1]) (by rw [HT.out, beq_iff_eq.1 o2]) (by rw [HZ.out, beq_iff_eq.1 o3]) (by rw [HV.out, beq_iff_eq.1 o4]) (by rw [HQ.out, beq_iff_eq.1 o5])
    obtain ⟨rfl, rfl⟩ := E
    go_wp2_with fail
    go_ret
    exact ⟨rfl, K11.out⟩
  · go_wp2_with fail
    refine (U1.out _).mono ?_
    rintro e w5 ⟨rfl, hk⟩
    have F5 := Lib.hid ((F4.out.kept hk).new s0 s1)
    have K5 := Lib.hid ((K4.out.trans hk).alloc (.cells #[.int .i64 s0, .int .i64 s1] 23))
    clear hk F4 K4
    clear g00 g01 g10 g11 g20 g21 g30 g31 g40 g41 g50 g51 g60 g61
    have g00 := F5.out.at0 0 rfl
    have g01 := F5.out.at1 0 rfl
    have g70 := F5.out.at0 7 rfl
    have g71 := F5.out.at1 7 rfl
    go_wp2_with fail
    refine (U2.out _).mono ?_
    rintro e w6 ⟨rfl, hk⟩
    have F6 := Lib.hid ((F5.out.kept hk).new t0 t1)
    have K6 := Lib.hid ((K5.out.trans hk).alloc (.cells #[.int .i64 t0, .int .i64 t1] 23))
    clear hk F5 K5
    clear g00 g01 g70 g71
    have g00 := F6.out.at0 0 rfl
    have g01 := F6.out.at1 0 rfl
    have g10 := F6.out.at0 1 rfl
    have g11 := F6.out.at1 1 rfl
    go_wp2_with fail
    refine (U3.out _).mono ?_
    rintro e w7 ⟨rfl, hk⟩
    have F7 := Lib.hid ((F6.out.kept hk).new z0 z1)
    have K7 := Lib.hid ((K6.out.trans hk).alloc (.cells #[.int .i64 z0, .int .i64 z1] 23))
    clear hk F6 K6
    clear g00 g01 g10 g11
    have g00 := F7.out.at0 0 rfl
    have g01 := F7.out.at1 0 rfl
    have g20 := F7.out.at0 2 rfl
    have g21 := F7.out.at1 2 rfl
    go_wp2_with fail
    refine (U4.out _).mono ?_
    rintro e w8 ⟨rfl, hk⟩
    have F8 := Lib.hid ((F7.out.kept hk).new v0 v1)
    have K8 := Lib.hid ((K7.out.trans hk).alloc (.cells #[.int .i64 v0, .int .i64 v1] 23))
    clear hk F7 K7
    clear g00 g01 g20 g21
    have g90 := F8.out.at0 9 rfl
    have g91 := F8.out.at1 9 rfl
    have g100 := F8.out.at0 10 rfl
    have g101 := F8.out.at1 10 rfl
    go_wp2_with fail
    refine (U5.out _).mono ?_
    rintro e w9 ⟨rfl, hk⟩
    have F9 := Lib.hid ((F8.out.kept hk).new q0 q1)
    have K9 := Lib.hid ((K8.out.trans hk).alloc (.cells #[.int .i64 q0, .int .i64 q1] 23))
    clear hk F8 K8
    clear g90 g91 g100 g101
    go_wp2_with fail
    refine (alive_any _ (HE.out.kept K9.out)).mono ?_
    rintro e w10 ⟨rfl, hk⟩
    have F10 := Lib.hid (F9.out.kept hk)
    have K10 := Lib.hid (K9.out.trans hk)
    clear hk F9 K9
    have g80 := F10.out.at0 8 rfl
    have g81 := F10.out.at1 8 rfl
    have g110 := F10.out.at0 11 rfl
    have g111 := F10.out.at1 11 rfl
    rcases Bool.eq_false_or_eq_true (s2 == 0) with o1 | o1
    rotate_left
    · go_wp2_with fail
      go_ret
      exact ⟨rfl, K10.out⟩
    rcases Bool.eq_false_or_eq_true (t2 == 0) with o2 | o2
    rotate_left
    · go_wp2_with fail
      go_ret
      exact ⟨rfl, K10.out⟩
    rcases Bool.eq_false_or_eq_true (z2 == 0) with o3 | o3
    rotate_left
    · go_wp2_with fail
      go_ret
      exact ⟨rfl, K10.out⟩
    rcases Bool.eq_false_or_eq_true (v2 == 0) with o4 | o4
    rotate_left
    · go_wp2_with fail
      go_ret
      exact ⟨rfl, K10.out⟩
    rcases Bool.eq_false_or_eq_true (q2 == 0) with o5 | o5
    rotate_left
    · go_wp2_with fail
      go_ret
      exact ⟨rfl, K10.out⟩
    have E := mul_add (by rw [HS.out, beq_iff_eq.1 o1]) (by rw [HT.out, beq_iff_eq.1 o2]) (by rw [HZ.out, beq_iff_eq.1 o3]) (by rw [HV.out, beq_iff_eq.1 o4]) (by rw [HQ.out, beq_iff_eq.1 o5])
    obtain ⟨rfl, rfl⟩ := E
    go_wp2_with fail
    go_ret
    exact ⟨rfl, K10.out⟩
end Go.Proofs.YtcjpecdnenemaaaGreatDoor
