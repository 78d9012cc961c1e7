/-
  Records, of the reference.
-/
import Derived.Test.YtcjpecdnenemaaaGreatDoorRn1
import Derived.Test.YtcjpecdnenemaaaGreatDoorFrO
import Derived.Test.YtcjpecdnenemaaaGreatDoorGJ
import Derived.Test.YtcjpecdnenemaaaGreatDoorGJ
namespace Go.Proofs.YtcjpecdnenemaaaGreatDoor
set_option linter.all false
open Go.RowKit

theorem equiv_of {x : Eqv} (ho : x.off = 0) : formB x = (inB x.id 1 1000000 && inB x.kno 0 100000 && (nameB x.sort && vld x.num x.den && inB x.frm 0 100000 && decide (0 < x.num) && decide (x.num ≤ 1000 * x.den))) := by
  have hv : voidB x = false := by
    unfold voidB
    have : inB x.off 1 1000000 = false := by rw [ho]; rfl
    rw [this]; rfl
  unfold formB
  rw [hv, Bool.or_false]
  congr 1
  unfold equivB
  rw [ho]
  rcases h : vld x.num x.den with _ | _
  · simp
  · have hc : decide (cmpS x.num x.den 1000 1 ≤ 0) = decide (x.num ≤ 1000 * x.den) := by
      have h1 : vld 1000 1 = true := by decide
      have e : cmpS x.num x.den 1000 1 = cmpI x.num x.den 1000 1 := by unfold cmpS; rw [h, h1]; rfl
      rw [e, decide_eq_decide, cmp_le]
      omega
    rw [hc]
    rcases nameB x.sort <;> rcases inB x.frm 0 100000 <;> rcases decide (0 < x.num) <;> simp
theorem void_of {x : Eqv} (ho : x.off ≠ 0) : formB x = (inB x.id 1 1000000 && inB x.kno 0 100000 && voidB x) := by
  have he : equivB x = false := by
    unfold equivB
    have : decide (x.off = 0) = false := by simpa using ho
    rw [this]; rfl
  unfold formB
  rw [he, Bool.false_or]
set_option maxRecDepth 100000 in
set_option maxHeartbeats 3200000 in
theorem rformed_any (x : Eqv) (hs : x.sort.size ≤ 9223372036854775807) (w : World) :
    Calls Tryz.prog 107 #[eqV x] w fun e w' => e = .returned (.bool (formB x)) ∧ Kept w w' := by
  obtain ⟨id, frm, kno, sort, num, den, off⟩ := x
  unfold eqV
  dsimp only at hs ⊢
  by_cases ho : off = 0
  · rw [equiv_of (x := ⟨id, frm, kno, sort, num, den, off⟩) ho]
    subst ho
    dsimp only
    have R0 := Lib.hid (RowC.new w [.int .i64 id, .int .i64 frm, .int .i64 kno, .string sort, .int .i64 num, .int .i64 den, .int .i64 0] 37)
    have KK := Lib.hid ((Kept.refl w).alloc (.cells #[.int .i64 id, .int .i64 frm, .int .i64 kno, .string sort, .int .i64 num, .int .i64 den, .int .i64 0] 37))
    rcases h1 : inB id 1 1000000 with _ | _
    · go_enter Tryz.func107, Tryz.ntmps107
      go_wp2_with fail
      refine (rwithin_any _ _ _ _).mono ?_
      rintro e w' ⟨rfl, rfl⟩
      go_wp2_with fail
      go_ret
      exact ⟨ret_bool (by simp_all), KK.out⟩
    · rcases h2 : inB kno 0 100000 with _ | _
      · go_enter Tryz.func107, Tryz.ntmps107
        go_wp2_with fail
        refine (rwithin_any _ _ _ _).mono ?_
        rintro e w' ⟨rfl, rfl⟩
        go_wp2_with fail
        refine (rwithin_any _ _ _ _).mono ?_
        rintro e w' ⟨rfl, rfl⟩
        go_wp2_with fail
        go_ret
        exact ⟨ret_bool (by simp_all), KK.out⟩
      · rcases h3 : nameB sort with _ | _
        · go_enter Tryz.func107, Tryz.ntmps107
          go_wp2_with fail
          refine (rwithin_any _ _ _ _).mono ?_
          rintro e w' ⟨rfl, rfl⟩
          go_wp2_with fail
          refine (rwithin_any _ _ _ _).mono ?_
          rintro e w' ⟨rfl, rfl⟩
          go_wp2_with fail
          refine (rname_any _ hs _).mono ?_
          rintro e w1 ⟨rfl, hk1⟩
          have RR := Lib.hid (R0.out.kept hk1)
          replace KK := Lib.hid (KK.out.trans hk1)
          have c4 := (RR.out 4 _ rfl).1
          have c5 := (RR.out 5 _ rfl).1
          go_wp2_with fail
          refine (rvalid_any _ _ _).mono ?_
          rintro e w2 ⟨rfl, hk2⟩
          replace RR := Lib.hid (RR.out.kept hk2)
          replace KK := Lib.hid (KK.out.trans hk2)
          clear c4 c5
          have c1 := (RR.out 1 _ rfl).1
          have c4 := (RR.out 4 _ rfl).1
          have c5 := (RR.out 5 _ rfl).1
          clear hk1 hk2
          go_wp2_with fail
          go_ret
          exact ⟨ret_bool (by simp_all), KK.out⟩
        · rcases h4 : vld num den with _ | _
          · go_enter Tryz.func107, Tryz.ntmps107
            go_wp2_with fail
            refine (rwithin_any _ _ _ _).mono ?_
            rintro e w' ⟨rfl, rfl⟩
            go_wp2_with fail
            refine (rwithin_any _ _ _ _).mono ?_
            rintro e w' ⟨rfl, rfl⟩
            go_wp2_with fail
            refine (rname_any _ hs _).mono ?_
            rintro e w1 ⟨rfl, hk1⟩
            have RR := Lib.hid (R0.out.kept hk1)
            replace KK := Lib.hid (KK.out.trans hk1)
            have c4 := (RR.out 4 _ rfl).1
            have c5 := (RR.out 5 _ rfl).1
            go_wp2_with fail
            refine (rvalid_any _ _ _).mono ?_
            rintro e w2 ⟨rfl, hk2⟩
            replace RR := Lib.hid (RR.out.kept hk2)
            replace KK := Lib.hid (KK.out.trans hk2)
            clear c4 c5
            have c1 := (RR.out 1 _ rfl).1
            have c4 := (RR.out 4 _ rfl).1
            have c5 := (RR.out 5 _ rfl).1
            clear hk1 hk2
            go_wp2_with fail
            go_ret
            exact ⟨ret_bool (by simp_all), KK.out⟩
          · rcases h35 : inB frm 0 100000 with _ | _
            · go_enter Tryz.func107, Tryz.ntmps107
              go_wp2_with fail
              refine (rwithin_any _ _ _ _).mono ?_
              rintro e w' ⟨rfl, rfl⟩
              go_wp2_with fail
              refine (rwithin_any _ _ _ _).mono ?_
              rintro e w' ⟨rfl, rfl⟩
              go_wp2_with fail
              refine (rname_any _ hs _).mono ?_
              rintro e w1 ⟨rfl, hk1⟩
              have RR := Lib.hid (R0.out.kept hk1)
              replace KK := Lib.hid (KK.out.trans hk1)
              have c4 := (RR.out 4 _ rfl).1
              have c5 := (RR.out 5 _ rfl).1
              go_wp2_with fail
              refine (rvalid_any _ _ _).mono ?_
              rintro e w2 ⟨rfl, hk2⟩
              replace RR := Lib.hid (RR.out.kept hk2)
              replace KK := Lib.hid (KK.out.trans hk2)
              clear c4 c5
              have c1 := (RR.out 1 _ rfl).1
              have c4 := (RR.out 4 _ rfl).1
              have c5 := (RR.out 5 _ rfl).1
              clear hk1 hk2
              go_wp2_with fail
              refine (rwithin_any _ _ _ _).mono ?_
              rintro e w' ⟨rfl, rfl⟩
              go_wp2_with fail
              go_ret
              exact ⟨ret_bool (by simp_all), KK.out⟩
            · rcases h5 : decide (0 < num) with _ | _
              · have g5 : ¬ 0 < num := by simpa using h5
                go_enter Tryz.func107, Tryz.ntmps107
                go_wp2_with fail
                refine (rwithin_any _ _ _ _).mono ?_
                rintro e w' ⟨rfl, rfl⟩
                go_wp2_with fail
                refine (rwithin_any _ _ _ _).mono ?_
                rintro e w' ⟨rfl, rfl⟩
                go_wp2_with fail
                refine (rname_any _ hs _).mono ?_
                rintro e w1 ⟨rfl, hk1⟩
                have RR := Lib.hid (R0.out.kept hk1)
                replace KK := Lib.hid (KK.out.trans hk1)
                have c4 := (RR.out 4 _ rfl).1
                have c5 := (RR.out 5 _ rfl).1
                go_wp2_with fail
                refine (rvalid_any _ _ _).mono ?_
                rintro e w2 ⟨rfl, hk2⟩
                replace RR := Lib.hid (RR.out.kept hk2)
                replace KK := Lib.hid (KK.out.trans hk2)
                clear c4 c5
                have c1 := (RR.out 1 _ rfl).1
                have c4 := (RR.out 4 _ rfl).1
                have c5 := (RR.out 5 _ rfl).1
                clear hk1 hk2
                go_wp2_with fail
                refine (rwithin_any _ _ _ _).mono ?_
                rintro e w' ⟨rfl, rfl⟩
                go_wp2_with fail
                go_ret
                exact ⟨ret_bool (by simp_all), KK.out⟩
              · have g5 : 0 < num := by simpa using h5
                rcases h6 : decide (num ≤ 1000 * den) with _ | _
                · have hw : RowKit.wrap64 (1000 * den) = 1000 * den := by have := (vld_iff.1 h4).1; exact IntWalk.wrap64_in _ (by omega)
                  have g6 : ¬ num ≤ 1000 * den := by simpa using h6
                  go_enter Tryz.func107, Tryz.ntmps107
                  go_wp2_with fail
                  refine (rwithin_any _ _ _ _).mono ?_
                  rintro e w' ⟨rfl, rfl⟩
                  go_wp2_with fail
                  refine (rwithin_any _ _ _ _).mono ?_
                  rintro e w' ⟨rfl, rfl⟩
                  go_wp2_with fail
                  refine (rname_any _ hs _).mono ?_
                  rintro e w1 ⟨rfl, hk1⟩
                  have RR := Lib.hid (R0.out.kept hk1)
                  replace KK := Lib.hid (KK.out.trans hk1)
                  have c4 := (RR.out 4 _ rfl).1
                  have c5 := (RR.out 5 _ rfl).1
                  go_wp2_with fail
                  refine (rvalid_any _ _ _).mono ?_
                  rintro e w2 ⟨rfl, hk2⟩
                  replace RR := Lib.hid (RR.out.kept hk2)
                  replace KK := Lib.hid (KK.out.trans hk2)
                  clear c4 c5
                  have c1 := (RR.out 1 _ rfl).1
                  have c4 := (RR.out 4 _ rfl).1
                  have c5 := (RR.out 5 _ rfl).1
                  clear hk1 hk2
                  go_wp2_with fail
                  refine (rwithin_any _ _ _ _).mono ?_
                  rintro e w' ⟨rfl, rfl⟩
                  go_wp2_with fail
                  go_ret
                  exact ⟨ret_bool (by simp_all), KK.out⟩
                · have hw : RowKit.wrap64 (1000 * den) = 1000 * den := by have := (vld_iff.1 h4).1; exact IntWalk.wrap64_in _ (by omega)
                  have g6 : num ≤ 1000 * den := by simpa using h6
                  go_enter Tryz.func107, Tryz.ntmps107
                  go_wp2_with fail
                  refine (rwithin_any _ _ _ _).mono ?_
                  rintro e w' ⟨rfl, rfl⟩
                  go_wp2_with fail
                  refine (rwithin_any _ _ _ _).mono ?_
                  rintro e w' ⟨rfl, rfl⟩
                  go_wp2_with fail
                  refine (rname_any _ hs _).mono ?_
                  rintro e w1 ⟨rfl, hk1⟩
                  have RR := Lib.hid (R0.out.kept hk1)
                  replace KK := Lib.hid (KK.out.trans hk1)
                  have c4 := (RR.out 4 _ rfl).1
                  have c5 := (RR.out 5 _ rfl).1
                  go_wp2_with fail
                  refine (rvalid_any _ _ _).mono ?_
                  rintro e w2 ⟨rfl, hk2⟩
                  replace RR := Lib.hid (RR.out.kept hk2)
                  replace KK := Lib.hid (KK.out.trans hk2)
                  clear c4 c5
                  have c1 := (RR.out 1 _ rfl).1
                  have c4 := (RR.out 4 _ rfl).1
                  have c5 := (RR.out 5 _ rfl).1
                  clear hk1 hk2
                  go_wp2_with fail
                  refine (rwithin_any _ _ _ _).mono ?_
                  rintro e w' ⟨rfl, rfl⟩
                  go_wp2_with fail
                  go_ret
                  exact ⟨ret_bool (by simp_all), KK.out⟩
  · rw [void_of (x := ⟨id, frm, kno, sort, num, den, off⟩) ho]
    have hob : (off != 0) = true := by simpa using ho
    clear ho
    dsimp only
    have R0 := Lib.hid (RowC.new w [.int .i64 id, .int .i64 frm, .int .i64 kno, .string sort, .int .i64 num, .int .i64 den, .int .i64 off] 37)
    have KK := Lib.hid ((Kept.refl w).alloc (.cells #[.int .i64 id, .int .i64 frm, .int .i64 kno, .string sort, .int .i64 num, .int .i64 den, .int .i64 off] 37))
    rcases h1 : inB id 1 1000000 with _ | _
    · go_enter Tryz.func107, Tryz.ntmps107
      go_wp2_with fail
      refine (rwithin_any _ _ _ _).mono ?_
      rintro e w' ⟨rfl, rfl⟩
      go_wp2_with fail
      go_ret
      exact ⟨ret_bool (by simp_all), KK.out⟩
    · rcases h2 : inB kno 0 100000 with _ | _
      · go_enter Tryz.func107, Tryz.ntmps107
        go_wp2_with fail
        refine (rwithin_any _ _ _ _).mono ?_
        rintro e w' ⟨rfl, rfl⟩
        go_wp2_with fail
        refine (rwithin_any _ _ _ _).mono ?_
        rintro e w' ⟨rfl, rfl⟩
        go_wp2_with fail
        go_ret
        exact ⟨ret_bool (by simp_all), KK.out⟩
      · rcases h3 : inB off 1 1000000 with _ | _
        · go_enter Tryz.func107, Tryz.ntmps107
          go_wp2_with fail
          refine (rwithin_any _ _ _ _).mono ?_
          rintro e w' ⟨rfl, rfl⟩
          go_wp2_with fail
          refine (rwithin_any _ _ _ _).mono ?_
          rintro e w' ⟨rfl, rfl⟩
          go_wp2_with fail
          refine (rwithin_any _ _ _ _).mono ?_
          rintro e w' ⟨rfl, rfl⟩
          go_wp2_with fail
          all_goals (go_ret; exact ⟨ret_bool (by simp_all [voidB]), KK.out⟩)
        · go_enter Tryz.func107, Tryz.ntmps107
          go_wp2_with fail
          refine (rwithin_any _ _ _ _).mono ?_
          rintro e w' ⟨rfl, rfl⟩
          go_wp2_with fail
          refine (rwithin_any _ _ _ _).mono ?_
          rintro e w' ⟨rfl, rfl⟩
          go_wp2_with fail
          refine (rwithin_any _ _ _ _).mono ?_
          rintro e w' ⟨rfl, rfl⟩
          go_wp2_with fail
          all_goals
            go_ret
            refine ⟨ret_bool ?_, by repeat (first | exact Kept.refl _ | refine Kept.alloc ?_ _ | refine Kept.drew ?_ | refine Kept.drewN ?_ _)⟩
            simp_all [voidB]
end Go.Proofs.YtcjpecdnenemaaaGreatDoor
