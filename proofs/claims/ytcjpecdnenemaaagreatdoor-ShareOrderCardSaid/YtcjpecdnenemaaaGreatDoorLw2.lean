/-
  ShareOrder: the law's own functions.
-/
import Derived.Test.YtcjpecdnenemaaaGreatDoorLw0
import Derived.Test.YtcjpecdnenemaaaGreatDoorFrO
namespace Go.Proofs.YtcjpecdnenemaaaGreatDoor
set_option linter.all false
open Go.RowKit Go.Shelf

theorem normS_vld {n d : Int} (h : vld n d = true) : normS n d = (n, d, 0) := by
  obtain ⟨⟨h1, h2⟩, ⟨h3, h4⟩, _⟩ := vld_iff.1 h
  have hl : lowF n d = some (n, d) := (lowF_iff (vld_pos h)).2 ⟨h, rfl⟩
  unfold normS
  rw [if_neg (by
    intro hh
    rcases hh with hh | hh | hh
    · omega
    · have := inB_iff (n := n) (lo := -1000000000000000) (hi := 1000000000000000); rw [hh] at this; simp at this; omega
    · have := inB_iff (n := d) (lo := -1000000000000000) (hi := 1000000000000000); rw [hh] at this; simp at this; omega), hl]
  rfl
theorem normS_not {n d x y z : Int} (h : vld n d = false) (hr : normS n d = (x, y, z)) (hz : (z == 0) = true) : (x == n && y == d) = false := by
  have hz' := beq_iff_eq.1 hz
  subst hz'
  unfold normS at hr
  split at hr
  · simp at hr
  · have hv := (lowF_some (okL_ok hr)).1
    rcases hb : (x == n && y == d) with _ | _
    · rfl
    · rw [Bool.and_eq_true, beq_iff_eq, beq_iff_eq] at hb
      rw [hb.1, hb.2, h] at hv
      cases hv
set_option maxRecDepth 100000 in
theorem lvalid_any (n d : Int) (w : World) :
    Calls Tryz.prog 77 #[.agg #[.int .i64 n, .int .i64 d]] w fun e w' => e = .returned (.bool (vld n d)) ∧ Kept w w' := by
  have N := fun W => norm_any n d W
  obtain ⟨x, y, z, hr⟩ : ∃ x y z, normS n d = (x, y, z) := ⟨_, _, _, rfl⟩
  simp only [hr] at N
  replace N := Lib.hid N
  have F0 := Lib.hid (show Fx [(w.heap.size, n, d)] (w.alloc (.cells #[.int .i64 n, .int .i64 d] 23)) from (Fx.nil w).new n d)
  have K0 := Lib.hid ((Kept.refl w).alloc (.cells #[.int .i64 n, .int .i64 d] 23))
  rcases hv : vld n d with _ | _
  · rcases hz : (z == 0) with _ | _
    · clear hr
      go_enter Tryz.func77, Tryz.ntmps77
      go_wp2_with fail
      refine (N.out _).mono ?_
      rintro e w1 ⟨rfl, hk⟩
      have F1 := Lib.hid ((F0.out.kept hk).new x y)
      have K1 := Lib.hid ((K0.out.trans hk).alloc (.cells #[.int .i64 x, .int .i64 y] 23))
      have g0 := F1.out.at0 0 rfl
      have g1 := F1.out.at1 0 rfl
      have g2 := F1.out.at0 1 rfl
      have g3 := F1.out.at1 1 rfl
      clear hk
      go_wp2_with fail
      go_ret
      exact ⟨rfl, K1.out⟩
    · have hq := normS_not hv hr hz
      by_cases hxn : x = n
      · subst hxn
        have hyd : ¬ y = d := by
          intro h; subst h; simp at hq
        clear hq
        clear hr
        go_enter Tryz.func77, Tryz.ntmps77
        go_wp2_with fail
        refine (N.out _).mono ?_
        rintro e w1 ⟨rfl, hk⟩
        have F1 := Lib.hid ((F0.out.kept hk).new x y)
        have K1 := Lib.hid ((K0.out.trans hk).alloc (.cells #[.int .i64 x, .int .i64 y] 23))
        have g0 := F1.out.at0 0 rfl
        have g1 := F1.out.at1 0 rfl
        have g2 := F1.out.at0 1 rfl
        have g3 := F1.out.at1 1 rfl
        clear hk
        go_wp2_with fail
        go_ret
        exact ⟨rfl, K1.out⟩
      · clear hq
        clear hr
        go_enter Tryz.func77, Tryz.ntmps77
        go_wp2_with fail
        refine (N.out _).mono ?_
        rintro e w1 ⟨rfl, hk⟩
        have F1 := Lib.hid ((F0.out.kept hk).new x y)
        have K1 := Lib.hid ((K0.out.trans hk).alloc (.cells #[.int .i64 x, .int .i64 y] 23))
        have g0 := F1.out.at0 0 rfl
        have g1 := F1.out.at1 0 rfl
        have g2 := F1.out.at0 1 rfl
        have g3 := F1.out.at1 1 rfl
        clear hk
        go_wp2_with fail
        go_ret
        exact ⟨rfl, K1.out⟩
  · have hn := normS_vld hv
    rw [hr] at hn
    simp only [Prod.mk.injEq] at hn
    obtain ⟨rfl, rfl, rfl⟩ := hn
    clear hr
    go_enter Tryz.func77, Tryz.ntmps77
    go_wp2_with fail
    refine (N.out _).mono ?_
    rintro e w1 ⟨rfl, hk⟩
    have F1 := Lib.hid ((F0.out.kept hk).new x y)
    have K1 := Lib.hid ((K0.out.trans hk).alloc (.cells #[.int .i64 x, .int .i64 y] 23))
    have g0 := F1.out.at0 0 rfl
    have g1 := F1.out.at1 0 rfl
    have g2 := F1.out.at0 1 rfl
    have g3 := F1.out.at1 1 rfl
    clear hk
    go_wp2_with fail
    go_ret
    exact ⟨rfl, K1.out⟩
theorem lwhole_any (k : Int) (w : World) :
    Calls Tryz.prog 78 #[.int .i64 k] w fun e w' => e = .returned (.agg #[.int .i64 k, .int .i64 1]) ∧ Kept w w' := by
  go_enter Tryz.func78, Tryz.ntmps78
  go_wp2
  refine bodyPost_ret (v := .agg #[.int .i64 k, .int .i64 1]) (by simp [results, Tryz.results78, go_sem]) rfl ⟨rfl, ?_⟩
  exact (Kept.refl _).alloc _
end Go.Proofs.YtcjpecdnenemaaaGreatDoor
