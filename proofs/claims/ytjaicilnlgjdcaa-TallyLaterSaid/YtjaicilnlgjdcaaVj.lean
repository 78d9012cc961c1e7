/- TallyLater -/
import Derived.Test.YtjaicilnlgjdcaaUl
import Derived.Test.YtjaicilnlgjdcaaVi
namespace Go.Proofs.Ytjaicilnlgjdcaa
set_option linter.all false
open Go.RowKit

set_option maxRecDepth 100000 in
set_option maxHeartbeats 4000000 in
theorem later_any (m d sh known later : Int) (A : Option Addr) (n c : Nat) (xs : List Rcn) (w : World) (hT : RcA w A n c xs) :
    Calls Try.prog 15 #[.agg #[.int .i64 m, .int .i64 d], .slice A n c, .int .i64 sh, .int .i64 known, .int .i64 later] w fun e w' => e = .returned (.bool true) ∧ Kept w w' := by
  have HT := Lib.hid hT
  have hnc := hT.2.1
  have hcm := hT.2.2.1
  clear hT
  by_cases hn : 30 < n
  · go_enter Try.func15, Try.ntmps15
    go_wp2_with (go_at_call 30; refine (counted_any _).mono ?_; rintro e w1 ⟨rfl, hk⟩)
    go_ret
    exact ⟨rfl, ((Kept.refl _).alloc _).trans hk⟩
  by_cases hl : later < known
  · go_enter Try.func15, Try.ntmps15
    go_wp2_with (go_at_call 30; refine (counted_any _).mono ?_; rintro e w1 ⟨rfl, hk⟩)
    go_ret
    exact ⟨rfl, ((Kept.refl _).alloc _).trans hk⟩
  have hn1 : n ≤ 1000000 := by omega
  have hkl : known ≤ later := by omega
  obtain ⟨am, ad, ae, ha⟩ : ∃ am ad ae, rateI m d xs sh known = (am, ad, ae) := ⟨_, _, _, rfl⟩
  obtain ⟨bm, bd, be, hb⟩ : ∃ bm bd be, rateI m d xs sh later = (bm, bd, be) := ⟨_, _, _, rfl⟩
  have HA : RowKit.Hid (∀ W, Kept w W → Calls Try.prog 49 #[.agg #[.int .i64 m, .int .i64 d], .slice A n c, .int .i64 sh, .int .i64 known] W fun e w' => e = .returned (.tuple #[.agg #[.int .i64 am, .int .i64 ad], .int .i64 ae]) ∧ Kept W w') := Lib.hid (fun W hW => by have := rateOf_any m d sh known A n c xs W (HT.out.kept hW) hn1; rw [ha] at this; exact this)
  have HB : RowKit.Hid (∀ W, Kept w W → Calls Try.prog 49 #[.agg #[.int .i64 m, .int .i64 d], .slice A n c, .int .i64 sh, .int .i64 later] W fun e w' => e = .returned (.tuple #[.agg #[.int .i64 bm, .int .i64 bd], .int .i64 be]) ∧ Kept W w') := Lib.hid (fun W hW => by have := rateOf_any m d sh later A n c xs W (HT.out.kept hW) hn1; rw [hb] at this; exact this)
  have HAV := Lib.hid ha
  have HBV := Lib.hid hb
  clear ha hb
  by_cases h40 : ae = 40
  · have hbe := rate_later hkl (m := m) (d := d) (xs := xs) (sh := sh) (by rw [HAV.out]; exact h40)
    rw [HBV.out] at hbe
    dsimp only at hbe
    subst h40 hbe
    go_enter Try.func15, Try.ntmps15
    go_wp2_with fail
    obtain ⟨V1, hV1⟩ : ∃ V1, V1 = w.alloc (.cells #[.int .i64 m, .int .i64 d] 23) := ⟨_, rfl⟩
    rw [← hV1]
    have kV1 : Kept w V1 := by rw [hV1]; exact (Kept.refl _).alloc _
    have r5V1 : RowKit.Hid (RowC V1 (w.heap.size) [.int .i64 m, .int .i64 d]) := Lib.hid (by rw [hV1]; exact (RowC.new _ _ 23))
    have kwV1 := Lib.hid kV1
    clear hV1 kV1
    have cr50 := (r5V1.out 0 _ rfl).1
    have cr51 := (r5V1.out 1 _ rfl).1
    have lr5 := cell_lt cr50
    refine (HA.out _ kwV1.out).mono ?_
    rintro e u1 ⟨rfl, hk1⟩
    have r5u1 := Lib.hid (r5V1.out.kept hk1)
    clear r5V1
    have kwu1 := Lib.hid (kwV1.out.trans hk1)
    clear hk1
    clear cr50 cr51 lr5
    have cr50 := (r5u1.out 0 _ rfl).1
    have cr51 := (r5u1.out 1 _ rfl).1
    have lr5 := cell_lt cr50
    go_wp2_with fail
    obtain ⟨V2, hV2⟩ : ∃ V2, V2 = u1.alloc (.cells #[.int .i64 am, .int .i64 ad] 23) := ⟨_, rfl⟩
    rw [← hV2]
    have kV2 : Kept u1 V2 := by rw [hV2]; exact (Kept.refl _).alloc _
    have r5V2 := Lib.hid (r5u1.out.kept kV2)
    clear r5u1
    have r11V2 : RowKit.Hid (RowC V2 (u1.heap.size) [.int .i64 am, .int .i64 ad]) := Lib.hid (by rw [hV2]; exact (RowC.new _ _ 23))
    have kwV2 := Lib.hid (kwu1.out.trans kV2)
    clear hV2 kV2
    clear cr50 cr51 lr5
    have cr50 := (r5V2.out 0 _ rfl).1
    have cr51 := (r5V2.out 1 _ rfl).1
    have lr5 := cell_lt cr50
    have cr110 := (r11V2.out 0 _ rfl).1
    have cr111 := (r11V2.out 1 _ rfl).1
    have lr11 := cell_lt cr110
    refine (HB.out _ kwV2.out).mono ?_
    rintro e u2 ⟨rfl, hk2⟩
    have r5u2 := Lib.hid (r5V2.out.kept hk2)
    clear r5V2
    have r11u2 := Lib.hid (r11V2.out.kept hk2)
    clear r11V2
    have kwu2 := Lib.hid (kwV2.out.trans hk2)
    clear hk2
    clear cr50 cr51 lr5 cr110 cr111 lr11
    have cr50 := (r5u2.out 0 _ rfl).1
    have cr51 := (r5u2.out 1 _ rfl).1
    have lr5 := cell_lt cr50
    have cr110 := (r11u2.out 0 _ rfl).1
    have cr111 := (r11u2.out 1 _ rfl).1
    have lr11 := cell_lt cr110
    go_wp2_with fail
    obtain ⟨V3, hV3⟩ : ∃ V3, V3 = u2.alloc (.cells #[.int .i64 bm, .int .i64 bd] 23) := ⟨_, rfl⟩
    rw [← hV3]
    have kV3 : Kept u2 V3 := by rw [hV3]; exact (Kept.refl _).alloc _
    have r5V3 := Lib.hid (r5u2.out.kept kV3)
    clear r5u2
    have r11V3 := Lib.hid (r11u2.out.kept kV3)
    clear r11u2
    have r13V3 : RowKit.Hid (RowC V3 (u2.heap.size) [.int .i64 bm, .int .i64 bd]) := Lib.hid (by rw [hV3]; exact (RowC.new _ _ 23))
    have kwV3 := Lib.hid (kwu2.out.trans kV3)
    clear hV3 kV3
    clear cr50 cr51 lr5 cr110 cr111 lr11
    have cr50 := (r5V3.out 0 _ rfl).1
    have cr51 := (r5V3.out 1 _ rfl).1
    have lr5 := cell_lt cr50
    have cr110 := (r11V3.out 0 _ rfl).1
    have cr111 := (r11V3.out 1 _ rfl).1
    have lr11 := cell_lt cr110
    have cr130 := (r13V3.out 0 _ rfl).1
    have cr131 := (r13V3.out 1 _ rfl).1
    have lr13 := cell_lt cr130
    refine (counted_any _).mono ?_
    rintro e u3 ⟨rfl, hk3⟩
    have r5u3 := Lib.hid (r5V3.out.kept hk3)
    clear r5V3
    have r11u3 := Lib.hid (r11V3.out.kept hk3)
    clear r11V3
    have r13u3 := Lib.hid (r13V3.out.kept hk3)
    clear r13V3
    have kwu3 := Lib.hid (kwV3.out.trans hk3)
    clear hk3
    clear cr50 cr51 lr5 cr110 cr111 lr11 cr130 cr131 lr13
    have cr50 := (r5u3.out 0 _ rfl).1
    have cr51 := (r5u3.out 1 _ rfl).1
    have lr5 := cell_lt cr50
    have cr110 := (r11u3.out 0 _ rfl).1
    have cr111 := (r11u3.out 1 _ rfl).1
    have lr11 := cell_lt cr110
    have cr130 := (r13u3.out 0 _ rfl).1
    have cr131 := (r13u3.out 1 _ rfl).1
    have lr13 := cell_lt cr130
    go_wp2
    go_ret
    exact ⟨rfl, kwu3.out⟩
  · have h40' : (ae == 40) = false := by simpa using h40
    by_cases h0 : ae = 0
    · subst h0
      clear h40 h40'
      by_cases hb0 : be = 0
      · subst hb0
        go_enter Try.func15, Try.ntmps15
        go_wp2_with fail
        obtain ⟨V1, hV1⟩ : ∃ V1, V1 = w.alloc (.cells #[.int .i64 m, .int .i64 d] 23) := ⟨_, rfl⟩
        rw [← hV1]
        have kV1 : Kept w V1 := by rw [hV1]; exact (Kept.refl _).alloc _
        have r5V1 : RowKit.Hid (RowC V1 (w.heap.size) [.int .i64 m, .int .i64 d]) := Lib.hid (by rw [hV1]; exact (RowC.new _ _ 23))
        have kwV1 := Lib.hid kV1
        clear hV1 kV1
        have cr50 := (r5V1.out 0 _ rfl).1
        have cr51 := (r5V1.out 1 _ rfl).1
        have lr5 := cell_lt cr50
        refine (HA.out _ kwV1.out).mono ?_
        rintro e u1 ⟨rfl, hk1⟩
        have r5u1 := Lib.hid (r5V1.out.kept hk1)
        clear r5V1
        have kwu1 := Lib.hid (kwV1.out.trans hk1)
        clear hk1
        clear cr50 cr51 lr5
        have cr50 := (r5u1.out 0 _ rfl).1
        have cr51 := (r5u1.out 1 _ rfl).1
        have lr5 := cell_lt cr50
        go_wp2_with fail
        obtain ⟨V2, hV2⟩ : ∃ V2, V2 = u1.alloc (.cells #[.int .i64 am, .int .i64 ad] 23) := ⟨_, rfl⟩
        rw [← hV2]
        have kV2 : Kept u1 V2 := by rw [hV2]; exact (Kept.refl _).alloc _
        have r5V2 := Lib.hid (r5u1.out.kept kV2)
        clear r5u1
        have r11V2 : RowKit.Hid (RowC V2 (u1.heap.size) [.int .i64 am, .int .i64 ad]) := Lib.hid (by rw [hV2]; exact (RowC.new _ _ 23))
        have kwV2 := Lib.hid (kwu1.out.trans kV2)
        clear hV2 kV2
        clear cr50 cr51 lr5
        have cr50 := (r5V2.out 0 _ rfl).1
        have cr51 := (r5V2.out 1 _ rfl).1
        have lr5 := cell_lt cr50
        have cr110 := (r11V2.out 0 _ rfl).1
        have cr111 := (r11V2.out 1 _ rfl).1
        have lr11 := cell_lt cr110
        refine (HB.out _ kwV2.out).mono ?_
        rintro e u2 ⟨rfl, hk2⟩
        have r5u2 := Lib.hid (r5V2.out.kept hk2)
        clear r5V2
        have r11u2 := Lib.hid (r11V2.out.kept hk2)
        clear r11V2
        have kwu2 := Lib.hid (kwV2.out.trans hk2)
        clear hk2
        clear cr50 cr51 lr5 cr110 cr111 lr11
        have cr50 := (r5u2.out 0 _ rfl).1
        have cr51 := (r5u2.out 1 _ rfl).1
        have lr5 := cell_lt cr50
        have cr110 := (r11u2.out 0 _ rfl).1
        have cr111 := (r11u2.out 1 _ rfl).1
        have lr11 := cell_lt cr110
        go_wp2_with fail
        obtain ⟨V3, hV3⟩ : ∃ V3, V3 = u2.alloc (.cells #[.int .i64 bm, .int .i64 bd] 23) := ⟨_, rfl⟩
        rw [← hV3]
        have kV3 : Kept u2 V3 := by rw [hV3]; exact (Kept.refl _).alloc _
        have r5V3 := Lib.hid (r5u2.out.kept kV3)
        clear r5u2
        have r11V3 := Lib.hid (r11u2.out.kept kV3)
        clear r11u2
        have r13V3 : RowKit.Hid (RowC V3 (u2.heap.size) [.int .i64 bm, .int .i64 bd]) := Lib.hid (by rw [hV3]; exact (RowC.new _ _ 23))
        have kwV3 := Lib.hid (kwu2.out.trans kV3)
        clear hV3 kV3
        clear cr50 cr51 lr5 cr110 cr111 lr11
        have cr50 := (r5V3.out 0 _ rfl).1
        have cr51 := (r5V3.out 1 _ rfl).1
        have lr5 := cell_lt cr50
        have cr110 := (r11V3.out 0 _ rfl).1
        have cr111 := (r11V3.out 1 _ rfl).1
        have lr11 := cell_lt cr110
        have cr130 := (r13V3.out 0 _ rfl).1
        have cr131 := (r13V3.out 1 _ rfl).1
        have lr13 := cell_lt cr130
        go_loopw [15, 16] (fun ob i wr => ∃ k : Nat, k ≤ n ∧ i = .int .i64 k ∧ ob = .bool (anySh (xs.take k) sh) ∧ wr = V3) (fun _ i _ => n - (intOf i).toNat)
        case atStart => exact ⟨0, by omega, by first | rfl | go_num, rfl, rfl⟩
        case round =>
          obtain ⟨k, hk, rfl, rfl, rfl⟩ := hrel
          obtain ⟨ob, hob⟩ : ∃ ob, ob = anySh (xs.take k) sh := ⟨_, rfl⟩
          rw [← hob]
          have HOB := Lib.hid hob
          clear hob
          by_cases hlt : k < n
          · obtain ⟨b, off, hA, htab⟩ := HT.out.2.2.2 (by omega)
            subst hA
            have hxl : k < xs.length := by rw [HT.out.1]; exact hlt
            obtain ⟨x, hx⟩ : ∃ x, xs[k]? = some x := ⟨xs[k]'hxl, List.getElem?_eq_getElem hxl⟩
            obtain ⟨q0, q1, q2, q3, q4, q5⟩ := (htab k x hx).kept kwV3.out
            have HS : RowKit.Hid (anySh (xs.take (k + 1)) sh = (ob || (x.sh == sh))) := Lib.hid (by rw [anySh_snoc hx, HOB.out])
            clear hx htab HOB
            cases ob
            all_goals
              go_wp2
              go_roundw
              case rel => exact ⟨k + 1, by omega, by go_num, by rw [HS.out]; rfl, by first | trivial | rfl⟩
              case measure => simp [intOf]; omega
          · obtain rfl : k = n := by omega
            have HOA : RowKit.Hid (ob = anySh xs sh) := Lib.hid (by rw [HOB.out, List.take_of_length_le (by rw [HT.out.1]; exact Nat.le_refl _)])
            have H55 : RowKit.Hid (∀ W, Calls Try.prog 55 #[.agg #[.int .i64 am, .int .i64 ad], .agg #[.int .i64 bm, .int .i64 bd]] W fun e w' => e = .returned (.bool true) ∧ Kept W w') := Lib.hid (fun W => (narrower_any am ad bm bd W).mono fun _ _ ⟨he, hk⟩ => ⟨by rw [he, rate_nar hkl HAV.out HBV.out], hk⟩)
            clear HOB
            cases ob
            · obtain ⟨e1, e2⟩ := rate_none HAV.out HOA.out.symm
              subst e1 e2
              go_wp2_with fail
              refine (counted_any _).mono ?_
              rintro e u4 ⟨rfl, hk4⟩
              have r5u4 := Lib.hid (r5V3.out.kept hk4)
              clear r5V3
              have r11u4 := Lib.hid (r11V3.out.kept hk4)
              clear r11V3
              have r13u4 := Lib.hid (r13V3.out.kept hk4)
              clear r13V3
              have kwu4 := Lib.hid (kwV3.out.trans hk4)
              clear hk4
              clear cr50 cr51 lr5 cr110 cr111 lr11 cr130 cr131 lr13
              have cr50 := (r5u4.out 0 _ rfl).1
              have cr51 := (r5u4.out 1 _ rfl).1
              have lr5 := cell_lt cr50
              have cr110 := (r11u4.out 0 _ rfl).1
              have cr111 := (r11u4.out 1 _ rfl).1
              have lr11 := cell_lt cr110
              have cr130 := (r13u4.out 0 _ rfl).1
              have cr131 := (r13u4.out 1 _ rfl).1
              have lr13 := cell_lt cr130
              go_wp2_with fail
              obtain ⟨V5, hV5⟩ : ∃ V5, V5 = u4 := ⟨_, rfl⟩
              rw [← hV5]
              have kV5 : Kept u4 V5 := by rw [hV5]; exact Kept.refl _
              have r5V5 := Lib.hid (r5u4.out.kept kV5)
              clear r5u4
              have r11V5 := Lib.hid (r11u4.out.kept kV5)
              clear r11u4
              have r13V5 := Lib.hid (r13u4.out.kept kV5)
              clear r13u4
              have kwV5 := Lib.hid (kwu4.out.trans kV5)
              clear hV5 kV5
              clear cr50 cr51 lr5 cr110 cr111 lr11 cr130 cr131 lr13
              have cr50 := (r5V5.out 0 _ rfl).1
              have cr51 := (r5V5.out 1 _ rfl).1
              have lr5 := cell_lt cr50
              have cr110 := (r11V5.out 0 _ rfl).1
              have cr111 := (r11V5.out 1 _ rfl).1
              have lr11 := cell_lt cr110
              have cr130 := (r13V5.out 0 _ rfl).1
              have cr131 := (r13V5.out 1 _ rfl).1
              have lr13 := cell_lt cr130
              refine (H55.out _).mono ?_
              rintro e u5 ⟨rfl, hk5⟩
              have r5u5 := Lib.hid (r5V5.out.kept hk5)
              clear r5V5
              have r11u5 := Lib.hid (r11V5.out.kept hk5)
              clear r11V5
              have r13u5 := Lib.hid (r13V5.out.kept hk5)
              clear r13V5
              have kwu5 := Lib.hid (kwV5.out.trans hk5)
              clear hk5
              clear cr50 cr51 lr5 cr110 cr111 lr11 cr130 cr131 lr13
              have cr50 := (r5u5.out 0 _ rfl).1
              have cr51 := (r5u5.out 1 _ rfl).1
              have lr5 := cell_lt cr50
              have cr110 := (r11u5.out 0 _ rfl).1
              have cr111 := (r11u5.out 1 _ rfl).1
              have lr11 := cell_lt cr110
              have cr130 := (r13u5.out 0 _ rfl).1
              have cr131 := (r13u5.out 1 _ rfl).1
              have lr13 := cell_lt cr130
              go_wp2
              go_ret
              exact ⟨rfl, kwu5.out⟩
            · go_wp2_with fail
              refine (counted_any _).mono ?_
              rintro e u4 ⟨rfl, hk4⟩
              have r5u4 := Lib.hid (r5V3.out.kept hk4)
              clear r5V3
              have r11u4 := Lib.hid (r11V3.out.kept hk4)
              clear r11V3
              have r13u4 := Lib.hid (r13V3.out.kept hk4)
              clear r13V3
              have kwu4 := Lib.hid (kwV3.out.trans hk4)
              clear hk4
              clear cr50 cr51 lr5 cr110 cr111 lr11 cr130 cr131 lr13
              have cr50 := (r5u4.out 0 _ rfl).1
              have cr51 := (r5u4.out 1 _ rfl).1
              have lr5 := cell_lt cr50
              have cr110 := (r11u4.out 0 _ rfl).1
              have cr111 := (r11u4.out 1 _ rfl).1
              have lr11 := cell_lt cr110
              have cr130 := (r13u4.out 0 _ rfl).1
              have cr131 := (r13u4.out 1 _ rfl).1
              have lr13 := cell_lt cr130
              go_wp2_with fail
              obtain ⟨V5, hV5⟩ : ∃ V5, V5 = u4 := ⟨_, rfl⟩
              rw [← hV5]
              have kV5 : Kept u4 V5 := by rw [hV5]; exact Kept.refl _
              have r5V5 := Lib.hid (r5u4.out.kept kV5)
              clear r5u4
              have r11V5 := Lib.hid (r11u4.out.kept kV5)
              clear r11u4
              have r13V5 := Lib.hid (r13u4.out.kept kV5)
              clear r13u4
              have kwV5 := Lib.hid (kwu4.out.trans kV5)
              clear hV5 kV5
              clear cr50 cr51 lr5 cr110 cr111 lr11 cr130 cr131 lr13
              have cr50 := (r5V5.out 0 _ rfl).1
              have cr51 := (r5V5.out 1 _ rfl).1
              have lr5 := cell_lt cr50
              have cr110 := (r11V5.out 0 _ rfl).1
              have cr111 := (r11V5.out 1 _ rfl).1
              have lr11 := cell_lt cr110
              have cr130 := (r13V5.out 0 _ rfl).1
              have cr131 := (r13V5.out 1 _ rfl).1
              have lr13 := cell_lt cr130
              refine (H55.out _).mono ?_
              rintro e u5 ⟨rfl, hk5⟩
              have r5u5 := Lib.hid (r5V5.out.kept hk5)
              clear r5V5
              have r11u5 := Lib.hid (r11V5.out.kept hk5)
              clear r11V5
              have r13u5 := Lib.hid (r13V5.out.kept hk5)
              clear r13V5
              have kwu5 := Lib.hid (kwV5.out.trans hk5)
              clear hk5
              clear cr50 cr51 lr5 cr110 cr111 lr11 cr130 cr131 lr13
              have cr50 := (r5u5.out 0 _ rfl).1
              have cr51 := (r5u5.out 1 _ rfl).1
              have lr5 := cell_lt cr50
              have cr110 := (r11u5.out 0 _ rfl).1
              have cr111 := (r11u5.out 1 _ rfl).1
              have lr11 := cell_lt cr110
              have cr130 := (r13u5.out 0 _ rfl).1
              have cr131 := (r13u5.out 1 _ rfl).1
              have lr13 := cell_lt cr130
              go_wp2
              go_ret
              exact ⟨rfl, kwu5.out⟩
      · have hb0' : (be != 0) = true := by simpa using hb0
        clear hb0
        go_enter Try.func15, Try.ntmps15
        go_wp2_with fail
        obtain ⟨V1, hV1⟩ : ∃ V1, V1 = w.alloc (.cells #[.int .i64 m, .int .i64 d] 23) := ⟨_, rfl⟩
        rw [← hV1]
        have kV1 : Kept w V1 := by rw [hV1]; exact (Kept.refl _).alloc _
        have r5V1 : RowKit.Hid (RowC V1 (w.heap.size) [.int .i64 m, .int .i64 d]) := Lib.hid (by rw [hV1]; exact (RowC.new _ _ 23))
        have kwV1 := Lib.hid kV1
        clear hV1 kV1
        have cr50 := (r5V1.out 0 _ rfl).1
        have cr51 := (r5V1.out 1 _ rfl).1
        have lr5 := cell_lt cr50
        refine (HA.out _ kwV1.out).mono ?_
        rintro e u1 ⟨rfl, hk1⟩
        have r5u1 := Lib.hid (r5V1.out.kept hk1)
        clear r5V1
        have kwu1 := Lib.hid (kwV1.out.trans hk1)
        clear hk1
        clear cr50 cr51 lr5
        have cr50 := (r5u1.out 0 _ rfl).1
        have cr51 := (r5u1.out 1 _ rfl).1
        have lr5 := cell_lt cr50
        go_wp2_with fail
        obtain ⟨V2, hV2⟩ : ∃ V2, V2 = u1.alloc (.cells #[.int .i64 am, .int .i64 ad] 23) := ⟨_, rfl⟩
        rw [← hV2]
        have kV2 : Kept u1 V2 := by rw [hV2]; exact (Kept.refl _).alloc _
        have r5V2 := Lib.hid (r5u1.out.kept kV2)
        clear r5u1
        have r11V2 : RowKit.Hid (RowC V2 (u1.heap.size) [.int .i64 am, .int .i64 ad]) := Lib.hid (by rw [hV2]; exact (RowC.new _ _ 23))
        have kwV2 := Lib.hid (kwu1.out.trans kV2)
        clear hV2 kV2
        clear cr50 cr51 lr5
        have cr50 := (r5V2.out 0 _ rfl).1
        have cr51 := (r5V2.out 1 _ rfl).1
        have lr5 := cell_lt cr50
        have cr110 := (r11V2.out 0 _ rfl).1
        have cr111 := (r11V2.out 1 _ rfl).1
        have lr11 := cell_lt cr110
        refine (HB.out _ kwV2.out).mono ?_
        rintro e u2 ⟨rfl, hk2⟩
        have r5u2 := Lib.hid (r5V2.out.kept hk2)
        clear r5V2
        have r11u2 := Lib.hid (r11V2.out.kept hk2)
        clear r11V2
        have kwu2 := Lib.hid (kwV2.out.trans hk2)
        clear hk2
        clear cr50 cr51 lr5 cr110 cr111 lr11
        have cr50 := (r5u2.out 0 _ rfl).1
        have cr51 := (r5u2.out 1 _ rfl).1
        have lr5 := cell_lt cr50
        have cr110 := (r11u2.out 0 _ rfl).1
        have cr111 := (r11u2.out 1 _ rfl).1
        have lr11 := cell_lt cr110
        go_wp2_with fail
        obtain ⟨V3, hV3⟩ : ∃ V3, V3 = u2.alloc (.cells #[.int .i64 bm, .int .i64 bd] 23) := ⟨_, rfl⟩
        rw [← hV3]
        have kV3 : Kept u2 V3 := by rw [hV3]; exact (Kept.refl _).alloc _
        have r5V3 := Lib.hid (r5u2.out.kept kV3)
        clear r5u2
        have r11V3 := Lib.hid (r11u2.out.kept kV3)
        clear r11u2
        have r13V3 : RowKit.Hid (RowC V3 (u2.heap.size) [.int .i64 bm, .int .i64 bd]) := Lib.hid (by rw [hV3]; exact (RowC.new _ _ 23))
        have kwV3 := Lib.hid (kwu2.out.trans kV3)
        clear hV3 kV3
        clear cr50 cr51 lr5 cr110 cr111 lr11
        have cr50 := (r5V3.out 0 _ rfl).1
        have cr51 := (r5V3.out 1 _ rfl).1
        have lr5 := cell_lt cr50
        have cr110 := (r11V3.out 0 _ rfl).1
        have cr111 := (r11V3.out 1 _ rfl).1
        have lr11 := cell_lt cr110
        have cr130 := (r13V3.out 0 _ rfl).1
        have cr131 := (r13V3.out 1 _ rfl).1
        have lr13 := cell_lt cr130
        refine (counted_any _).mono ?_
        rintro e u3 ⟨rfl, hk3⟩
        have r5u3 := Lib.hid (r5V3.out.kept hk3)
        clear r5V3
        have r11u3 := Lib.hid (r11V3.out.kept hk3)
        clear r11V3
        have r13u3 := Lib.hid (r13V3.out.kept hk3)
        clear r13V3
        have kwu3 := Lib.hid (kwV3.out.trans hk3)
        clear hk3
        clear cr50 cr51 lr5 cr110 cr111 lr11 cr130 cr131 lr13
        have cr50 := (r5u3.out 0 _ rfl).1
        have cr51 := (r5u3.out 1 _ rfl).1
        have lr5 := cell_lt cr50
        have cr110 := (r11u3.out 0 _ rfl).1
        have cr111 := (r11u3.out 1 _ rfl).1
        have lr11 := cell_lt cr110
        have cr130 := (r13u3.out 0 _ rfl).1
        have cr131 := (r13u3.out 1 _ rfl).1
        have lr13 := cell_lt cr130
        go_wp2
        go_ret
        exact ⟨rfl, kwu3.out⟩
    · have h0' : (ae != 0) = true := by simpa using h0
      clear h0 h40
      go_enter Try.func15, Try.ntmps15
      go_wp2_with fail
      obtain ⟨V1, hV1⟩ : ∃ V1, V1 = w.alloc (.cells #[.int .i64 m, .int .i64 d] 23) := ⟨_, rfl⟩
      rw [← hV1]
      have kV1 : Kept w V1 := by rw [hV1]; exact (Kept.refl _).alloc _
      have r5V1 : RowKit.Hid (RowC V1 (w.heap.size) [.int .i64 m, .int .i64 d]) := Lib.hid (by rw [hV1]; exact (RowC.new _ _ 23))
      have kwV1 := Lib.hid kV1
      clear hV1 kV1
      have cr50 := (r5V1.out 0 _ rfl).1
      have cr51 := (r5V1.out 1 _ rfl).1
      have lr5 := cell_lt cr50
      refine (HA.out _ kwV1.out).mono ?_
      rintro e u1 ⟨rfl, hk1⟩
      have r5u1 := Lib.hid (r5V1.out.kept hk1)
      clear r5V1
      have kwu1 := Lib.hid (kwV1.out.trans hk1)
      clear hk1
      clear cr50 cr51 lr5
      have cr50 := (r5u1.out 0 _ rfl).1
      have cr51 := (r5u1.out 1 _ rfl).1
      have lr5 := cell_lt cr50
      go_wp2_with fail
      obtain ⟨V2, hV2⟩ : ∃ V2, V2 = u1.alloc (.cells #[.int .i64 am, .int .i64 ad] 23) := ⟨_, rfl⟩
      rw [← hV2]
      have kV2 : Kept u1 V2 := by rw [hV2]; exact (Kept.refl _).alloc _
      have r5V2 := Lib.hid (r5u1.out.kept kV2)
      clear r5u1
      have r11V2 : RowKit.Hid (RowC V2 (u1.heap.size) [.int .i64 am, .int .i64 ad]) := Lib.hid (by rw [hV2]; exact (RowC.new _ _ 23))
      have kwV2 := Lib.hid (kwu1.out.trans kV2)
      clear hV2 kV2
      clear cr50 cr51 lr5
      have cr50 := (r5V2.out 0 _ rfl).1
      have cr51 := (r5V2.out 1 _ rfl).1
      have lr5 := cell_lt cr50
      have cr110 := (r11V2.out 0 _ rfl).1
      have cr111 := (r11V2.out 1 _ rfl).1
      have lr11 := cell_lt cr110
      refine (HB.out _ kwV2.out).mono ?_
      rintro e u2 ⟨rfl, hk2⟩
      have r5u2 := Lib.hid (r5V2.out.kept hk2)
      clear r5V2
      have r11u2 := Lib.hid (r11V2.out.kept hk2)
      clear r11V2
      have kwu2 := Lib.hid (kwV2.out.trans hk2)
      clear hk2
      clear cr50 cr51 lr5 cr110 cr111 lr11
      have cr50 := (r5u2.out 0 _ rfl).1
      have cr51 := (r5u2.out 1 _ rfl).1
      have lr5 := cell_lt cr50
      have cr110 := (r11u2.out 0 _ rfl).1
      have cr111 := (r11u2.out 1 _ rfl).1
      have lr11 := cell_lt cr110
      go_wp2_with fail
      obtain ⟨V3, hV3⟩ : ∃ V3, V3 = u2.alloc (.cells #[.int .i64 bm, .int .i64 bd] 23) := ⟨_, rfl⟩
      rw [← hV3]
      have kV3 : Kept u2 V3 := by rw [hV3]; exact (Kept.refl _).alloc _
      have r5V3 := Lib.hid (r5u2.out.kept kV3)
      clear r5u2
      have r11V3 := Lib.hid (r11u2.out.kept kV3)
      clear r11u2
      have r13V3 : RowKit.Hid (RowC V3 (u2.heap.size) [.int .i64 bm, .int .i64 bd]) := Lib.hid (by rw [hV3]; exact (RowC.new _ _ 23))
      have kwV3 := Lib.hid (kwu2.out.trans kV3)
      clear hV3 kV3
      clear cr50 cr51 lr5 cr110 cr111 lr11
      have cr50 := (r5V3.out 0 _ rfl).1
      have cr51 := (r5V3.out 1 _ rfl).1
      have lr5 := cell_lt cr50
      have cr110 := (r11V3.out 0 _ rfl).1
      have cr111 := (r11V3.out 1 _ rfl).1
      have lr11 := cell_lt cr110
      have cr130 := (r13V3.out 0 _ rfl).1
      have cr131 := (r13V3.out 1 _ rfl).1
      have lr13 := cell_lt cr130
      refine (counted_any _).mono ?_
      rintro e u3 ⟨rfl, hk3⟩
      have r5u3 := Lib.hid (r5V3.out.kept hk3)
      clear r5V3
      have r11u3 := Lib.hid (r11V3.out.kept hk3)
      clear r11V3
      have r13u3 := Lib.hid (r13V3.out.kept hk3)
      clear r13V3
      have kwu3 := Lib.hid (kwV3.out.trans hk3)
      clear hk3
      clear cr50 cr51 lr5 cr110 cr111 lr11 cr130 cr131 lr13
      have cr50 := (r5u3.out 0 _ rfl).1
      have cr51 := (r5u3.out 1 _ rfl).1
      have lr5 := cell_lt cr50
      have cr110 := (r11u3.out 0 _ rfl).1
      have cr111 := (r11u3.out 1 _ rfl).1
      have lr11 := cell_lt cr110
      have cr130 := (r13u3.out 0 _ rfl).1
      have cr131 := (r13u3.out 1 _ rfl).1
      have lr13 := cell_lt cr130
      go_wp2
      go_ret
      exact ⟨rfl, kwu3.out⟩
end Go.Proofs.Ytjaicilnlgjdcaa
