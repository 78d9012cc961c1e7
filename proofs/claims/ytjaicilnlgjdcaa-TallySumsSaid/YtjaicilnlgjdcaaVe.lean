/- TallyExactly -/
import Derived.Test.YtjaicilnlgjdcaaUl
import Derived.Test.YtjaicilnlgjdcaaVd
namespace Go.Proofs.Ytjaicilnlgjdcaa
set_option linter.all false
open Go.RowKit

theorem take_at {P : Program} {ops : Array Oper} {Q : Exit → Act → World → Prop} {md : Region.Mode} {S : World → Prop} {i : Nat} {oi : Oper} {d : Option Tmp} {v : Value} {fuel : Nat} {listed : Array Bool} {a : Act} {w : World} (hi : ops[i]? = some oi) (hd : oi.dst = d)
    (hs : Region.noSelect ops = true) (hf : Region.free md ops listed i = true) (hr : (Region.ready md ops listed).contains i = true)
    (hQ : ∀ c a w, Q (.panic c) (a.put oi.dst v) w → Q (.panic c) a w) (hy : YieldsIf P ops S oi v a) (hS : S w)
    (h : wpAnyH P md ops Q S fuel (listed.setIfInBounds i true) (a.put d v) w) : wpAnyH P md ops Q S (fuel + 1) listed a w := by
  subst hd
  exact wpAnyH_take hi hs hf hr hQ hy hS h
theorem fit_true {m d n c : Int} (h : trOk m d c = true) (h0 : inB n 0 100000 = true) : fitB m d n c = inB c (loI m n) (hiI d n) ∧ fitOk m d n c = true ∧ shOk m d n = true := by
  unfold trOk at h
  rw [Bool.and_eq_true] at h
  have e : fitOk m d n c = true := by simp [fitOk, h.1, h.2, h0]
  exact ⟨by simp [fitB, e], e, by simp [shOk, h.1, h0]⟩

set_option maxRecDepth 100000 in
set_option maxHeartbeats 4000000 in
theorem exactly_any (m d n c : Int) (hn : -9223372036854775808 ≤ n ∧ n ≤ 9223372036854775807) (w : World) :
    Calls Try.prog 9 #[.agg #[.int .i64 m, .int .i64 d], .int .i64 n, .int .i64 c] w fun e w' => e = .returned (.bool true) ∧ Kept w w' := by
  obtain ⟨W0, hW0⟩ : ∃ W0, W0 = w.alloc (.cells #[.int .i64 m, .int .i64 d] 23) := ⟨_, rfl⟩
  have k0 : Kept w W0 := by rw [hW0]; exact (Kept.refl _).alloc _
  have r3 : RowC W0 w.heap.size [.int .i64 m, .int .i64 d] := by rw [hW0]; exact RowC.new w _ 23
  have HW := Lib.hid hW0
  obtain ⟨x, hx⟩ : ∃ x, x = trI m d c := ⟨_, rfl⟩
  obtain ⟨t, ht⟩ : ∃ t, t = trOk m d c := ⟨_, rfl⟩
  have HC : RowKit.Hid (∀ W, Calls Try.prog 24 #[.agg #[.int .i64 m, .int .i64 d], .int .i64 c] W fun e w' => e = .returned (.tuple #[.agg #[.int .i64 x.1, .int .i64 x.2.1, .bool x.2.2], .int .i64 (errI t)]) ∧ Kept W w') := Lib.hid (fun W => by rw [hx, ht]; exact true_any m d c W)
  have hok := tr_ok m d c
  rw [← hx] at hok
  have q0 := (r3 0 _ rfl).1
  have q1 := (r3 1 _ rfl).1
  have R3 := Lib.hid r3
  have K0 := Lib.hid k0
  have HX := Lib.hid hx
  have HT := Lib.hid ht
  clear hW0 r3 k0 hx ht
  cases t
  · -- refused
    have hx0 : x = (0, 0, false) := by
      rw [HX.out, trI, if_neg (by rw [← HT.out]; simp)]
    subst hx0
    dsimp only at HC
    rw [errI_false] at HC
    clear hok
    go_enter Try.func9, Try.ntmps9
    go_wp2_with fail
    rw [← HW.out]
    refine (HC.out _).mono ?_
    rintro e w1 ⟨rfl, hk1⟩
    go_wp2_with fail
    refine (counted_any _).mono ?_
    rintro e w2 ⟨rfl, hk2⟩
    have c0 := ((RowC.new w1 [.int .i64 0, .int .i64 0, .bool false] 34).kept hk2 0 _ rfl).1
    have c1 := ((RowC.new w1 [.int .i64 0, .int .i64 0, .bool false] 34).kept hk2 1 _ rfl).1
    have c2 := ((RowC.new w1 [.int .i64 0, .int .i64 0, .bool false] 34).kept hk2 2 _ rfl).1
    go_wp2
    go_ret
    exact ⟨rfl, (K0.out.trans ((hk1.alloc _).trans hk2))⟩
  · rw [errI_true] at HC
    obtain ⟨lo, hi, so⟩ := x
    dsimp only at HC hok
    have hb : 0 ≤ lo ∧ lo ≤ 100000 ∧ 0 ≤ hi ∧ hi ≤ 100000 := by
      rcases hok with h | h
      · omega
      · cases h; omega
    have hcase : (so = true ∧ lo ≤ hi) ∨ (so = false ∧ lo = 0 ∧ hi = 0) := by
      rcases hok with h | h
      · exact .inl ⟨h.1, by omega⟩
      · cases h; exact .inr ⟨rfl, rfl, rfl⟩
    have hw1 : IntKind.i64.wrap (lo - 1) = lo - 1 := IntWalk.i64_in _ (by omega)
    have hw2 : IntKind.i64.wrap (hi + 1) = hi + 1 := IntWalk.i64_in _ (by omega)
    obtain ⟨hb0, hb1, hb2, hb3⟩ := hb
    have HCA := Lib.hid hcase
    clear hok hcase
    have HIN : RowKit.Hid (∀ y, 0 ≤ y → y ≤ 100000 → inI lo hi so y = inB c (loI m y) (hiI d y)) := Lib.hid (fun y h0 h1 => by
      have := tr_in HT.out.symm h0 h1
      rw [← HX.out] at this; exact this)
    have H58G : RowKit.Hid (∀ y, 0 ≤ y → y ≤ 100000 → ∀ W, Calls Try.prog 58 #[.agg #[.int .i64 lo, .int .i64 hi, .bool so], .int .i64 y] W fun e w' => e = .returned (.bool (inB c (loI m y) (hiI d y))) ∧ Kept W w') := Lib.hid (fun y hy0 hy1 W => (in_any lo hi y so W).mono fun _ _ ⟨he, hk⟩ => ⟨by rw [he, HIN.out y hy0 hy1], hk⟩)
    go_enter Try.func9, Try.ntmps9
    go_wp2_with fail
    rw [← HW.out]
    refine (HC.out _).mono ?_
    rintro e w1 ⟨rfl, hk1⟩
    obtain ⟨W2, hW2⟩ : ∃ W2, W2 = w1.alloc (.cells #[.int .i64 lo, .int .i64 hi, .bool so] 34) := ⟨_, rfl⟩
    have z2 : W2.heap.size = w1.heap.size + 1 := by rw [hW2]; simp
    have k2 : Kept w1 W2 := by rw [hW2]; exact (Kept.refl _).alloc _
    have ri : RowC W2 w1.heap.size [.int .i64 lo, .int .i64 hi, .bool so] := by rw [hW2]; exact RowC.new w1 [.int .i64 lo, .int .i64 hi, .bool so] 34
    have rr : RowC W2 w.heap.size [.int .i64 m, .int .i64 d] := (R3.out.kept hk1).kept k2
    have kW2 : Kept w W2 := (K0.out.trans hk1).trans k2
    have HW2 := Lib.hid hW2
    have RI := Lib.hid ri
    have RR := Lib.hid rr
    have KW2 := Lib.hid kW2
    have Z2 := Lib.hid z2
    have v0 := (ri 0 _ rfl).1
    have v1 := (ri 1 _ rfl).1
    have v2 := (ri 2 _ rfl).1
    clear hW2 z2 k2 ri rr kW2
    go_upto_region 4 with (fail)
    rw [← HW2.out]
    go_cut [58] (fun s58 wx => s58 = .bool false ∧ W2 = wx)
    case first =>
      rcases HCA.out with ⟨rfl, hle⟩ | ⟨rfl, hl0, hh0⟩
      · go_wp2
        all_goals go_meet
        all_goals exact ⟨congrArg Value.bool (by simp; omega), rfl⟩
      · have e1 : (lo == 0) = true := by simp [hl0]
        have e2 : (hi == 0) = true := by simp [hh0]
        clear hl0 hh0
        go_wp2
        all_goals go_meet
        all_goals exact ⟨rfl, rfl⟩
    case rest =>
      obtain ⟨rfl, rfl⟩ := hcut
      clear HCA
      obtain ⟨W3, hW3⟩ : ∃ W3, W3 = W2.alloc (.cells #[.int .i64 n, .int .i64 (lo - 1), .int .i64 lo, .int .i64 hi, .int .i64 (hi + 1)] 3) := ⟨_, rfl⟩
      have k3 : Kept W2 W3 := by rw [hW3]; exact (Kept.refl _).alloc _
      have rn : RowC W3 (w1.heap.size + 1) ([n, lo - 1, lo, hi, hi + 1].map (Value.int .i64)) := by rw [hW3, ← Z2.out]; exact RowC.new W2 _ 3
      have zz : W2.heap.size = w1.heap.size + 1 := Z2.out
      have HW3 := Lib.hid hW3
      have RN := Lib.hid rn
      have RI3 := Lib.hid (RI.out.kept k3)
      have RR3 := Lib.hid (RR.out.kept k3)
      have KW3 := Lib.hid (KW2.out.trans k3)
      have hnw := cell_lt (rn 0 _ rfl).1
      clear hW3 k3 rn zz RI RR KW2
      go_upto_region 7 with (fail)
      rw [← HW3.out, Z2.out]
      go_wp2_with fail
      go_loopw [10] (fun i wr => ∃ k : Nat, k ≤ 5 ∧ i = .int .i64 k ∧ Kept W3 wr) (fun i _ => 5 - (intOf i).toNat)
      case atStart => exact ⟨0, by omega, by first | rfl | go_num, Kept.refl _⟩
      case round =>
        obtain ⟨k, hk, rfl, hkr⟩ := hrel
        by_cases hlt : k < 5
        · obtain ⟨y, hy⟩ : ∃ y, ([n, lo - 1, lo, hi, hi + 1] : List Int)[k]? = some y := ⟨_, List.getElem?_eq_getElem (by simpa using hlt)⟩
          have HCY : RowKit.Hid (∀ W, Kept W3 W → W.cell? ⟨w1.heap.size + 1, k, none⟩ = some (.int .i64 y)) := Lib.hid (fun W hW => ((RN.out.kept hW) k (.int .i64 y) (by rw [List.getElem?_map, hy]; rfl)).1)
          have SB : RowKit.Hid (∀ W, Kept W3 W → W.cell? ⟨w.heap.size, 0, none⟩ = some (.int .i64 m) ∧ W.cell? ⟨w.heap.size, 1, none⟩ = some (.int .i64 d) ∧ W.cell? ⟨w1.heap.size, 0, none⟩ = some (.int .i64 lo) ∧ W.cell? ⟨w1.heap.size, 1, none⟩ = some (.int .i64 hi) ∧ W.cell? ⟨w1.heap.size, 2, none⟩ = some (.bool so) ∧ W.cell? ⟨w1.heap.size + 1, k, none⟩ = some (.int .i64 y) ∧ Kept W3 W) := Lib.hid (fun W hW => ⟨((RR3.out.kept hW) 0 _ rfl).1, ((RR3.out.kept hW) 1 _ rfl).1, ((RI3.out.kept hW) 0 _ rfl).1, ((RI3.out.kept hW) 1 _ rfl).1, ((RI3.out.kept hW) 2 _ rfl).1, HCY.out W hW, hW⟩)
          have SST : RowKit.Hid (∀ W W', (W.cell? ⟨w.heap.size, 0, none⟩ = some (.int .i64 m) ∧ W.cell? ⟨w.heap.size, 1, none⟩ = some (.int .i64 d) ∧ W.cell? ⟨w1.heap.size, 0, none⟩ = some (.int .i64 lo) ∧ W.cell? ⟨w1.heap.size, 1, none⟩ = some (.int .i64 hi) ∧ W.cell? ⟨w1.heap.size, 2, none⟩ = some (.bool so) ∧ W.cell? ⟨w1.heap.size + 1, k, none⟩ = some (.int .i64 y) ∧ Kept W3 W) → Kept W W' → W'.cell? ⟨w.heap.size, 0, none⟩ = some (.int .i64 m) ∧ W'.cell? ⟨w.heap.size, 1, none⟩ = some (.int .i64 d) ∧ W'.cell? ⟨w1.heap.size, 0, none⟩ = some (.int .i64 lo) ∧ W'.cell? ⟨w1.heap.size, 1, none⟩ = some (.int .i64 hi) ∧ W'.cell? ⟨w1.heap.size, 2, none⟩ = some (.bool so) ∧ W'.cell? ⟨w1.heap.size + 1, k, none⟩ = some (.int .i64 y) ∧ Kept W3 W') := Lib.hid (fun W W' h hk => SB.out W' (h.2.2.2.2.2.2.trans hk))
          have hyb : -9223372036854775808 ≤ y ∧ y ≤ 9223372036854775807 := by
            have : y ∈ ([n, lo - 1, lo, hi, hi + 1] : List Int) := List.mem_of_getElem? hy
            simp at this
            omega
          clear hy
          have hcy := HCY.out _ hkr
          have hlk := cell_lt hcy
          have hi0 : (0 : Int) ≤ (k : Int) := by omega
          have hi1 : (k : Int) < 5 := by omega
          rcases hyn : inB y 0 100000 with _ | _
          · have HY := Lib.hid hyn
            clear hyn
            go_wp2_with (go_at_call 57; refine (lnumber_any y _).mono ?_; rintro e w4 ⟨rfl, hw4⟩; obtain rfl : wr = w4 := hw4.symm; rw [HY.out])
            go_roundw
            case rel => exact ⟨k + 1, by omega, by go_num, hkr⟩
            case measure => simp [intOf]; omega
          · have HY := Lib.hid hyn
            obtain ⟨hy0, hy1⟩ := inB_iff.1 hyn
            clear hyn
            have HF := Lib.hid (fit_true (n := y) HT.out.symm HY.out)
            obtain ⟨ft, hft⟩ : ∃ ft, ft = inB c (loI m y) (hiI d y) := ⟨_, rfl⟩
            obtain ⟨lw, hlw⟩ : ∃ lw, lw = loI m y := ⟨_, rfl⟩
            obtain ⟨hg, hhg⟩ : ∃ hg, hg = hiI d y := ⟨_, rfl⟩
            have H16 : RowKit.Hid (∀ W, Calls Try.prog 16 #[.agg #[.int .i64 m, .int .i64 d], .int .i64 y, .int .i64 c] W fun e w' => e = .returned (.tuple #[.bool ft, .int .i64 0]) ∧ Kept W w') := Lib.hid (fun W => (fits16_any m d y c W).mono fun _ _ ⟨he, hk⟩ => ⟨by rw [he, HF.out.1, HF.out.2.1, hft]; rfl, hk⟩)
            have H18 : RowKit.Hid (∀ W, Calls Try.prog 18 #[.agg #[.int .i64 m, .int .i64 d], .int .i64 y] W fun e w' => e = .returned (.tuple #[.int .i64 lw, .int .i64 hg, .int .i64 0]) ∧ Kept W w') := Lib.hid (fun W => (shown_any m d y W).mono fun _ _ ⟨he, hk⟩ => ⟨by rw [he]; unfold shL shH; rw [HF.out.2.2, if_pos rfl, if_pos rfl, hlw, hhg]; rfl, hk⟩)
            have h58 := H58G.out y hy0 hy1
            rw [← hft] at h58
            have H58 := Lib.hid h58
            have HFT := Lib.hid hft
            have HLW := Lib.hid hlw
            have HHG := Lib.hid hhg
            clear h58 hft hlw hhg
            go_wp2_with (go_at_call 57; refine (lnumber_any y _).mono ?_; rintro e w4 ⟨rfl, hw4⟩; obtain rfl : wr = w4 := hw4.symm; rw [HY.out])
            clear hw4
            have SB1 := Lib.hid (SB.out _ hkr.drew)
            go_region_held3 (fun W => W.cell? ⟨w.heap.size, 0, none⟩ = some (.int .i64 m) ∧ W.cell? ⟨w.heap.size, 1, none⟩ = some (.int .i64 d) ∧ W.cell? ⟨w1.heap.size, 0, none⟩ = some (.int .i64 lo) ∧ W.cell? ⟨w1.heap.size, 1, none⟩ = some (.int .i64 hi) ∧ W.cell? ⟨w1.heap.size, 2, none⟩ = some (.bool so) ∧ W.cell? ⟨w1.heap.size + 1, k, none⟩ = some (.int .i64 y) ∧ Kept W3 W) (first | (with_reducible exact SB1.out) | (with_reducible assumption) | (with_reducible refine SST.out _ _ ?_ hkk; assumption) | fail) (first | fail | (go_at_call 16; refine (H16.out _).mono ?_; rintro e w5 ⟨rfl, hkk⟩))
            obtain ⟨p0, p1, s0, s1, s2, hcy, hkr⟩ := ‹_ ∧ _›
            clear SB1
            go_wp2
            have SB1 := Lib.hid (SB.out _ hkr.drew)
            go_region_held3 (fun W => W.cell? ⟨w.heap.size, 0, none⟩ = some (.int .i64 m) ∧ W.cell? ⟨w.heap.size, 1, none⟩ = some (.int .i64 d) ∧ W.cell? ⟨w1.heap.size, 0, none⟩ = some (.int .i64 lo) ∧ W.cell? ⟨w1.heap.size, 1, none⟩ = some (.int .i64 hi) ∧ W.cell? ⟨w1.heap.size, 2, none⟩ = some (.bool so) ∧ W.cell? ⟨w1.heap.size + 1, k, none⟩ = some (.int .i64 y) ∧ Kept W3 W) (first | (with_reducible exact SB1.out) | (with_reducible assumption) | (with_reducible refine SST.out _ _ ?_ hkk; assumption) | fail) (first | fail | (go_at_call 18; refine (H18.out _).mono ?_; rintro e w5 ⟨rfl, hkk⟩))
            obtain ⟨p0, p1, s0, s1, s2, hcy, hkr⟩ := ‹_ ∧ _›
            clear SB1
            go_wp2
            rcases Int.lt_or_le c lw with hcl | hcl
            · have hf0 : ft = false := by rw [HFT.out, inB_not, ← HLW.out]; omega
              subst hf0
              have hd1 : decide (lw ≤ c) = false := by simpa using hcl
              have SB1 := Lib.hid (SB.out _ hkr.drew)
              refine wp_region_held_drew (S := (fun W => W.cell? ⟨w.heap.size, 0, none⟩ = some (.int .i64 m) ∧ W.cell? ⟨w.heap.size, 1, none⟩ = some (.int .i64 d) ∧ W.cell? ⟨w1.heap.size, 0, none⟩ = some (.int .i64 lo) ∧ W.cell? ⟨w1.heap.size, 1, none⟩ = some (.int .i64 hi) ∧ W.cell? ⟨w1.heap.size, 2, none⟩ = some (.bool so) ∧ W.cell? ⟨w1.heap.size + 1, k, none⟩ = some (.int .i64 y) ∧ Kept W3 W)) (by kernel_rfl) (SB1.out) (fun hHeld => ?_)
              refine take_at (i := 0) (d := some 103) (v := ?_) rfl rfl (by kernel_rfl) (by kernel_rfl) (by kernel_rfl) (fun _ _ _ h => h) (Or.inl ⟨by rfl, ?_⟩) hHeld ?_
              rotate_left
              · intro w hSw
                try dsimp only at hSw
                go_simp
                try (with_reducible rfl)
              try simp only [Act.put, List.setIfInBounds_toArray, List.set_cons_zero, List.set_cons_succ]
              refine take_at (i := 1) (d := some 104) (v := ?_) rfl rfl (by kernel_rfl) (by kernel_rfl) (by kernel_rfl) (fun _ _ _ h => h) (Or.inl ⟨by rfl, ?_⟩) hHeld ?_
              rotate_left
              · intro w hSw
                try dsimp only at hSw
                go_simp
                try (with_reducible rfl)
              try simp only [Act.put, List.setIfInBounds_toArray, List.set_cons_zero, List.set_cons_succ]
              refine take_at (i := 2) (d := some 105) (v := ?_) rfl rfl (by kernel_rfl) (by kernel_rfl) (by kernel_rfl) (fun _ _ _ h => h) (Or.inl ⟨by rfl, ?_⟩) hHeld ?_
              rotate_left
              · intro w hSw
                try dsimp only at hSw
                go_simp
                try (with_reducible rfl)
              try simp only [Act.put, List.setIfInBounds_toArray, List.set_cons_zero, List.set_cons_succ]
              refine take_at (i := 3) (d := some 106) (v := ?_) rfl rfl (by kernel_rfl) (by kernel_rfl) (by kernel_rfl) (fun _ _ _ h => h) (Or.inl ⟨by rfl, ?_⟩) hHeld ?_
              rotate_left
              · intro w hSw
                try dsimp only at hSw
                go_simp
                try (with_reducible rfl)
              try simp only [Act.put, List.setIfInBounds_toArray, List.set_cons_zero, List.set_cons_succ]
              refine take_at (i := 4) (d := some 107) (v := ?_) rfl rfl (by kernel_rfl) (by kernel_rfl) (by kernel_rfl) (fun _ _ _ h => h) (Or.inl ⟨by rfl, ?_⟩) hHeld ?_
              rotate_left
              · intro w hSw
                try dsimp only at hSw
                go_simp
                try (with_reducible rfl)
              try simp only [Act.put, List.setIfInBounds_toArray, List.set_cons_zero, List.set_cons_succ]
              refine take_at (i := 5) (d := some 108) (v := ?_) rfl rfl (by kernel_rfl) (by kernel_rfl) (by kernel_rfl) (fun _ _ _ h => h) (Or.inl ⟨by rfl, ?_⟩) hHeld ?_
              rotate_left
              · intro w hSw
                try dsimp only at hSw
                go_simp
                try (with_reducible rfl)
              try simp only [Act.put, List.setIfInBounds_toArray, List.set_cons_zero, List.set_cons_succ]
              refine take_at (i := 6) (d := some 109) (v := ?_) rfl rfl (by kernel_rfl) (by kernel_rfl) (by kernel_rfl) (fun _ _ _ h => h) (Or.inl ⟨by rfl, ?_⟩) hHeld ?_
              rotate_left
              · intro w hSw
                try dsimp only at hSw
                go_simp
                try (with_reducible rfl)
              try simp only [Act.put, List.setIfInBounds_toArray, List.set_cons_zero, List.set_cons_succ]
              refine take_at (i := 7) (d := some 110) (v := ?_) rfl rfl (by kernel_rfl) (by kernel_rfl) (by kernel_rfl) (fun _ _ _ h => h) (Or.inl ⟨by rfl, ?_⟩) hHeld ?_
              rotate_left
              · intro w hSw
                try dsimp only at hSw
                go_simp
                try (with_reducible rfl)
              try simp only [Act.put, List.setIfInBounds_toArray, List.set_cons_zero, List.set_cons_succ]
              refine take_at (i := 8) (d := some 111) (v := ?_) rfl rfl (by kernel_rfl) (by kernel_rfl) (by kernel_rfl) (fun _ _ _ h => h) (Or.inl ⟨by rfl, ?_⟩) hHeld ?_
              rotate_left
              · intro w hSw
                try dsimp only at hSw
                go_simp
                try (with_reducible rfl)
              try simp only [Act.put, List.setIfInBounds_toArray, List.set_cons_zero, List.set_cons_succ]
              refine take_at (i := 9) (d := some 112) (v := ?_) rfl rfl (by kernel_rfl) (by kernel_rfl) (by kernel_rfl) (fun _ _ _ h => h) (Or.inl ⟨by rfl, ?_⟩) hHeld ?_
              rotate_left
              · intro w hSw
                try dsimp only at hSw
                go_simp
                try (with_reducible rfl)
              try simp only [Act.put, List.setIfInBounds_toArray, List.set_cons_zero, List.set_cons_succ]
              refine take_at (i := 10) (d := some 113) (v := ?_) rfl rfl (by kernel_rfl) (by kernel_rfl) (by kernel_rfl) (fun _ _ _ h => h) (Or.inl ⟨by rfl, ?_⟩) hHeld ?_
              rotate_left
              · intro w hSw
                try dsimp only at hSw
                go_simp
                try (with_reducible rfl)
              try simp only [Act.put, List.setIfInBounds_toArray, List.set_cons_zero, List.set_cons_succ]
              refine take_at (i := 11) (d := some 114) (v := ?_) rfl rfl (by kernel_rfl) (by kernel_rfl) (by kernel_rfl) (fun _ _ _ h => h) (Or.inl ⟨by rfl, ?_⟩) hHeld ?_
              rotate_left
              · intro w hSw
                try dsimp only at hSw
                go_simp
                try (with_reducible rfl)
              try simp only [Act.put, List.setIfInBounds_toArray, List.set_cons_zero, List.set_cons_succ]
              refine take_at (i := 12) (d := some 115) (v := ?_) rfl rfl (by kernel_rfl) (by kernel_rfl) (by kernel_rfl) (fun _ _ _ h => h) (Or.inl ⟨by rfl, ?_⟩) hHeld ?_
              rotate_left
              · intro w hSw
                try dsimp only at hSw
                go_simp
                try (with_reducible rfl)
              try simp only [Act.put, List.setIfInBounds_toArray, List.set_cons_zero, List.set_cons_succ]
              refine wpAnyH_ready (rs := [13]) (by kernel_rfl) (by simp) ?_
              refine AllReadyH.cons rfl (fun K hK => ?_) AllReadyH.nil
              rw [if_pos (by rfl)]
              go_simp
              refine (H58.out _).mono ?_
              rintro e w5 ⟨rfl, hkk⟩
              go_wp2_with fail
              refine hK.out _ _ (SST.out _ _ SB1.out hkk) (fun hHeld => ?_)
              clear hK K
              try simp only [Act.put, List.setIfInBounds_toArray, List.set_cons_zero, List.set_cons_succ]
              refine take_at (i := 14) (d := some 117) (v := ?_) rfl rfl (by kernel_rfl) (by kernel_rfl) (by kernel_rfl) (fun _ _ _ h => h) (Or.inl ⟨by rfl, ?_⟩) hHeld ?_
              rotate_left
              · intro w hSw
                try dsimp only at hSw
                go_simp
                try (with_reducible rfl)
              try simp only [Act.put, List.setIfInBounds_toArray, List.set_cons_zero, List.set_cons_succ]
              refine take_at (i := 15) (d := some 118) (v := ?_) rfl rfl (by kernel_rfl) (by kernel_rfl) (by kernel_rfl) (fun _ _ _ h => h) (Or.inl ⟨by rfl, ?_⟩) hHeld ?_
              rotate_left
              · intro w hSw
                try dsimp only at hSw
                go_simp
                try (with_reducible rfl)
              try simp only [Act.put, List.setIfInBounds_toArray, List.set_cons_zero, List.set_cons_succ]
              refine take_at (i := 16) (d := some 119) (v := ?_) rfl rfl (by kernel_rfl) (by kernel_rfl) (by kernel_rfl) (fun _ _ _ h => h) (Or.inl ⟨by rfl, ?_⟩) hHeld ?_
              rotate_left
              · intro w hSw
                try dsimp only at hSw
                go_simp
                try (with_reducible rfl)
              try simp only [Act.put, List.setIfInBounds_toArray, List.set_cons_zero, List.set_cons_succ]
              refine take_at (i := 17) (d := some 120) (v := ?_) rfl rfl (by kernel_rfl) (by kernel_rfl) (by kernel_rfl) (fun _ _ _ h => h) (Or.inl ⟨by rfl, ?_⟩) hHeld ?_
              rotate_left
              · intro w hSw
                try dsimp only at hSw
                go_simp
                try (with_reducible rfl)
              try simp only [Act.put, List.setIfInBounds_toArray, List.set_cons_zero, List.set_cons_succ]
              refine take_at (i := 18) (d := some 121) (v := ?_) rfl rfl (by kernel_rfl) (by kernel_rfl) (by kernel_rfl) (fun _ _ _ h => h) (Or.inl ⟨by rfl, ?_⟩) hHeld ?_
              rotate_left
              · intro w hSw
                try dsimp only at hSw
                go_simp
                try (with_reducible rfl)
              try simp only [Act.put, List.setIfInBounds_toArray, List.set_cons_zero, List.set_cons_succ]
              refine take_at (i := 19) (d := some 122) (v := ?_) rfl rfl (by kernel_rfl) (by kernel_rfl) (by kernel_rfl) (fun _ _ _ h => h) (Or.inl ⟨by rfl, ?_⟩) hHeld ?_
              rotate_left
              · intro w hSw
                try dsimp only at hSw
                go_simp
                try (with_reducible rfl)
              try simp only [Act.put, List.setIfInBounds_toArray, List.set_cons_zero, List.set_cons_succ]
              refine take_at (i := 20) (d := some 123) (v := ?_) rfl rfl (by kernel_rfl) (by kernel_rfl) (by kernel_rfl) (fun _ _ _ h => h) (Or.inl ⟨by rfl, ?_⟩) hHeld ?_
              rotate_left
              · intro w hSw
                try dsimp only at hSw
                go_simp
                try (with_reducible rfl)
              try simp only [Act.put, List.setIfInBounds_toArray, List.set_cons_zero, List.set_cons_succ]
              refine take_at (i := 21) (d := some 124) (v := ?_) rfl rfl (by kernel_rfl) (by kernel_rfl) (by kernel_rfl) (fun _ _ _ h => h) (Or.inl ⟨by rfl, ?_⟩) hHeld ?_
              rotate_left
              · intro w hSw
                try dsimp only at hSw
                go_simp
                try (with_reducible rfl)
              try simp only [Act.put, List.setIfInBounds_toArray, List.set_cons_zero, List.set_cons_succ]
              refine take_at (i := 22) (d := some 125) (v := undef) rfl rfl (by kernel_rfl) (by kernel_rfl) (by kernel_rfl) (fun _ _ _ h => h) (Or.inr ⟨by rfl, rfl⟩) hHeld ?_
              try simp only [Act.put, List.setIfInBounds_toArray, List.set_cons_zero, List.set_cons_succ]
              refine take_at (i := 23) (d := some 126) (v := undef) rfl rfl (by kernel_rfl) (by kernel_rfl) (by kernel_rfl) (fun _ _ _ h => h) (Or.inr ⟨by rfl, rfl⟩) hHeld ?_
              try simp only [Act.put, List.setIfInBounds_toArray, List.set_cons_zero, List.set_cons_succ]
              refine take_at (i := 24) (d := some 127) (v := undef) rfl rfl (by kernel_rfl) (by kernel_rfl) (by kernel_rfl) (fun _ _ _ h => h) (Or.inr ⟨by rfl, rfl⟩) hHeld ?_
              try simp only [Act.put, List.setIfInBounds_toArray, List.set_cons_zero, List.set_cons_succ]
              refine take_at (i := 25) (d := some 128) (v := ?_) rfl rfl (by kernel_rfl) (by kernel_rfl) (by kernel_rfl) (fun _ _ _ h => h) (Or.inl ⟨by rfl, ?_⟩) hHeld ?_
              rotate_left
              · intro w hSw
                try dsimp only at hSw
                go_simp
                try (with_reducible rfl)
              try simp only [Act.put, List.setIfInBounds_toArray, List.set_cons_zero, List.set_cons_succ]
              refine take_at (i := 26) (d := some 129) (v := ?_) rfl rfl (by kernel_rfl) (by kernel_rfl) (by kernel_rfl) (fun _ _ _ h => h) (Or.inl ⟨by rfl, ?_⟩) hHeld ?_
              rotate_left
              · intro w hSw
                try dsimp only at hSw
                go_simp
                try (with_reducible rfl)
              try simp only [Act.put, List.setIfInBounds_toArray, List.set_cons_zero, List.set_cons_succ]
              refine take_at (i := 27) (d := some 130) (v := ?_) rfl rfl (by kernel_rfl) (by kernel_rfl) (by kernel_rfl) (fun _ _ _ h => h) (Or.inl ⟨by rfl, ?_⟩) hHeld ?_
              rotate_left
              · intro w hSw
                try dsimp only at hSw
                go_simp
                try (with_reducible rfl)
              try simp only [Act.put, List.setIfInBounds_toArray, List.set_cons_zero, List.set_cons_succ]
              refine wpAnyH_done (by kernel_rfl) ?_ _
              obtain ⟨p0, p1, s0, s1, s2, hcy, hkr⟩ := hHeld
              go_wp2
              go_roundw
              case rel => exact ⟨k + 1, by omega, by go_num, hkr⟩
              case measure => simp [intOf]; omega
            · have hf0 : ft = decide (c ≤ hg) := by rw [HFT.out, inB, ← HLW.out, ← HHG.out]; simp [hcl]
              subst hf0
              have hd1 : decide (lw ≤ c) = true := by simpa using hcl
              have SB1 := Lib.hid (SB.out _ hkr.drew)
              go_region_held3 (fun W => W.cell? ⟨w.heap.size, 0, none⟩ = some (.int .i64 m) ∧ W.cell? ⟨w.heap.size, 1, none⟩ = some (.int .i64 d) ∧ W.cell? ⟨w1.heap.size, 0, none⟩ = some (.int .i64 lo) ∧ W.cell? ⟨w1.heap.size, 1, none⟩ = some (.int .i64 hi) ∧ W.cell? ⟨w1.heap.size, 2, none⟩ = some (.bool so) ∧ W.cell? ⟨w1.heap.size + 1, k, none⟩ = some (.int .i64 y) ∧ Kept W3 W) (first | (with_reducible exact SB1.out) | (with_reducible assumption) | (with_reducible refine SST.out _ _ ?_ hkk; assumption) | fail) (first | fail | (go_at_call 58; refine (H58.out _).mono ?_; rintro e w5 ⟨rfl, hkk⟩))
              obtain ⟨p0, p1, s0, s1, s2, hcy, hkr⟩ := ‹_ ∧ _›
              clear SB1
              go_wp2
              go_roundw
              case rel => exact ⟨k + 1, by omega, by go_num, hkr⟩
              case measure => simp [intOf]; omega
        · obtain rfl : k = 5 := by omega
          go_wp2_with (go_at_call 30; refine (counted_any _).mono ?_; rintro e w4 ⟨rfl, hk4⟩)
          go_ret
          exact ⟨rfl, (KW3.out.trans hkr).trans hk4⟩
end Go.Proofs.Ytjaicilnlgjdcaa
