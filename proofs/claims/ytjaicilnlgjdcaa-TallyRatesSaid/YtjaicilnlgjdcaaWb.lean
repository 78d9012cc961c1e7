/- the reference's CheckRecounts -/
import Derived.Test.YtjaicilnlgjdcaaWa
import Derived.Test.YtjaicilnlgjdcaaVe
import Derived.Test.YtjaicilnlgjdcaaVt
namespace Go.Proofs.Ytjaicilnlgjdcaa
set_option linter.all false
open Go.RowKit Go.Shelf

theorem rcB_id {x : Rcn} (h : rcB x = true) : 0 < x.id ∧ 0 ≤ x.kn := by
  unfold rcB recountB entryB at h
  simp only [Bool.and_eq_true, inB_iff, List.all_cons, List.all_nil] at h
  omega

set_option maxRecDepth 100000 in
set_option maxHeartbeats 4000000 in
theorem rcheckRecounts_any (A : Option Addr) (n c : Nat) (xs : List Rcn) (w : World) (hT : RcA w A n c xs) (hlt : n ≤ 1000000) :
    Calls Try.prog 45 #[.slice A n c] w fun e w' => e = .returned (.tuple #[.int .i64 (crI xs).1, .int .i64 (crI xs).2]) ∧ Kept w w' := by
  have HT := Lib.hid hT
  have hnc := hT.2.1
  have hcm := hT.2.2.1
  clear hT
  go_enter Try.func45, Try.ntmps45
  go_wp2_with fail
  go_loopw [4] (fun i wr => ∃ k : Nat, k ≤ n ∧ k ≤ 200 ∧ i = .int .i64 k ∧ Kept w wr ∧ ((k = 0 ∧ crI xs = crFrom 0 0 0 xs) ∨ ∃ j y, k = j + 1 ∧ xs[j]? = some y ∧ crI xs = crFrom (j + 1) y.id y.kn (xs.drop (j + 1)))) (fun i _ => n - (intOf i).toNat)
  case atStart => exact ⟨0, by omega, by omega, by first | rfl | go_num, Kept.refl _, .inl ⟨rfl, rfl⟩⟩
  case round =>
    obtain ⟨k, hk, hk2, rfl, hkr, hrest⟩ := hrel
    have HKR := Lib.hid hkr
    have HREST := Lib.hid hrest
    clear hrest
    by_cases hlt2 : k < n
    · obtain ⟨b, off, hA, htab⟩ := HT.out.2.2.2 (by omega)
      subst hA
      have hxl : k < xs.length := by rw [HT.out.1]; exact hlt2
      obtain ⟨x, hx⟩ : ∃ x, xs[k]? = some x := ⟨xs[k]'hxl, List.getElem?_eq_getElem hxl⟩
      have HX := Lib.hid hx
      obtain ⟨q0, q1, q2, q3, q4, q5⟩ := (htab k x hx).kept hkr
      have HTAB := Lib.hid htab
      clear htab hx
      have hi0 : (0 : Int) ≤ (k : Int) := by omega
      have hi1 : (k : Int) < (n : Int) := by omega
      by_cases h200 : 200 ≤ k
      · have HS : RowKit.Hid (crI xs = ((k : Int), 2)) := Lib.hid (by
          rcases HREST.out with ⟨h0, _⟩ | ⟨j, y, rfl, _, he⟩
          · omega
          · rw [he, drop_at HX.out, crFrom, if_pos (by omega)])
        clear hkr
        go_wp2
        go_ret2
        exact ⟨(ret_pr HS.out).symm, HKR.out⟩
      rcases hrb : rcB x with _ | _
      · have HS : RowKit.Hid (crI xs = ((k : Int), 1)) := Lib.hid (by
          rcases HREST.out with ⟨rfl, he⟩ | ⟨j, y, rfl, _, he⟩
          · rw [he, show xs = x :: xs.drop 1 from drop_at HX.out]; simp [crFrom, hrb]
          · rw [he, drop_at HX.out, crFrom, if_neg (by omega), if_pos (.inl hrb)])
        have HR92 : RowKit.Hid (∀ W, Calls Try.prog 92 #[.agg #[.int .i64 x.id, .int .i64 x.dy, .int .i64 x.kn, .int .i64 x.sh, .int .i64 x.tr, .int .i64 x.nu]] W fun e w' => e = .returned (.int .i64 1) ∧ Kept W w') := Lib.hid (fun W => by
          have := rrecount_any x.id x.dy x.kn x.sh x.tr x.nu W
          rwa [show recountB x.id x.dy x.kn x.sh x.tr x.nu = false from hrb, errI_false] at this)
        clear hrb hkr
        have SB : RowKit.Hid (∀ W, Kept wr W → W.cell? ⟨b, off + k * 6, none⟩ = some (.int .i64 x.id) ∧ W.cell? ⟨b, off + k * 6 + 1, none⟩ = some (.int .i64 x.dy) ∧ W.cell? ⟨b, off + k * 6 + 2, none⟩ = some (.int .i64 x.kn) ∧ W.cell? ⟨b, off + k * 6 + 3, none⟩ = some (.int .i64 x.sh) ∧ W.cell? ⟨b, off + k * 6 + 4, none⟩ = some (.int .i64 x.tr) ∧ W.cell? ⟨b, off + k * 6 + 5, none⟩ = some (.int .i64 x.nu) ∧ Kept wr W) := Lib.hid (fun W hW => ⟨(hW.cells _ _ (cell_lt q0)).trans q0, (hW.cells _ _ (cell_lt q1)).trans q1, (hW.cells _ _ (cell_lt q2)).trans q2, (hW.cells _ _ (cell_lt q3)).trans q3, (hW.cells _ _ (cell_lt q4)).trans q4, (hW.cells _ _ (cell_lt q5)).trans q5, hW⟩)
        have SST : RowKit.Hid (∀ W W', (W.cell? ⟨b, off + k * 6, none⟩ = some (.int .i64 x.id) ∧ W.cell? ⟨b, off + k * 6 + 1, none⟩ = some (.int .i64 x.dy) ∧ W.cell? ⟨b, off + k * 6 + 2, none⟩ = some (.int .i64 x.kn) ∧ W.cell? ⟨b, off + k * 6 + 3, none⟩ = some (.int .i64 x.sh) ∧ W.cell? ⟨b, off + k * 6 + 4, none⟩ = some (.int .i64 x.tr) ∧ W.cell? ⟨b, off + k * 6 + 5, none⟩ = some (.int .i64 x.nu) ∧ Kept wr W) → Kept W W' → W'.cell? ⟨b, off + k * 6, none⟩ = some (.int .i64 x.id) ∧ W'.cell? ⟨b, off + k * 6 + 1, none⟩ = some (.int .i64 x.dy) ∧ W'.cell? ⟨b, off + k * 6 + 2, none⟩ = some (.int .i64 x.kn) ∧ W'.cell? ⟨b, off + k * 6 + 3, none⟩ = some (.int .i64 x.sh) ∧ W'.cell? ⟨b, off + k * 6 + 4, none⟩ = some (.int .i64 x.tr) ∧ W'.cell? ⟨b, off + k * 6 + 5, none⟩ = some (.int .i64 x.nu) ∧ Kept wr W') := Lib.hid (fun W W' h hk => SB.out W' (h.2.2.2.2.2.2.trans hk))
        have SB1 := Lib.hid (SB.out _ ((Kept.refl _).drew))
        go_upto_region 6 with (fail)
        refine wp_region_held_drew (S := (fun W => W.cell? ⟨b, off + k * 6, none⟩ = some (.int .i64 x.id) ∧ W.cell? ⟨b, off + k * 6 + 1, none⟩ = some (.int .i64 x.dy) ∧ W.cell? ⟨b, off + k * 6 + 2, none⟩ = some (.int .i64 x.kn) ∧ W.cell? ⟨b, off + k * 6 + 3, none⟩ = some (.int .i64 x.sh) ∧ W.cell? ⟨b, off + k * 6 + 4, none⟩ = some (.int .i64 x.tr) ∧ W.cell? ⟨b, off + k * 6 + 5, none⟩ = some (.int .i64 x.nu) ∧ Kept wr W)) (by kernel_rfl) (SB1.out) (fun hHeld => ?_)
        refine take_at (i := 0) (d := some 14) (v := ?_) rfl rfl (by kernel_rfl) (by kernel_rfl) (by kernel_rfl) (fun _ _ _ h => h) (Or.inl ⟨by rfl, ?_⟩) hHeld ?_
        rotate_left
        · intro w hSw
          try dsimp only at hSw
          go_simp
          try (with_reducible rfl)
        try simp only [Act.put, List.setIfInBounds_toArray, List.set_cons_zero, List.set_cons_succ]
        refine take_at (i := 1) (d := some 15) (v := ?_) rfl rfl (by kernel_rfl) (by kernel_rfl) (by kernel_rfl) (fun _ _ _ h => h) (Or.inl ⟨by rfl, ?_⟩) hHeld ?_
        rotate_left
        · intro w hSw
          try dsimp only at hSw
          go_simp
          try (with_reducible rfl)
        try simp only [Act.put, List.setIfInBounds_toArray, List.set_cons_zero, List.set_cons_succ]
        refine take_at (i := 2) (d := some 16) (v := ?_) rfl rfl (by kernel_rfl) (by kernel_rfl) (by kernel_rfl) (fun _ _ _ h => h) (Or.inl ⟨by rfl, ?_⟩) hHeld ?_
        rotate_left
        · intro w hSw
          try dsimp only at hSw
          go_simp
          try (with_reducible rfl)
        try simp only [Act.put, List.setIfInBounds_toArray, List.set_cons_zero, List.set_cons_succ]
        refine take_at (i := 3) (d := some 17) (v := ?_) rfl rfl (by kernel_rfl) (by kernel_rfl) (by kernel_rfl) (fun _ _ _ h => h) (Or.inl ⟨by rfl, ?_⟩) hHeld ?_
        rotate_left
        · intro w hSw
          try dsimp only at hSw
          go_simp
          try (with_reducible rfl)
        try simp only [Act.put, List.setIfInBounds_toArray, List.set_cons_zero, List.set_cons_succ]
        refine wpAnyH_ready (rs := [4]) (by kernel_rfl) (by simp) ?_
        refine AllReadyH.cons rfl (fun K hK => ?_) AllReadyH.nil
        rw [if_pos (by rfl)]
        go_simp
        refine (HR92.out _).mono ?_
        rintro e w5 ⟨rfl, hkk⟩
        go_wp2_with fail
        refine hK.out _ _ (SST.out _ _ SB1.out hkk) (fun hHeld => ?_)
        clear hK K
        try simp only [Act.put, List.setIfInBounds_toArray, List.set_cons_zero, List.set_cons_succ]
        refine take_at (i := 5) (d := some 19) (v := ?_) rfl rfl (by kernel_rfl) (by kernel_rfl) (by kernel_rfl) (fun _ _ _ h => h) (Or.inl ⟨by rfl, ?_⟩) hHeld ?_
        rotate_left
        · intro w hSw
          try dsimp only at hSw
          go_simp
          try (with_reducible rfl)
        try simp only [Act.put, List.setIfInBounds_toArray, List.set_cons_zero, List.set_cons_succ]
        refine take_at (i := 6) (d := some 20) (v := ?_) rfl rfl (by kernel_rfl) (by kernel_rfl) (by kernel_rfl) (fun _ _ _ h => h) (Or.inl ⟨by rfl, ?_⟩) hHeld ?_
        rotate_left
        · intro w hSw
          try dsimp only at hSw
          go_simp
          try (with_reducible rfl)
        try simp only [Act.put, List.setIfInBounds_toArray, List.set_cons_zero, List.set_cons_succ]
        refine take_at (i := 7) (d := some 21) (v := undef) rfl rfl (by kernel_rfl) (by kernel_rfl) (by kernel_rfl) (fun _ _ _ h => h) (Or.inr ⟨by rfl, rfl⟩) hHeld ?_
        try simp only [Act.put, List.setIfInBounds_toArray, List.set_cons_zero, List.set_cons_succ]
        refine take_at (i := 8) (d := some 22) (v := undef) rfl rfl (by kernel_rfl) (by kernel_rfl) (by kernel_rfl) (fun _ _ _ h => h) (Or.inr ⟨by rfl, rfl⟩) hHeld ?_
        try simp only [Act.put, List.setIfInBounds_toArray, List.set_cons_zero, List.set_cons_succ]
        refine take_at (i := 9) (d := some 23) (v := undef) rfl rfl (by kernel_rfl) (by kernel_rfl) (by kernel_rfl) (fun _ _ _ h => h) (Or.inr ⟨by rfl, rfl⟩) hHeld ?_
        try simp only [Act.put, List.setIfInBounds_toArray, List.set_cons_zero, List.set_cons_succ]
        refine take_at (i := 10) (d := some 24) (v := undef) rfl rfl (by kernel_rfl) (by kernel_rfl) (by kernel_rfl) (fun _ _ _ h => h) (Or.inr ⟨by rfl, rfl⟩) hHeld ?_
        try simp only [Act.put, List.setIfInBounds_toArray, List.set_cons_zero, List.set_cons_succ]
        refine take_at (i := 11) (d := some 25) (v := undef) rfl rfl (by kernel_rfl) (by kernel_rfl) (by kernel_rfl) (fun _ _ _ h => h) (Or.inr ⟨by rfl, rfl⟩) hHeld ?_
        try simp only [Act.put, List.setIfInBounds_toArray, List.set_cons_zero, List.set_cons_succ]
        refine take_at (i := 12) (d := some 26) (v := undef) rfl rfl (by kernel_rfl) (by kernel_rfl) (by kernel_rfl) (fun _ _ _ h => h) (Or.inr ⟨by rfl, rfl⟩) hHeld ?_
        try simp only [Act.put, List.setIfInBounds_toArray, List.set_cons_zero, List.set_cons_succ]
        refine take_at (i := 13) (d := some 27) (v := undef) rfl rfl (by kernel_rfl) (by kernel_rfl) (by kernel_rfl) (fun _ _ _ h => h) (Or.inr ⟨by rfl, rfl⟩) hHeld ?_
        try simp only [Act.put, List.setIfInBounds_toArray, List.set_cons_zero, List.set_cons_succ]
        refine take_at (i := 14) (d := some 28) (v := undef) rfl rfl (by kernel_rfl) (by kernel_rfl) (by kernel_rfl) (fun _ _ _ h => h) (Or.inr ⟨by rfl, rfl⟩) hHeld ?_
        try simp only [Act.put, List.setIfInBounds_toArray, List.set_cons_zero, List.set_cons_succ]
        refine take_at (i := 15) (d := some 29) (v := undef) rfl rfl (by kernel_rfl) (by kernel_rfl) (by kernel_rfl) (fun _ _ _ h => h) (Or.inr ⟨by rfl, rfl⟩) hHeld ?_
        try simp only [Act.put, List.setIfInBounds_toArray, List.set_cons_zero, List.set_cons_succ]
        refine take_at (i := 16) (d := some 30) (v := undef) rfl rfl (by kernel_rfl) (by kernel_rfl) (by kernel_rfl) (fun _ _ _ h => h) (Or.inr ⟨by rfl, rfl⟩) hHeld ?_
        try simp only [Act.put, List.setIfInBounds_toArray, List.set_cons_zero, List.set_cons_succ]
        refine take_at (i := 17) (d := some 31) (v := undef) rfl rfl (by kernel_rfl) (by kernel_rfl) (by kernel_rfl) (fun _ _ _ h => h) (Or.inr ⟨by rfl, rfl⟩) hHeld ?_
        try simp only [Act.put, List.setIfInBounds_toArray, List.set_cons_zero, List.set_cons_succ]
        refine take_at (i := 18) (d := some 32) (v := undef) rfl rfl (by kernel_rfl) (by kernel_rfl) (by kernel_rfl) (fun _ _ _ h => h) (Or.inr ⟨by rfl, rfl⟩) hHeld ?_
        try simp only [Act.put, List.setIfInBounds_toArray, List.set_cons_zero, List.set_cons_succ]
        refine take_at (i := 19) (d := some 33) (v := undef) rfl rfl (by kernel_rfl) (by kernel_rfl) (by kernel_rfl) (fun _ _ _ h => h) (Or.inr ⟨by rfl, rfl⟩) hHeld ?_
        try simp only [Act.put, List.setIfInBounds_toArray, List.set_cons_zero, List.set_cons_succ]
        refine take_at (i := 20) (d := some 34) (v := undef) rfl rfl (by kernel_rfl) (by kernel_rfl) (by kernel_rfl) (fun _ _ _ h => h) (Or.inr ⟨by rfl, rfl⟩) hHeld ?_
        try simp only [Act.put, List.setIfInBounds_toArray, List.set_cons_zero, List.set_cons_succ]
        refine take_at (i := 21) (d := some 35) (v := undef) rfl rfl (by kernel_rfl) (by kernel_rfl) (by kernel_rfl) (fun _ _ _ h => h) (Or.inr ⟨by rfl, rfl⟩) hHeld ?_
        try simp only [Act.put, List.setIfInBounds_toArray, List.set_cons_zero, List.set_cons_succ]
        refine take_at (i := 22) (d := some 36) (v := undef) rfl rfl (by kernel_rfl) (by kernel_rfl) (by kernel_rfl) (fun _ _ _ h => h) (Or.inr ⟨by rfl, rfl⟩) hHeld ?_
        try simp only [Act.put, List.setIfInBounds_toArray, List.set_cons_zero, List.set_cons_succ]
        refine take_at (i := 23) (d := some 37) (v := ?_) rfl rfl (by kernel_rfl) (by kernel_rfl) (by kernel_rfl) (fun _ _ _ h => h) (Or.inl ⟨by rfl, ?_⟩) hHeld ?_
        rotate_left
        · intro w hSw
          try dsimp only at hSw
          go_simp
          try (with_reducible rfl)
        try simp only [Act.put, List.setIfInBounds_toArray, List.set_cons_zero, List.set_cons_succ]
        refine wpAnyH_done (by kernel_rfl) ?_ _
        obtain ⟨_, _, _, _, _, _, hkz⟩ := hHeld
        go_wp2
        go_ret2
        exact ⟨(ret_pr HS.out).symm, HKR.out.trans hkz⟩
      have HRB := Lib.hid hrb
      have HR92 : RowKit.Hid (∀ W, Calls Try.prog 92 #[.agg #[.int .i64 x.id, .int .i64 x.dy, .int .i64 x.kn, .int .i64 x.sh, .int .i64 x.tr, .int .i64 x.nu]] W fun e w' => e = .returned (.int .i64 0) ∧ Kept W w') := Lib.hid (fun W => by
        have := rrecount_any x.id x.dy x.kn x.sh x.tr x.nu W
        rwa [show recountB x.id x.dy x.kn x.sh x.tr x.nu = true from hrb, errI_true] at this)
      clear hrb
      rcases HREST.out with ⟨rfl, he⟩ | ⟨j, y, rfl, hy, he⟩
      · have HS : RowKit.Hid (crI xs = crFrom 1 x.id x.kn (xs.drop 1)) := Lib.hid (by
          have hid := rcB_id HRB.out
          have hxs : xs = x :: xs.drop 1 := drop_at HX.out
          generalize xs.drop 1 = D at hxs ⊢
          rw [he, hxs, crFrom, if_neg (by omega), if_neg (by rw [HRB.out]; simp; omega), if_neg (by omega)])
        clear HREST he hkr
        have hd0 : decide ((0 : Int) < ((0 : Nat) : Int)) = false := by decide
        simp only [Nat.zero_mul, Nat.add_zero] at q0 q1 q2 q3 q4 q5
        have SB : RowKit.Hid (∀ W, Kept wr W → W.cell? ⟨b, off, none⟩ = some (.int .i64 x.id) ∧ W.cell? ⟨b, off + 1, none⟩ = some (.int .i64 x.dy) ∧ W.cell? ⟨b, off + 2, none⟩ = some (.int .i64 x.kn) ∧ W.cell? ⟨b, off + 3, none⟩ = some (.int .i64 x.sh) ∧ W.cell? ⟨b, off + 4, none⟩ = some (.int .i64 x.tr) ∧ W.cell? ⟨b, off + 5, none⟩ = some (.int .i64 x.nu) ∧ Kept wr W) := Lib.hid (fun W hW => ⟨(hW.cells _ _ (cell_lt q0)).trans q0, (hW.cells _ _ (cell_lt q1)).trans q1, (hW.cells _ _ (cell_lt q2)).trans q2, (hW.cells _ _ (cell_lt q3)).trans q3, (hW.cells _ _ (cell_lt q4)).trans q4, (hW.cells _ _ (cell_lt q5)).trans q5, hW⟩)
        have SST : RowKit.Hid (∀ W W', (W.cell? ⟨b, off, none⟩ = some (.int .i64 x.id) ∧ W.cell? ⟨b, off + 1, none⟩ = some (.int .i64 x.dy) ∧ W.cell? ⟨b, off + 2, none⟩ = some (.int .i64 x.kn) ∧ W.cell? ⟨b, off + 3, none⟩ = some (.int .i64 x.sh) ∧ W.cell? ⟨b, off + 4, none⟩ = some (.int .i64 x.tr) ∧ W.cell? ⟨b, off + 5, none⟩ = some (.int .i64 x.nu) ∧ Kept wr W) → Kept W W' → W'.cell? ⟨b, off, none⟩ = some (.int .i64 x.id) ∧ W'.cell? ⟨b, off + 1, none⟩ = some (.int .i64 x.dy) ∧ W'.cell? ⟨b, off + 2, none⟩ = some (.int .i64 x.kn) ∧ W'.cell? ⟨b, off + 3, none⟩ = some (.int .i64 x.sh) ∧ W'.cell? ⟨b, off + 4, none⟩ = some (.int .i64 x.tr) ∧ W'.cell? ⟨b, off + 5, none⟩ = some (.int .i64 x.nu) ∧ Kept wr W') := Lib.hid (fun W W' h hk => SB.out W' (h.2.2.2.2.2.2.trans hk))
        have SB1 := Lib.hid (SB.out _ ((Kept.refl _).drew))
        go_upto_region 6 with (fail)
        refine wp_region_held_drew (S := (fun W => W.cell? ⟨b, off, none⟩ = some (.int .i64 x.id) ∧ W.cell? ⟨b, off + 1, none⟩ = some (.int .i64 x.dy) ∧ W.cell? ⟨b, off + 2, none⟩ = some (.int .i64 x.kn) ∧ W.cell? ⟨b, off + 3, none⟩ = some (.int .i64 x.sh) ∧ W.cell? ⟨b, off + 4, none⟩ = some (.int .i64 x.tr) ∧ W.cell? ⟨b, off + 5, none⟩ = some (.int .i64 x.nu) ∧ Kept wr W)) (by kernel_rfl) (SB1.out) (fun hHeld => ?_)
        refine take_at (i := 0) (d := some 14) (v := ?_) rfl rfl (by kernel_rfl) (by kernel_rfl) (by kernel_rfl) (fun _ _ _ h => h) (Or.inl ⟨by rfl, ?_⟩) hHeld ?_
        rotate_left
        · intro w hSw
          try dsimp only at hSw
          go_simp
          try (with_reducible rfl)
        try simp only [Act.put, List.setIfInBounds_toArray, List.set_cons_zero, List.set_cons_succ]
        refine take_at (i := 1) (d := some 15) (v := ?_) rfl rfl (by kernel_rfl) (by kernel_rfl) (by kernel_rfl) (fun _ _ _ h => h) (Or.inl ⟨by rfl, ?_⟩) hHeld ?_
        rotate_left
        · intro w hSw
          try dsimp only at hSw
          go_simp
          try (with_reducible rfl)
        try simp only [Act.put, List.setIfInBounds_toArray, List.set_cons_zero, List.set_cons_succ]
        refine take_at (i := 2) (d := some 16) (v := ?_) rfl rfl (by kernel_rfl) (by kernel_rfl) (by kernel_rfl) (fun _ _ _ h => h) (Or.inl ⟨by rfl, ?_⟩) hHeld ?_
        rotate_left
        · intro w hSw
          try dsimp only at hSw
          go_simp
          try (with_reducible rfl)
        try simp only [Act.put, List.setIfInBounds_toArray, List.set_cons_zero, List.set_cons_succ]
        refine take_at (i := 3) (d := some 17) (v := ?_) rfl rfl (by kernel_rfl) (by kernel_rfl) (by kernel_rfl) (fun _ _ _ h => h) (Or.inl ⟨by rfl, ?_⟩) hHeld ?_
        rotate_left
        · intro w hSw
          try dsimp only at hSw
          go_simp
          try (with_reducible rfl)
        try simp only [Act.put, List.setIfInBounds_toArray, List.set_cons_zero, List.set_cons_succ]
        refine wpAnyH_ready (rs := [4]) (by kernel_rfl) (by simp) ?_
        refine AllReadyH.cons rfl (fun K hK => ?_) AllReadyH.nil
        rw [if_pos (by rfl)]
        go_simp
        refine (HR92.out _).mono ?_
        rintro e w5 ⟨rfl, hkk⟩
        go_wp2_with fail
        refine hK.out _ _ (SST.out _ _ SB1.out hkk) (fun hHeld => ?_)
        clear hK K
        try simp only [Act.put, List.setIfInBounds_toArray, List.set_cons_zero, List.set_cons_succ]
        refine take_at (i := 5) (d := some 19) (v := ?_) rfl rfl (by kernel_rfl) (by kernel_rfl) (by kernel_rfl) (fun _ _ _ h => h) (Or.inl ⟨by rfl, ?_⟩) hHeld ?_
        rotate_left
        · intro w hSw
          try dsimp only at hSw
          go_simp
          try (with_reducible rfl)
        try simp only [Act.put, List.setIfInBounds_toArray, List.set_cons_zero, List.set_cons_succ]
        refine take_at (i := 6) (d := some 20) (v := ?_) rfl rfl (by kernel_rfl) (by kernel_rfl) (by kernel_rfl) (fun _ _ _ h => h) (Or.inl ⟨by rfl, ?_⟩) hHeld ?_
        rotate_left
        · intro w hSw
          try dsimp only at hSw
          go_simp
          try (with_reducible rfl)
        try simp only [Act.put, List.setIfInBounds_toArray, List.set_cons_zero, List.set_cons_succ]
        refine take_at (i := 7) (d := some 21) (v := ?_) rfl rfl (by kernel_rfl) (by kernel_rfl) (by kernel_rfl) (fun _ _ _ h => h) (Or.inl ⟨by rfl, ?_⟩) hHeld ?_
        rotate_left
        · intro w hSw
          try dsimp only at hSw
          go_simp
          try (with_reducible rfl)
        try simp only [Act.put, List.setIfInBounds_toArray, List.set_cons_zero, List.set_cons_succ]
        refine take_at (i := 8) (d := some 22) (v := ?_) rfl rfl (by kernel_rfl) (by kernel_rfl) (by kernel_rfl) (fun _ _ _ h => h) (Or.inl ⟨by rfl, ?_⟩) hHeld ?_
        rotate_left
        · intro w hSw
          try dsimp only at hSw
          go_simp
          try (with_reducible rfl)
        try simp only [Act.put, List.setIfInBounds_toArray, List.set_cons_zero, List.set_cons_succ]
        refine take_at (i := 9) (d := some 23) (v := ?_) rfl rfl (by kernel_rfl) (by kernel_rfl) (by kernel_rfl) (fun _ _ _ h => h) (Or.inl ⟨by rfl, ?_⟩) hHeld ?_
        rotate_left
        · intro w hSw
          try dsimp only at hSw
          go_simp
          try (with_reducible rfl)
        try simp only [Act.put, List.setIfInBounds_toArray, List.set_cons_zero, List.set_cons_succ]
        refine take_at (i := 10) (d := some 24) (v := undef) rfl rfl (by kernel_rfl) (by kernel_rfl) (by kernel_rfl) (fun _ _ _ h => h) (Or.inr ⟨by rfl, rfl⟩) hHeld ?_
        try simp only [Act.put, List.setIfInBounds_toArray, List.set_cons_zero, List.set_cons_succ]
        refine take_at (i := 11) (d := some 25) (v := undef) rfl rfl (by kernel_rfl) (by kernel_rfl) (by kernel_rfl) (fun _ _ _ h => h) (Or.inr ⟨by rfl, rfl⟩) hHeld ?_
        try simp only [Act.put, List.setIfInBounds_toArray, List.set_cons_zero, List.set_cons_succ]
        refine take_at (i := 12) (d := some 26) (v := undef) rfl rfl (by kernel_rfl) (by kernel_rfl) (by kernel_rfl) (fun _ _ _ h => h) (Or.inr ⟨by rfl, rfl⟩) hHeld ?_
        try simp only [Act.put, List.setIfInBounds_toArray, List.set_cons_zero, List.set_cons_succ]
        refine take_at (i := 13) (d := some 27) (v := undef) rfl rfl (by kernel_rfl) (by kernel_rfl) (by kernel_rfl) (fun _ _ _ h => h) (Or.inr ⟨by rfl, rfl⟩) hHeld ?_
        try simp only [Act.put, List.setIfInBounds_toArray, List.set_cons_zero, List.set_cons_succ]
        refine take_at (i := 14) (d := some 28) (v := undef) rfl rfl (by kernel_rfl) (by kernel_rfl) (by kernel_rfl) (fun _ _ _ h => h) (Or.inr ⟨by rfl, rfl⟩) hHeld ?_
        try simp only [Act.put, List.setIfInBounds_toArray, List.set_cons_zero, List.set_cons_succ]
        refine take_at (i := 15) (d := some 29) (v := undef) rfl rfl (by kernel_rfl) (by kernel_rfl) (by kernel_rfl) (fun _ _ _ h => h) (Or.inr ⟨by rfl, rfl⟩) hHeld ?_
        try simp only [Act.put, List.setIfInBounds_toArray, List.set_cons_zero, List.set_cons_succ]
        refine take_at (i := 16) (d := some 30) (v := undef) rfl rfl (by kernel_rfl) (by kernel_rfl) (by kernel_rfl) (fun _ _ _ h => h) (Or.inr ⟨by rfl, rfl⟩) hHeld ?_
        try simp only [Act.put, List.setIfInBounds_toArray, List.set_cons_zero, List.set_cons_succ]
        refine take_at (i := 17) (d := some 31) (v := undef) rfl rfl (by kernel_rfl) (by kernel_rfl) (by kernel_rfl) (fun _ _ _ h => h) (Or.inr ⟨by rfl, rfl⟩) hHeld ?_
        try simp only [Act.put, List.setIfInBounds_toArray, List.set_cons_zero, List.set_cons_succ]
        refine take_at (i := 18) (d := some 32) (v := undef) rfl rfl (by kernel_rfl) (by kernel_rfl) (by kernel_rfl) (fun _ _ _ h => h) (Or.inr ⟨by rfl, rfl⟩) hHeld ?_
        try simp only [Act.put, List.setIfInBounds_toArray, List.set_cons_zero, List.set_cons_succ]
        refine take_at (i := 19) (d := some 33) (v := undef) rfl rfl (by kernel_rfl) (by kernel_rfl) (by kernel_rfl) (fun _ _ _ h => h) (Or.inr ⟨by rfl, rfl⟩) hHeld ?_
        try simp only [Act.put, List.setIfInBounds_toArray, List.set_cons_zero, List.set_cons_succ]
        refine take_at (i := 20) (d := some 34) (v := undef) rfl rfl (by kernel_rfl) (by kernel_rfl) (by kernel_rfl) (fun _ _ _ h => h) (Or.inr ⟨by rfl, rfl⟩) hHeld ?_
        try simp only [Act.put, List.setIfInBounds_toArray, List.set_cons_zero, List.set_cons_succ]
        refine take_at (i := 21) (d := some 35) (v := undef) rfl rfl (by kernel_rfl) (by kernel_rfl) (by kernel_rfl) (fun _ _ _ h => h) (Or.inr ⟨by rfl, rfl⟩) hHeld ?_
        try simp only [Act.put, List.setIfInBounds_toArray, List.set_cons_zero, List.set_cons_succ]
        refine take_at (i := 22) (d := some 36) (v := ?_) rfl rfl (by kernel_rfl) (by kernel_rfl) (by kernel_rfl) (fun _ _ _ h => h) (Or.inl ⟨by rfl, ?_⟩) hHeld ?_
        rotate_left
        · intro w hSw
          try dsimp only at hSw
          go_simp
          try (with_reducible rfl)
        try simp only [Act.put, List.setIfInBounds_toArray, List.set_cons_zero, List.set_cons_succ]
        refine take_at (i := 23) (d := some 37) (v := ?_) rfl rfl (by kernel_rfl) (by kernel_rfl) (by kernel_rfl) (fun _ _ _ h => h) (Or.inl ⟨by rfl, ?_⟩) hHeld ?_
        rotate_left
        · intro w hSw
          try dsimp only at hSw
          go_simp
          try (with_reducible rfl)
        try simp only [Act.put, List.setIfInBounds_toArray, List.set_cons_zero, List.set_cons_succ]
        refine wpAnyH_done (by kernel_rfl) ?_ _
        obtain ⟨_, _, _, _, _, _, hkz⟩ := hHeld
        go_wp2
        go_quiet (fail)
        go_wp2
        go_roundw
        case rel => exact ⟨1, by omega, by omega, by go_num, by first | exact HKR.out.trans hkz | exact (HKR.out.trans hkz).drewN _ | exact (HKR.out.trans hkz).drew, .inr ⟨0, x, rfl, HX.out, HS.out⟩⟩
        case measure => simp [intOf]; omega
      · obtain ⟨p0, p1, p2, p3, p4, p5⟩ := (HTAB.out j y hy).kept hkr
        have hd0 : decide ((0 : Int) < ((j + 1 : Nat) : Int)) = true := decide_eq_true (by omega)
        have hd1 : decide ((0 : Int) < (j : Int) + 1) = true := decide_eq_true (by omega)
        have hw1 : IntKind.i64.wrap (((j + 1 : Nat) : Int) - 1) = (j : Int) := by rw [IntWalk.i64_in _ (by omega)]; omega
        have hw2 : IntKind.i64.wrap ((j : Int) + 1 - 1) = (j : Int) := by rw [IntWalk.i64_in _ (by omega)]; omega
        have hj0 : (0 : Int) ≤ (j : Int) := by omega
        have hj1 : (j : Int) < (n : Int) := by omega
        clear HREST hy hkr
        have hi2 : (0 : Int) ≤ (j : Int) + 1 := by omega
        have hw3 : IntKind.i64.wrap (j : Int) = (j : Int) := IntWalk.i64_in _ (by omega)
        have hi3 : (j : Int) + 1 < (n : Int) := by omega
        have HE := Lib.hid he
        clear he
        have SB : RowKit.Hid (∀ W, Kept wr W → W.cell? ⟨b, off + (j + 1) * 6, none⟩ = some (.int .i64 x.id) ∧ W.cell? ⟨b, off + (j + 1) * 6 + 1, none⟩ = some (.int .i64 x.dy) ∧ W.cell? ⟨b, off + (j + 1) * 6 + 2, none⟩ = some (.int .i64 x.kn) ∧ W.cell? ⟨b, off + (j + 1) * 6 + 3, none⟩ = some (.int .i64 x.sh) ∧ W.cell? ⟨b, off + (j + 1) * 6 + 4, none⟩ = some (.int .i64 x.tr) ∧ W.cell? ⟨b, off + (j + 1) * 6 + 5, none⟩ = some (.int .i64 x.nu) ∧ W.cell? ⟨b, off + j * 6, none⟩ = some (.int .i64 y.id) ∧ W.cell? ⟨b, off + j * 6 + 2, none⟩ = some (.int .i64 y.kn) ∧ Kept wr W) := Lib.hid (fun W hW => ⟨(hW.cells _ _ (cell_lt q0)).trans q0, (hW.cells _ _ (cell_lt q1)).trans q1, (hW.cells _ _ (cell_lt q2)).trans q2, (hW.cells _ _ (cell_lt q3)).trans q3, (hW.cells _ _ (cell_lt q4)).trans q4, (hW.cells _ _ (cell_lt q5)).trans q5, (hW.cells _ _ (cell_lt p0)).trans p0, (hW.cells _ _ (cell_lt p2)).trans p2, hW⟩)
        have SST : RowKit.Hid (∀ W W', (W.cell? ⟨b, off + (j + 1) * 6, none⟩ = some (.int .i64 x.id) ∧ W.cell? ⟨b, off + (j + 1) * 6 + 1, none⟩ = some (.int .i64 x.dy) ∧ W.cell? ⟨b, off + (j + 1) * 6 + 2, none⟩ = some (.int .i64 x.kn) ∧ W.cell? ⟨b, off + (j + 1) * 6 + 3, none⟩ = some (.int .i64 x.sh) ∧ W.cell? ⟨b, off + (j + 1) * 6 + 4, none⟩ = some (.int .i64 x.tr) ∧ W.cell? ⟨b, off + (j + 1) * 6 + 5, none⟩ = some (.int .i64 x.nu) ∧ W.cell? ⟨b, off + j * 6, none⟩ = some (.int .i64 y.id) ∧ W.cell? ⟨b, off + j * 6 + 2, none⟩ = some (.int .i64 y.kn) ∧ Kept wr W) → Kept W W' → W'.cell? ⟨b, off + (j + 1) * 6, none⟩ = some (.int .i64 x.id) ∧ W'.cell? ⟨b, off + (j + 1) * 6 + 1, none⟩ = some (.int .i64 x.dy) ∧ W'.cell? ⟨b, off + (j + 1) * 6 + 2, none⟩ = some (.int .i64 x.kn) ∧ W'.cell? ⟨b, off + (j + 1) * 6 + 3, none⟩ = some (.int .i64 x.sh) ∧ W'.cell? ⟨b, off + (j + 1) * 6 + 4, none⟩ = some (.int .i64 x.tr) ∧ W'.cell? ⟨b, off + (j + 1) * 6 + 5, none⟩ = some (.int .i64 x.nu) ∧ W'.cell? ⟨b, off + j * 6, none⟩ = some (.int .i64 y.id) ∧ W'.cell? ⟨b, off + j * 6 + 2, none⟩ = some (.int .i64 y.kn) ∧ Kept wr W') := Lib.hid (fun W W' h hk => SB.out W' (h.2.2.2.2.2.2.2.2.trans hk))
        have SB1 := Lib.hid (SB.out _ ((Kept.refl _).drew))
        go_upto_region 6 with (fail)
        refine wp_region_held_drew (S := (fun W => W.cell? ⟨b, off + (j + 1) * 6, none⟩ = some (.int .i64 x.id) ∧ W.cell? ⟨b, off + (j + 1) * 6 + 1, none⟩ = some (.int .i64 x.dy) ∧ W.cell? ⟨b, off + (j + 1) * 6 + 2, none⟩ = some (.int .i64 x.kn) ∧ W.cell? ⟨b, off + (j + 1) * 6 + 3, none⟩ = some (.int .i64 x.sh) ∧ W.cell? ⟨b, off + (j + 1) * 6 + 4, none⟩ = some (.int .i64 x.tr) ∧ W.cell? ⟨b, off + (j + 1) * 6 + 5, none⟩ = some (.int .i64 x.nu) ∧ W.cell? ⟨b, off + j * 6, none⟩ = some (.int .i64 y.id) ∧ W.cell? ⟨b, off + j * 6 + 2, none⟩ = some (.int .i64 y.kn) ∧ Kept wr W)) (by kernel_rfl) (SB1.out) (fun hHeld => ?_)
        refine take_at (i := 0) (d := some 14) (v := ?_) rfl rfl (by kernel_rfl) (by kernel_rfl) (by kernel_rfl) (fun _ _ _ h => h) (Or.inl ⟨by rfl, ?_⟩) hHeld ?_
        rotate_left
        · intro w hSw
          try dsimp only at hSw
          go_simp
          try (with_reducible rfl)
        try simp only [Act.put, List.setIfInBounds_toArray, List.set_cons_zero, List.set_cons_succ]
        refine take_at (i := 1) (d := some 15) (v := ?_) rfl rfl (by kernel_rfl) (by kernel_rfl) (by kernel_rfl) (fun _ _ _ h => h) (Or.inl ⟨by rfl, ?_⟩) hHeld ?_
        rotate_left
        · intro w hSw
          try dsimp only at hSw
          go_simp
          try (with_reducible rfl)
        try simp only [Act.put, List.setIfInBounds_toArray, List.set_cons_zero, List.set_cons_succ]
        refine take_at (i := 2) (d := some 16) (v := ?_) rfl rfl (by kernel_rfl) (by kernel_rfl) (by kernel_rfl) (fun _ _ _ h => h) (Or.inl ⟨by rfl, ?_⟩) hHeld ?_
        rotate_left
        · intro w hSw
          try dsimp only at hSw
          go_simp
          try (with_reducible rfl)
        try simp only [Act.put, List.setIfInBounds_toArray, List.set_cons_zero, List.set_cons_succ]
        refine take_at (i := 3) (d := some 17) (v := ?_) rfl rfl (by kernel_rfl) (by kernel_rfl) (by kernel_rfl) (fun _ _ _ h => h) (Or.inl ⟨by rfl, ?_⟩) hHeld ?_
        rotate_left
        · intro w hSw
          try dsimp only at hSw
          go_simp
          try (with_reducible rfl)
        try simp only [Act.put, List.setIfInBounds_toArray, List.set_cons_zero, List.set_cons_succ]
        refine wpAnyH_ready (rs := [4]) (by kernel_rfl) (by simp) ?_
        refine AllReadyH.cons rfl (fun K hK => ?_) AllReadyH.nil
        rw [if_pos (by rfl)]
        go_simp
        refine (HR92.out _).mono ?_
        rintro e w5 ⟨rfl, hkk⟩
        go_wp2_with fail
        refine hK.out _ _ (SST.out _ _ SB1.out hkk) (fun hHeld => ?_)
        clear hK K
        try simp only [Act.put, List.setIfInBounds_toArray, List.set_cons_zero, List.set_cons_succ]
        refine take_at (i := 5) (d := some 19) (v := ?_) rfl rfl (by kernel_rfl) (by kernel_rfl) (by kernel_rfl) (fun _ _ _ h => h) (Or.inl ⟨by rfl, ?_⟩) hHeld ?_
        rotate_left
        · intro w hSw
          try dsimp only at hSw
          go_simp
          try (with_reducible rfl)
        try simp only [Act.put, List.setIfInBounds_toArray, List.set_cons_zero, List.set_cons_succ]
        refine take_at (i := 6) (d := some 20) (v := ?_) rfl rfl (by kernel_rfl) (by kernel_rfl) (by kernel_rfl) (fun _ _ _ h => h) (Or.inl ⟨by rfl, ?_⟩) hHeld ?_
        rotate_left
        · intro w hSw
          try dsimp only at hSw
          go_simp
          try (with_reducible rfl)
        try simp only [Act.put, List.setIfInBounds_toArray, List.set_cons_zero, List.set_cons_succ]
        refine take_at (i := 7) (d := some 21) (v := ?_) rfl rfl (by kernel_rfl) (by kernel_rfl) (by kernel_rfl) (fun _ _ _ h => h) (Or.inl ⟨by rfl, ?_⟩) hHeld ?_
        rotate_left
        · intro w hSw
          try dsimp only at hSw
          go_simp
          try (with_reducible rfl)
        try simp only [Act.put, List.setIfInBounds_toArray, List.set_cons_zero, List.set_cons_succ]
        refine take_at (i := 8) (d := some 22) (v := ?_) rfl rfl (by kernel_rfl) (by kernel_rfl) (by kernel_rfl) (fun _ _ _ h => h) (Or.inl ⟨by rfl, ?_⟩) hHeld ?_
        rotate_left
        · intro w hSw
          try dsimp only at hSw
          go_simp
          try (with_reducible rfl)
        try simp only [Act.put, List.setIfInBounds_toArray, List.set_cons_zero, List.set_cons_succ]
        refine take_at (i := 9) (d := some 23) (v := ?_) rfl rfl (by kernel_rfl) (by kernel_rfl) (by kernel_rfl) (fun _ _ _ h => h) (Or.inl ⟨by rfl, ?_⟩) hHeld ?_
        rotate_left
        · intro w hSw
          try dsimp only at hSw
          go_simp
          try (with_reducible rfl)
        try simp only [Act.put, List.setIfInBounds_toArray, List.set_cons_zero, List.set_cons_succ]
        refine take_at (i := 10) (d := some 24) (v := ?_) rfl rfl (by kernel_rfl) (by kernel_rfl) (by kernel_rfl) (fun _ _ _ h => h) (Or.inl ⟨by rfl, ?_⟩) hHeld ?_
        rotate_left
        · intro w hSw
          try dsimp only at hSw
          go_simp
          try (with_reducible rfl)
        try simp only [Act.put, List.setIfInBounds_toArray, List.set_cons_zero, List.set_cons_succ]
        refine take_at (i := 11) (d := some 25) (v := ?_) rfl rfl (by kernel_rfl) (by kernel_rfl) (by kernel_rfl) (fun _ _ _ h => h) (Or.inl ⟨by rfl, ?_⟩) hHeld ?_
        rotate_left
        · intro w hSw
          try dsimp only at hSw
          go_simp
          try (with_reducible rfl)
        try simp only [Act.put, List.setIfInBounds_toArray, List.set_cons_zero, List.set_cons_succ]
        refine take_at (i := 12) (d := some 26) (v := ?_) rfl rfl (by kernel_rfl) (by kernel_rfl) (by kernel_rfl) (fun _ _ _ h => h) (Or.inl ⟨by rfl, ?_⟩) hHeld ?_
        rotate_left
        · intro w hSw
          try dsimp only at hSw
          go_simp
          try (with_reducible rfl)
        try simp only [Act.put, List.setIfInBounds_toArray, List.set_cons_zero, List.set_cons_succ]
        refine take_at (i := 13) (d := some 27) (v := ?_) rfl rfl (by kernel_rfl) (by kernel_rfl) (by kernel_rfl) (fun _ _ _ h => h) (Or.inl ⟨by rfl, ?_⟩) hHeld ?_
        rotate_left
        · intro w hSw
          try dsimp only at hSw
          go_simp
          try (with_reducible rfl)
        try simp only [Act.put, List.setIfInBounds_toArray, List.set_cons_zero, List.set_cons_succ]
        refine take_at (i := 14) (d := some 28) (v := ?_) rfl rfl (by kernel_rfl) (by kernel_rfl) (by kernel_rfl) (fun _ _ _ h => h) (Or.inl ⟨by rfl, ?_⟩) hHeld ?_
        rotate_left
        · intro w hSw
          try dsimp only at hSw
          go_simp
          try (with_reducible rfl)
        try simp only [Act.put, List.setIfInBounds_toArray, List.set_cons_zero, List.set_cons_succ]
        refine take_at (i := 15) (d := some 29) (v := ?_) rfl rfl (by kernel_rfl) (by kernel_rfl) (by kernel_rfl) (fun _ _ _ h => h) (Or.inl ⟨by rfl, ?_⟩) hHeld ?_
        rotate_left
        · intro w hSw
          try dsimp only at hSw
          go_simp
          try (with_reducible rfl)
        try simp only [Act.put, List.setIfInBounds_toArray, List.set_cons_zero, List.set_cons_succ]
        refine take_at (i := 16) (d := some 30) (v := ?_) rfl rfl (by kernel_rfl) (by kernel_rfl) (by kernel_rfl) (fun _ _ _ h => h) (Or.inl ⟨by rfl, ?_⟩) hHeld ?_
        rotate_left
        · intro w hSw
          try dsimp only at hSw
          go_simp
          try (with_reducible rfl)
        try simp only [Act.put, List.setIfInBounds_toArray, List.set_cons_zero, List.set_cons_succ]
        refine take_at (i := 17) (d := some 31) (v := ?_) rfl rfl (by kernel_rfl) (by kernel_rfl) (by kernel_rfl) (fun _ _ _ h => h) (Or.inl ⟨by rfl, ?_⟩) hHeld ?_
        rotate_left
        · intro w hSw
          try dsimp only at hSw
          go_simp
          try (with_reducible rfl)
        try simp only [Act.put, List.setIfInBounds_toArray, List.set_cons_zero, List.set_cons_succ]
        refine take_at (i := 18) (d := some 32) (v := ?_) rfl rfl (by kernel_rfl) (by kernel_rfl) (by kernel_rfl) (fun _ _ _ h => h) (Or.inl ⟨by rfl, ?_⟩) hHeld ?_
        rotate_left
        · intro w hSw
          try dsimp only at hSw
          go_simp
          try (with_reducible rfl)
        try simp only [Act.put, List.setIfInBounds_toArray, List.set_cons_zero, List.set_cons_succ]
        refine take_at (i := 19) (d := some 33) (v := ?_) rfl rfl (by kernel_rfl) (by kernel_rfl) (by kernel_rfl) (fun _ _ _ h => h) (Or.inl ⟨by rfl, ?_⟩) hHeld ?_
        rotate_left
        · intro w hSw
          try dsimp only at hSw
          go_simp
          try (with_reducible rfl)
        try simp only [Act.put, List.setIfInBounds_toArray, List.set_cons_zero, List.set_cons_succ]
        refine take_at (i := 20) (d := some 34) (v := ?_) rfl rfl (by kernel_rfl) (by kernel_rfl) (by kernel_rfl) (fun _ _ _ h => h) (Or.inl ⟨by rfl, ?_⟩) hHeld ?_
        rotate_left
        · intro w hSw
          try dsimp only at hSw
          go_simp
          try (with_reducible rfl)
        try simp only [Act.put, List.setIfInBounds_toArray, List.set_cons_zero, List.set_cons_succ]
        refine take_at (i := 21) (d := some 35) (v := ?_) rfl rfl (by kernel_rfl) (by kernel_rfl) (by kernel_rfl) (fun _ _ _ h => h) (Or.inl ⟨by rfl, ?_⟩) hHeld ?_
        rotate_left
        · intro w hSw
          try dsimp only at hSw
          go_simp
          try (with_reducible rfl)
        try simp only [Act.put, List.setIfInBounds_toArray, List.set_cons_zero, List.set_cons_succ]
        refine take_at (i := 22) (d := some 36) (v := ?_) rfl rfl (by kernel_rfl) (by kernel_rfl) (by kernel_rfl) (fun _ _ _ h => h) (Or.inl ⟨by rfl, ?_⟩) hHeld ?_
        rotate_left
        · intro w hSw
          try dsimp only at hSw
          go_simp
          try (with_reducible rfl)
        try simp only [Act.put, List.setIfInBounds_toArray, List.set_cons_zero, List.set_cons_succ]
        refine take_at (i := 23) (d := some 37) (v := ?_) rfl rfl (by kernel_rfl) (by kernel_rfl) (by kernel_rfl) (fun _ _ _ h => h) (Or.inl ⟨by rfl, ?_⟩) hHeld ?_
        rotate_left
        · intro w hSw
          try dsimp only at hSw
          go_simp
          try (with_reducible rfl)
        try simp only [Act.put, List.setIfInBounds_toArray, List.set_cons_zero, List.set_cons_succ]
        refine wpAnyH_done (by kernel_rfl) ?_ _
        obtain ⟨q0, q1, q2, q3, q4, q5, p0, p2, hkz⟩ := hHeld
        clear SB SST SB1 HR92
        by_cases hid : x.id ≤ y.id
        · have HS : RowKit.Hid (crI xs = (((j + 1 : Nat) : Int), 1)) := Lib.hid (by rw [HE.out, drop_at HX.out, crFrom, if_neg (by omega), if_pos (.inr hid)])
          have hd2 : decide (x.id ≤ y.id) = true := decide_eq_true hid
          go_wp2
          go_ret2
          exact ⟨(ret_pr HS.out).symm, HKR.out.trans hkz⟩
        · have hd2 : decide (x.id ≤ y.id) = false := decide_eq_false hid
          by_cases hkn : x.kn < y.kn
          · have HS : RowKit.Hid (crI xs = (((j + 1 : Nat) : Int), 7)) := Lib.hid (by rw [HE.out, drop_at HX.out, crFrom, if_neg (by omega), if_neg (by rw [HRB.out]; simp; omega), if_pos hkn])
            have hd3 : decide (x.kn < y.kn) = true := decide_eq_true hkn
            go_wp2
            go_quiet (fail)
            go_wp2
            go_ret2
            exact ⟨(ret_pr HS.out).symm, by first | exact HKR.out.trans hkz | exact (HKR.out.trans hkz).drewN _ | exact (HKR.out.trans hkz).drew⟩
          · have HS : RowKit.Hid (crI xs = crFrom (j + 1 + 1) x.id x.kn (xs.drop (j + 1 + 1))) := Lib.hid (by rw [HE.out, drop_at HX.out, crFrom, if_neg (by omega), if_neg (by rw [HRB.out]; simp; omega), if_neg hkn])
            have hd3 : decide (x.kn < y.kn) = false := decide_eq_false hkn
            go_wp2
            go_quiet (fail)
            go_wp2
            go_roundw
            case rel => exact ⟨j + 1 + 1, by omega, by omega, by go_num, by first | exact HKR.out.trans hkz | exact (HKR.out.trans hkz).drewN _ | exact (HKR.out.trans hkz).drew, .inr ⟨j + 1, x, rfl, HX.out, HS.out⟩⟩
            case measure => simp [intOf]; omega
    · obtain rfl : k = n := by omega
      have HS : RowKit.Hid (crI xs = ((0 : Int), 0)) := Lib.hid (by
        rcases HREST.out with ⟨rfl, he⟩ | ⟨j, y, rfl, _, he⟩
        · rw [he, List.length_eq_zero_iff.1 HT.out.1]; rfl
        · rw [he, List.drop_eq_nil_of_le (by rw [HT.out.1]; exact Nat.le_refl _)]; rfl)
      go_wp2
      go_ret2
      exact ⟨(ret_pr HS.out).symm, HKR.out⟩
end Go.Proofs.Ytjaicilnlgjdcaa
