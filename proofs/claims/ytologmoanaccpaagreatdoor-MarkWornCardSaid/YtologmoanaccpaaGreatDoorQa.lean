/-
  what two marks have in common at a place: both, apart
-/
import Derived.Test.YtologmoanaccpaaGreatDoorMr
import Derived.Deep.MidRow
namespace Go.Proofs.YtologmoanaccpaaGreatDoor
set_option linter.all false
open Go.RowKit Go.Shelf

theorem and_u8 (a b : Nat) (ha : a < 256) (hb : b < 256) : bits BinOp.and IntKind.u8 (a : Int) (b : Int) = ((a &&& b : Nat) : Int) :=
  (bits_nat .u8 8 (by decide) (fun n h0 h1 => u8_wrap_id h0 (by simpa using h1)) a b (by omega) (by omega)).1
def bothN (fs : List Fd) (k g h : Nat) : Nat := lkX fs (k * 5 + g) &&& lkX fs (k * 5 + h)
set_option maxRecDepth 100000 in
set_option maxHeartbeats 3200000 in
theorem both_any (fs : List Fd) (k g h : Nat) (hf : ∀ f ∈ fs, f.seen ≤ 4) (hk : k < 6) (hg : g ≤ 4) (hh : h ≤ 4) (w : World) :
    Calls Tryz.prog 163 #[lkV fs, .int .i64 (k : Int), .int .u8 (g : Int), .int .u8 (h : Int)] w fun e w' => e = .returned (.int .u8 ((bothN fs k g h : Nat) : Int)) ∧ Kept w w' := by
  obtain ⟨W1, hW1⟩ : ∃ W1, W1 = w.alloc (.cells (lkL (lkX fs)).toArray 120) := ⟨_, rfl⟩
  have HB := Lib.hid (show BlkF W1 w.heap.size (lkX fs) by rw [hW1]; exact heap_alloc_new w _)
  have HK := Lib.hid (show Kept w W1 by rw [hW1]; exact (Kept.refl w).alloc _)
  have HW := Lib.hid hW1
  have q1 := (HB.out.cell (i := k * 5 + g) (by omega)).1
  have q2 := (HB.out.cell (i := k * 5 + h) (by omega)).1
  have lb := HB.out.lt
  have l1 := lkX_lt hf (k * 5 + g)
  have l2 := lkX_lt hf (k * 5 + h)
  obtain ⟨U, hU⟩ : ∃ U, lkX fs (k * 5 + g) = U := ⟨_, rfl⟩
  obtain ⟨V, hV⟩ : ∃ V, lkX fs (k * 5 + h) = V := ⟨_, rfl⟩
  have HR : RowKit.Hid (bothN fs k g h = U &&& V) := Lib.hid (by unfold bothN; rw [hU, hV])
  rw [hU] at q1 l1
  rw [hV] at q2 l2
  have hand := and_u8 U V (by omega) (by omega)
  have hk0 : (0 : Int) ≤ (k : Int) := by omega
  have hk1 : (k : Int) < 6 := by omega
  have hg1 : (g : Int) < 5 := by omega
  have hh1 : (h : Int) < 5 := by omega
  obtain ⟨R, hR⟩ : ∃ R, R = U &&& V := ⟨_, rfl⟩
  rw [← hR] at hand HR
  unfold lkV
  clear hW1 hU hV hR l1 l2 hf
  go_enter Tryz.func163, Tryz.ntmps163
  go_upto_region 1 with (fail)
  rw [← HW.out]
  go_quiet (fail)
  go_wp2
  go_ret
  exact ⟨by rw [HR.out]; rfl, by first | exact HK.out | exact HK.out.drew | exact HK.out.drewN _ | exact HK.out.trans (Kept.of_quiet (by assumption))⟩
def apB (fs : List Fd) (a c : Sg) (k : Nat) : Bool := bothN fs k (a.l.getD k 0).toNat (c.l.getD k 0).toNat == 0
def apK (fs : List Fd) (a c : Sg) (n : Nat) : Nat := ((List.range n).filter (apB fs a c)).length
theorem apK_succ (fs : List Fd) (a c : Sg) (n : Nat) : apK fs a c (n + 1) = if apB fs a c n = true then apK fs a c n + 1 else apK fs a c n := by
  unfold apK
  rw [List.range_succ, List.filter_append, List.length_append]
  by_cases h : apB fs a c n = true
  · simp [h]
  · simp [h]
theorem apK_le (fs : List Fd) (a c : Sg) (n : Nat) : apK fs a c n ≤ n := by unfold apK; exact Nat.le_trans (List.length_filter_le _ _) (by simp)
theorem clear4 {s : Sg} (h : clearB s = true) : ∀ x ∈ s.l, x ≤ 4 := fun x hx => by
  unfold clearB at h
  simpa using List.all_eq_true.1 h x hx
set_option maxRecDepth 100000 in
set_option maxHeartbeats 3200000 in
theorem apart_any (fs : List Fd) (a c : Sg) (hf : ∀ f ∈ fs, f.seen ≤ 4) (ha : a.ok) (hc : c.ok) (hac : clearB a = true) (hcc : clearB c = true) (w : World) :
    Calls Tryz.prog 101 #[lkV fs, .agg #[.int .u8 a.s0, .int .u8 a.s1, .int .u8 a.s2, .int .u8 a.s3, .int .u8 a.s4, .int .u8 a.s5], .agg #[.int .u8 c.s0, .int .u8 c.s1, .int .u8 c.s2, .int .u8 c.s3, .int .u8 c.s4, .int .u8 c.s5]] w fun e w' => e = .returned (.int .i64 ((apK fs a c 6 : Nat) : Int)) ∧ Kept w w' := by
  have hi : (Tryz.prog.info? 120).map (·.size) = some 30 := by kernel_rfl
  obtain ⟨W1, hW1⟩ : ∃ W1, W1 = w.alloc (.cells (lkL (lkX fs)).toArray 120) := ⟨_, rfl⟩
  obtain ⟨W2, hW2⟩ : ∃ W2, W2 = W1.alloc (.cells #[.int .u8 a.s0, .int .u8 a.s1, .int .u8 a.s2, .int .u8 a.s3, .int .u8 a.s4, .int .u8 a.s5] 30) := ⟨_, rfl⟩
  obtain ⟨W3, hW3⟩ : ∃ W3, W3 = W2.alloc (.cells #[.int .u8 c.s0, .int .u8 c.s1, .int .u8 c.s2, .int .u8 c.s3, .int .u8 c.s4, .int .u8 c.s5] 30) := ⟨_, rfl⟩
  have z1 : W1.heap.size = w.heap.size + 1 := by rw [hW1]; simp
  have z2 : W2.heap.size = w.heap.size + 1 + 1 := by rw [hW2]; simp [z1]
  have k23 : Kept W2 W3 := by rw [hW3]; exact (Kept.refl _).alloc _
  have k13 : Kept W1 W3 := by rw [hW3, hW2]; exact ((Kept.refl _).alloc _).alloc _
  have HB := Lib.hid (show BlkF W3 w.heap.size (lkX fs) by
    have h0 : BlkF W1 w.heap.size (lkX fs) := by rw [hW1]; exact heap_alloc_new w _
    exact h0.kept k13)
  have HR1 := Lib.hid (show RowC W3 (w.heap.size + 1) (sgV a) by rw [← z1]; have h := RowC.new W1 (sgV a) 30; rw [show W1.alloc (.cells (sgV a).toArray 30) = W2 from hW2.symm] at h; exact h.kept k23)
  have HR2 := Lib.hid (show RowC W3 (w.heap.size + 1 + 1) (sgV c) by rw [hW3, ← z2]; exact RowC.new W2 (sgV c) 30)
  have HK := Lib.hid (show Kept w W3 by rw [hW3, hW2, hW1]; exact (((Kept.refl _).alloc _).alloc _).alloc _)
  have HW : RowKit.Hid (W3 = ((w.alloc (.cells (lkL (lkX fs)).toArray 120)).alloc (.cells #[.int .u8 a.s0, .int .u8 a.s1, .int .u8 a.s2, .int .u8 a.s3, .int .u8 a.s4, .int .u8 a.s5] 30)).alloc (.cells #[.int .u8 c.s0, .int .u8 c.s1, .int .u8 c.s2, .int .u8 c.s3, .int .u8 c.s4, .int .u8 c.s5] 30)) := Lib.hid (by rw [hW3, hW2, hW1])
  have HA := Lib.hid (Sg.ok_l ha)
  have HC := Lib.hid (Sg.ok_l hc)
  have HA4 := Lib.hid (clear4 hac)
  have HC4 := Lib.hid (clear4 hcc)
  have HF := Lib.hid hf
  have HRG : RowKit.Hid (∀ W, Kept W3 W → W.rangeAt w.heap.size 0 (lkL (lkX fs))) := Lib.hid (fun W hW j v hv => by
    rw [Nat.zero_add, cell_of_row _ _ _ _ _ _ (HB.out.kept hW)]
    simpa using hv)
  unfold lkV
  clear hW1 hW2 hW3 z1 z2 k13 k23 ha hc hf hac hcc
  go_enter Tryz.func101, Tryz.ntmps101
  go_upto_region 1 with (fail)
  rw [← HW.out]
  go_wp2_with fail
  go_loopw [7, 9] (fun v i wr => ∃ k : Nat, k ≤ 6 ∧ i = .int .i64 k ∧ v = .int .i64 ((apK fs a c k : Nat) : Int) ∧ Kept W3 wr) (fun _ i _ => 6 - (intOf i).toNat)
  case atStart => exact ⟨0, by omega, by first | rfl | go_num, by first | rfl | go_num, Kept.refl _⟩
  case round =>
    obtain ⟨k, hk, rfl, rfl, hkr⟩ := hrel
    have HKR := Lib.hid hkr
    clear hkr
    by_cases hlt : k < 6
    · obtain ⟨x, hx⟩ : ∃ x, a.l[k]? = some x := ⟨_, List.getElem?_eq_getElem (by simpa [Sg.l] using hlt)⟩
      obtain ⟨y, hy⟩ : ∃ y, c.l[k]? = some y := ⟨_, List.getElem?_eq_getElem (by simpa [Sg.l] using hlt)⟩
      have hx0 := HA.out x (List.mem_of_getElem? hx)
      have hy0 := HC.out y (List.mem_of_getElem? hy)
      have hx4 := HA4.out x (List.mem_of_getElem? hx)
      have hy4 := HC4.out y (List.mem_of_getElem? hy)
      obtain ⟨hx0, _⟩ := hx0
      obtain ⟨hy0, _⟩ := hy0
      obtain ⟨x, rfl⟩ : ∃ n : Nat, x = (n : Int) := ⟨x.toNat, by omega⟩
      obtain ⟨y, rfl⟩ : ∃ n : Nat, y = (n : Int) := ⟨y.toNat, by omega⟩
      have HBO := Lib.hid (both_any fs k x y HF.out hlt (by omega) (by omega))
      have SB : RowKit.Hid (∀ W, Kept W3 W → W.rangeAt w.heap.size 0 (lkL (lkX fs)) ∧ W.cell? ⟨w.heap.size + 1, k, none⟩ = some (.int .u8 (x : Int)) ∧ W.cell? ⟨w.heap.size + 1 + 1, k, none⟩ = some (.int .u8 (y : Int))) := Lib.hid (fun W hW => ⟨HRG.out W hW, (HR1.out.kept hW k _ (sgV_at hx)).1, (HR2.out.kept hW k _ (sgV_at hy)).1⟩)
      obtain ⟨N, hN⟩ : ∃ N, bothN fs k x y = N := ⟨_, rfl⟩
      have HAP : RowKit.Hid (apB fs a c k = (N == 0)) := Lib.hid (by
        unfold apB
        rw [List.getD_eq_getElem?_getD, List.getD_eq_getElem?_getD, hx, hy, ← hN]
        simp)
      rw [hN] at HBO
      have hle := apK_le fs a c k
      have HSU := Lib.hid (apK_succ fs a c k)
      generalize apK fs a c k = M at hle HSU
      have hk0 : (0 : Int) ≤ (k : Int) := by omega
      have hk1 : (k : Int) < 6 := by omega
      clear hx hy hN hx0 hy0 hx4 hy4
      go_upto_region 5 with (fail)
      refine wp_region_held_drew (S := fun W' => W'.rangeAt w.heap.size 0 (lkL (lkX fs)) ∧ W'.cell? ⟨w.heap.size + 1, k, none⟩ = some (.int .u8 (x : Int)) ∧ W'.cell? ⟨w.heap.size + 1 + 1, k, none⟩ = some (.int .u8 (y : Int))) (by kernel_rfl) (SB.out _ (HKR.out.drew)) (fun hHeld => ?_)
      refine take_at (i := 0) (d := some 12) (v := .agg (lkL (lkX fs)).toArray) rfl rfl (by kernel_rfl) (by kernel_rfl) (by kernel_rfl) (fun _ _ _ h => h) (yieldsIf_load_mid (by rfl) 120 (.tmp 3) rfl w.heap.size 0 rfl (lkL (lkX fs)) _ (fun W hW => hW.1) Tryz.underlying120 rfl (by rw [hi]; simp [lkL_len])) hHeld ?_
      try simp only [Act.put, List.setIfInBounds_toArray, List.set_cons_zero, List.set_cons_succ]
      refine take_at (i := 1) (d := some 13) (v := ?_) rfl rfl (by kernel_rfl) (by kernel_rfl) (by kernel_rfl) (fun _ _ _ h => h) (Or.inl ⟨by rfl, ?_⟩) hHeld ?_
      rotate_left
      · intro w hSw
        try dsimp only at hSw
        go_simp
        try (with_reducible rfl)
      try simp only [Act.put, List.setIfInBounds_toArray, List.set_cons_zero, List.set_cons_succ]
      refine take_at (i := 2) (d := some 14) (v := ?_) rfl rfl (by kernel_rfl) (by kernel_rfl) (by kernel_rfl) (fun _ _ _ h => h) (Or.inl ⟨by rfl, ?_⟩) hHeld ?_
      rotate_left
      · intro w hSw
        try dsimp only at hSw
        go_simp
        try (with_reducible rfl)
      try simp only [Act.put, List.setIfInBounds_toArray, List.set_cons_zero, List.set_cons_succ]
      refine take_at (i := 3) (d := some 15) (v := ?_) rfl rfl (by kernel_rfl) (by kernel_rfl) (by kernel_rfl) (fun _ _ _ h => h) (Or.inl ⟨by rfl, ?_⟩) hHeld ?_
      rotate_left
      · intro w hSw
        try dsimp only at hSw
        go_simp
        try (with_reducible rfl)
      try simp only [Act.put, List.setIfInBounds_toArray, List.set_cons_zero, List.set_cons_succ]
      refine take_at (i := 4) (d := some 16) (v := ?_) rfl rfl (by kernel_rfl) (by kernel_rfl) (by kernel_rfl) (fun _ _ _ h => h) (Or.inl ⟨by rfl, ?_⟩) hHeld ?_
      rotate_left
      · intro w hSw
        try dsimp only at hSw
        go_simp
        try (with_reducible rfl)
      try simp only [Act.put, List.setIfInBounds_toArray, List.set_cons_zero, List.set_cons_succ]
      refine take_at (i := 5) (d := some 17) (v := ?_) rfl rfl (by kernel_rfl) (by kernel_rfl) (by kernel_rfl) (fun _ _ _ h => h) (Or.inl ⟨by rfl, ?_⟩) hHeld ?_
      rotate_left
      · intro w hSw
        try dsimp only at hSw
        go_simp
        try (with_reducible rfl)
      try simp only [Act.put, List.setIfInBounds_toArray, List.set_cons_zero, List.set_cons_succ]
      refine take_at (i := 6) (d := some 18) (v := ?_) rfl rfl (by kernel_rfl) (by kernel_rfl) (by kernel_rfl) (fun _ _ _ h => h) (Or.inl ⟨by rfl, ?_⟩) hHeld ?_
      rotate_left
      · intro w hSw
        try dsimp only at hSw
        go_simp
        try (with_reducible rfl)
      try simp only [Act.put, List.setIfInBounds_toArray, List.set_cons_zero, List.set_cons_succ]
      refine take_at (i := 7) (d := some 19) (v := ?_) rfl rfl (by kernel_rfl) (by kernel_rfl) (by kernel_rfl) (fun _ _ _ h => h) (Or.inl ⟨by rfl, ?_⟩) hHeld ?_
      rotate_left
      · intro w hSw
        try dsimp only at hSw
        go_simp
        try (with_reducible rfl)
      try simp only [Act.put, List.setIfInBounds_toArray, List.set_cons_zero, List.set_cons_succ]
      refine wpAnyH_ready (rs := [8]) (by kernel_rfl) (by simp) ?_
      refine AllReadyH.cons rfl (fun K hK => ?_) AllReadyH.nil
      rw [if_pos (by rfl)]
      go_simp
      refine (HBO.out _).mono ?_
      rintro e w5 ⟨rfl, hk5⟩
      have HK5 := Lib.hid (HKR.out.drew.trans hk5)
      clear hk5
      go_wp2_with fail
      refine hK.out _ _ (SB.out _ HK5.out) (fun hHeld => ?_)
      clear hK K
      try simp only [Act.put, List.setIfInBounds_toArray, List.set_cons_zero, List.set_cons_succ]
      refine take_at (i := 9) (d := some 21) (v := ?_) rfl rfl (by kernel_rfl) (by kernel_rfl) (by kernel_rfl) (fun _ _ _ h => h) (Or.inl ⟨by rfl, ?_⟩) hHeld ?_
      rotate_left
      · intro w hSw
        try dsimp only at hSw
        go_simp
        try (with_reducible rfl)
      try simp only [Act.put, List.setIfInBounds_toArray, List.set_cons_zero, List.set_cons_succ]
      refine wpAnyH_done (by kernel_rfl) ?_ _
      by_cases hz : N = 0
      · subst hz
        go_wp2
        go_roundw
        case rel => exact ⟨k + 1, by omega, by go_num, by rw [HSU.out, HAP.out, if_pos (by simp)]; go_num, HK5.out⟩
        case measure => simp [intOf]; omega
      · have hz2 : ((N : Int) == 0) = false := by simp; omega
        go_wp2
        go_roundw
        case rel => exact ⟨k + 1, by omega, by go_num, by rw [HSU.out, HAP.out, if_neg (by simp; omega)], HK5.out⟩
        case measure => simp [intOf]; omega
    · obtain rfl : k = 6 := by omega
      go_wp2
      go_ret
      exact ⟨rfl, HK.out.trans HKR.out⟩
end Go.Proofs.YtologmoanaccpaaGreatDoor
