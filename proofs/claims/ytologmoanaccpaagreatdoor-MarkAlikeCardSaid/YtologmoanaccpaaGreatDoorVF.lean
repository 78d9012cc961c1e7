/-
  Apart of the code 39
-/
import Derived.Test.YtologmoanaccpaaGreatDoorVA
import Derived.Test.YtologmoanaccpaaGreatDoorBE
namespace Go.Proofs.YtologmoanaccpaaGreatDoor
set_option linter.all false
open Go.RowKit Go.Shelf

def apE (ms : List Mk) (fs : List Fd) (a c : Sg) : Int := fstE [smE ms fs, errB (clearB a), errB (clearB c)]
def apO (ms : List Mk) (fs : List Fd) (a c : Sg) : Int := if apE ms fs a c ≠ 0 then 0 else ((apK fs a c 6 : Nat) : Int)
theorem fstE_tri {a b c : Int} (h : fstE [a, b, c] = 0) : a = 0 ∧ b = 0 ∧ c = 0 := by
  have h2 : fstE [a, b, c, 0] = 0 := by
    unfold fstE at h ⊢
    by_cases ha : a = 0
    · rw [if_pos ha] at h ⊢
      unfold fstE at h ⊢
      by_cases hb : b = 0
      · rw [if_pos hb] at h ⊢
        unfold fstE at h ⊢
        by_cases hc : c = 0
        · rw [if_pos hc]; rfl
        · rw [if_neg hc] at h; exact absurd h hc
      · rw [if_neg hb] at h; exact absurd h hb
    · rw [if_neg ha] at h; exact absurd h ha
  obtain ⟨h3, h4, h5, _⟩ := fstE_four h2
  exact ⟨h3, h4, h5⟩
set_option maxRecDepth 100000 in
set_option maxHeartbeats 6400000 in
theorem apartX_any (A B : Option Addr) (n p m d : Nat) (ms : List Mk) (fs : List Fd) (a c : Sg) (w : World) (hs : SmA w A n p ms B m d fs) (ha : a.ok) (hc : c.ok) :
    Calls Tryz.prog 39 #[.agg #[.slice A n p, .slice B m d], .agg #[.int .u8 a.s0, .int .u8 a.s1, .int .u8 a.s2, .int .u8 a.s3, .int .u8 a.s4, .int .u8 a.s5], .agg #[.int .u8 c.s0, .int .u8 c.s1, .int .u8 c.s2, .int .u8 c.s3, .int .u8 c.s4, .int .u8 c.s5]] w fun e w' => e = .returned (.tuple #[.int .i64 (apO ms fs a c), .int .i64 (apE ms fs a c)]) ∧ Kept w w' := by
  obtain ⟨Wa, hWa⟩ : ∃ Wa, Wa = w.alloc (.cells #[.slice A n p, .slice B m d] 25) := ⟨_, rfl⟩
  obtain ⟨Wb, hWb⟩ : ∃ Wb, Wb = Wa.alloc (.cells #[.int .u8 a.s0, .int .u8 a.s1, .int .u8 a.s2, .int .u8 a.s3, .int .u8 a.s4, .int .u8 a.s5] 39) := ⟨_, rfl⟩
  obtain ⟨W0, hW0⟩ : ∃ W0, W0 = Wb.alloc (.cells #[.int .u8 c.s0, .int .u8 c.s1, .int .u8 c.s2, .int .u8 c.s3, .int .u8 c.s4, .int .u8 c.s5] 39) := ⟨_, rfl⟩
  have ka : Kept w Wa := by rw [hWa]; exact (Kept.refl _).alloc _
  have kb : Kept Wa Wb := by rw [hWb]; exact (Kept.refl _).alloc _
  have kc : Kept Wb W0 := by rw [hW0]; exact (Kept.refl _).alloc _
  have K0 : RowKit.Hid (Kept w W0) := Lib.hid ((ka.trans kb).trans kc)
  have za : Wa.heap.size = w.heap.size + 1 := by rw [hWa]; simp
  have zb : Wb.heap.size = w.heap.size + 1 + 1 := by rw [hWb]; simp [za]
  have RA : RowKit.Hid (RowC W0 w.heap.size [.slice A n p, .slice B m d]) := Lib.hid (RowC.kept (by rw [hWa]; exact RowC.new w [.slice A n p, .slice B m d] 25) (kb.trans kc))
  have RB : RowKit.Hid (RowC W0 (w.heap.size + 1) (sgV a)) := Lib.hid (by rw [← za]; exact RowC.kept (by rw [hWb]; exact RowC.new Wa (sgV a) 39) kc)
  have RC : RowKit.Hid (RowC W0 (w.heap.size + 1 + 1) (sgV c)) := Lib.hid (by rw [← zb, hW0]; exact RowC.new Wb (sgV c) 39)
  have HW := Lib.hid hW0
  have HWB := Lib.hid hWb
  have HWA := Lib.hid hWa
  have HS := Lib.hid (hs.kept K0.out)
  obtain ⟨E1, hE1⟩ : ∃ E, smE ms fs = E := ⟨_, rfl⟩
  obtain ⟨b2, hb2⟩ : ∃ b, clearB a = b := ⟨_, rfl⟩
  obtain ⟨b3, hb3⟩ : ∃ b, clearB c = b := ⟨_, rfl⟩
  obtain ⟨v2, hv2⟩ : ∃ v, errB b2 = v := ⟨_, rfl⟩
  obtain ⟨v3, hv3⟩ : ∃ v, errB b3 = v := ⟨_, rfl⟩
  obtain ⟨E, hE⟩ : ∃ E, fstE [E1, v2, v3] = E := ⟨_, rfl⟩
  have hEE : apE ms fs a c = E := by unfold apE; rw [hE1, hb2, hb3, hv2, hv3, hE]
  have HEE := Lib.hid hEE
  have H25 : RowKit.Hid (∀ W, Kept W0 W → Calls Tryz.prog 25 #[.agg #[.slice A n p, .slice B m d]] W fun e w' => e = .returned (.int .i64 E1) ∧ Kept W w') := Lib.hid (fun W hW => by rw [← hE1]; exact checkSmits_any A B n p m d ms fs W (HS.out.kept hW))
  have HCa : RowKit.Hid (∀ W, Calls Tryz.prog 102 #[.agg #[.int .u8 a.s0, .int .u8 a.s1, .int .u8 a.s2, .int .u8 a.s3, .int .u8 a.s4, .int .u8 a.s5]] W fun e w' => e = .returned (.bool b2) ∧ Kept W w') := Lib.hid (fun W => by rw [← hb2]; exact isClear_any a ha W)
  have HCc : RowKit.Hid (∀ W, Calls Tryz.prog 102 #[.agg #[.int .u8 c.s0, .int .u8 c.s1, .int .u8 c.s2, .int .u8 c.s3, .int .u8 c.s4, .int .u8 c.s5]] W fun e w' => e = .returned (.bool b3) ∧ Kept W w') := Lib.hid (fun W => by rw [← hb3]; exact isClear_any c hc W)
  have HV2 : RowKit.Hid (∀ W, Calls Tryz.prog 74 #[.bool b2] W fun e w' => e = .returned (.int .i64 v2) ∧ W = w') := Lib.hid (fun W => by rw [← hv2]; exact valid_any b2 W)
  have HV3 : RowKit.Hid (∀ W, Calls Tryz.prog 74 #[.bool b3] W fun e w' => e = .returned (.int .i64 v3) ∧ W = w') := Lib.hid (fun W => by rw [← hv3]; exact valid_any b3 W)
  have H73 : RowKit.Hid (∀ W g, RowC W g [.int .i64 E1, .int .i64 v2, .int .i64 v3] → Calls Tryz.prog 73 #[.slice (some ⟨g, 0, none⟩) 3 3] W fun e w' => e = .returned (.int .i64 E) ∧ W = w') := Lib.hid (fun W g hr => by
    rw [← hE]
    exact firstError_any g 0 3 3 [E1, v2, v3] rfl (by omega) W (intsR hr))
  have HAP : RowKit.Hid (E = 0 → (∀ W, Kept W0 W → Calls Tryz.prog 103 #[.slice B m d] W fun e w' => e = .returned (lkV fs) ∧ Kept W w') ∧ ∀ W, Calls Tryz.prog 101 #[lkV fs, .agg #[.int .u8 a.s0, .int .u8 a.s1, .int .u8 a.s2, .int .u8 a.s3, .int .u8 a.s4, .int .u8 a.s5], .agg #[.int .u8 c.s0, .int .u8 c.s1, .int .u8 c.s2, .int .u8 c.s3, .int .u8 c.s4, .int .u8 c.s5]] W fun e w' => e = .returned (.int .i64 ((apK fs a c 6 : Nat) : Int)) ∧ Kept W w') := Lib.hid (fun h0 => by
    rw [← hE] at h0
    obtain ⟨e1, e2, e3⟩ := fstE_tri h0
    obtain ⟨_, _, _, hfv, _, _⟩ := sm_ok (hE1.trans e1)
    exact ⟨fun W hW => looksOf_any B m d fs W (HS.out.2.kept hW) hfv, fun W => apart_any fs a c (fade4 hfv) ha hc (hb2.trans (errB_ok (hv2.trans e2))) (hb3.trans (errB_ok (hv3.trans e3))) W⟩)
  have SC : RowKit.Hid (∀ W, Kept W0 W → W.cell? ⟨w.heap.size, 0, none⟩ = some (.slice A n p) ∧ W.cell? ⟨w.heap.size, 1, none⟩ = some (.slice B m d) ∧ W.cell? ⟨w.heap.size + 1, 0, none⟩ = some (.int .u8 a.s0) ∧ W.cell? ⟨w.heap.size + 1, 1, none⟩ = some (.int .u8 a.s1) ∧ W.cell? ⟨w.heap.size + 1, 2, none⟩ = some (.int .u8 a.s2) ∧ W.cell? ⟨w.heap.size + 1, 3, none⟩ = some (.int .u8 a.s3) ∧ W.cell? ⟨w.heap.size + 1, 4, none⟩ = some (.int .u8 a.s4) ∧ W.cell? ⟨w.heap.size + 1, 5, none⟩ = some (.int .u8 a.s5) ∧ W.cell? ⟨w.heap.size + 1 + 1, 0, none⟩ = some (.int .u8 c.s0) ∧ W.cell? ⟨w.heap.size + 1 + 1, 1, none⟩ = some (.int .u8 c.s1) ∧ W.cell? ⟨w.heap.size + 1 + 1, 2, none⟩ = some (.int .u8 c.s2) ∧ W.cell? ⟨w.heap.size + 1 + 1, 3, none⟩ = some (.int .u8 c.s3) ∧ W.cell? ⟨w.heap.size + 1 + 1, 4, none⟩ = some (.int .u8 c.s4) ∧ W.cell? ⟨w.heap.size + 1 + 1, 5, none⟩ = some (.int .u8 c.s5) ∧ Kept W0 W) := Lib.hid (fun W hW => ⟨(RA.out.kept hW 0 _ rfl).1, (RA.out.kept hW 1 _ rfl).1, (RB.out.kept hW 0 _ rfl).1, (RB.out.kept hW 1 _ rfl).1, (RB.out.kept hW 2 _ rfl).1, (RB.out.kept hW 3 _ rfl).1, (RB.out.kept hW 4 _ rfl).1, (RB.out.kept hW 5 _ rfl).1, (RC.out.kept hW 0 _ rfl).1, (RC.out.kept hW 1 _ rfl).1, (RC.out.kept hW 2 _ rfl).1, (RC.out.kept hW 3 _ rfl).1, (RC.out.kept hW 4 _ rfl).1, (RC.out.kept hW 5 _ rfl).1, hW⟩)
  clear hWa hWb hW0 ka kb kc za zb hs ha hc hE1 hb2 hb3 hv2 hv3 hE hEE
  go_enter Tryz.func39, Tryz.ntmps39
  go_upto_region 1 with (fail)
  rw [← HWA.out, ← HWB.out, ← HW.out]
  have KD := Lib.hid ((Kept.refl W0).drew)
  refine wp_region_held_drew (S := fun W => W.cell? ⟨w.heap.size, 0, none⟩ = some (.slice A n p) ∧ W.cell? ⟨w.heap.size, 1, none⟩ = some (.slice B m d) ∧ W.cell? ⟨w.heap.size + 1, 0, none⟩ = some (.int .u8 a.s0) ∧ W.cell? ⟨w.heap.size + 1, 1, none⟩ = some (.int .u8 a.s1) ∧ W.cell? ⟨w.heap.size + 1, 2, none⟩ = some (.int .u8 a.s2) ∧ W.cell? ⟨w.heap.size + 1, 3, none⟩ = some (.int .u8 a.s3) ∧ W.cell? ⟨w.heap.size + 1, 4, none⟩ = some (.int .u8 a.s4) ∧ W.cell? ⟨w.heap.size + 1, 5, none⟩ = some (.int .u8 a.s5) ∧ W.cell? ⟨w.heap.size + 1 + 1, 0, none⟩ = some (.int .u8 c.s0) ∧ W.cell? ⟨w.heap.size + 1 + 1, 1, none⟩ = some (.int .u8 c.s1) ∧ W.cell? ⟨w.heap.size + 1 + 1, 2, none⟩ = some (.int .u8 c.s2) ∧ W.cell? ⟨w.heap.size + 1 + 1, 3, none⟩ = some (.int .u8 c.s3) ∧ W.cell? ⟨w.heap.size + 1 + 1, 4, none⟩ = some (.int .u8 c.s4) ∧ W.cell? ⟨w.heap.size + 1 + 1, 5, none⟩ = some (.int .u8 c.s5) ∧ Kept W0 W) (by kernel_rfl) (SC.out _ KD.out) (fun hHeld => ?_)
  refine take_at (i := 0) (d := some 9) (v := ?_) rfl rfl (by kernel_rfl) (by kernel_rfl) (by kernel_rfl) (fun _ _ _ h => h) (Or.inl ⟨by rfl, ?_⟩) hHeld ?_
  rotate_left
  · intro w hSw
    try dsimp only at hSw
    go_simp
    try (with_reducible rfl)
  try simp only [Act.put, List.setIfInBounds_toArray, List.set_cons_zero, List.set_cons_succ]
  refine take_at (i := 2) (d := some 11) (v := ?_) rfl rfl (by kernel_rfl) (by kernel_rfl) (by kernel_rfl) (fun _ _ _ h => h) (Or.inl ⟨by rfl, ?_⟩) hHeld ?_
  rotate_left
  · intro w hSw
    try dsimp only at hSw
    go_simp
    try (with_reducible rfl)
  try simp only [Act.put, List.setIfInBounds_toArray, List.set_cons_zero, List.set_cons_succ]
  refine take_at (i := 3) (d := some 12) (v := ?_) rfl rfl (by kernel_rfl) (by kernel_rfl) (by kernel_rfl) (fun _ _ _ h => h) (Or.inl ⟨by rfl, ?_⟩) hHeld ?_
  rotate_left
  · intro w hSw
    try dsimp only at hSw
    go_simp
    try (with_reducible rfl)
  try simp only [Act.put, List.setIfInBounds_toArray, List.set_cons_zero, List.set_cons_succ]
  refine take_at (i := 6) (d := some 15) (v := ?_) rfl rfl (by kernel_rfl) (by kernel_rfl) (by kernel_rfl) (fun _ _ _ h => h) (Or.inl ⟨by rfl, ?_⟩) hHeld ?_
  rotate_left
  · intro w hSw
    try dsimp only at hSw
    go_simp
    try (with_reducible rfl)
  try simp only [Act.put, List.setIfInBounds_toArray, List.set_cons_zero, List.set_cons_succ]
  refine take_at (i := 7) (d := some 16) (v := ?_) rfl rfl (by kernel_rfl) (by kernel_rfl) (by kernel_rfl) (fun _ _ _ h => h) (Or.inl ⟨by rfl, ?_⟩) hHeld ?_
  rotate_left
  · intro w hSw
    try dsimp only at hSw
    go_simp
    try (with_reducible rfl)
  try simp only [Act.put, List.setIfInBounds_toArray, List.set_cons_zero, List.set_cons_succ]
  refine wpAnyH_ready (rs := [1]) (by kernel_rfl) (by simp) ?_
  refine AllReadyH.cons rfl (fun K hK => ?_) AllReadyH.nil
  rw [if_pos (by rfl)]
  go_simp
  refine (H25.out _ KD.out).mono ?_
  rintro e w1 ⟨rfl, hk⟩
  have K1 := Lib.hid (KD.out.trans hk)
  clear hk
  go_wp2_with fail
  refine hK.out _ _ (SC.out _ K1.out) (fun hHeld => ?_)
  clear hK K
  try simp only [Act.put, List.setIfInBounds_toArray, List.set_cons_zero, List.set_cons_succ]
  refine wpAnyH_ready (rs := [4]) (by kernel_rfl) (by simp) ?_
  refine AllReadyH.cons rfl (fun K hK => ?_) AllReadyH.nil
  rw [if_pos (by rfl)]
  go_simp
  refine (HCa.out _).mono ?_
  rintro e w2 ⟨rfl, hk⟩
  have K2 := Lib.hid (K1.out.trans hk)
  clear hk
  go_wp2_with fail
  refine hK.out _ _ (SC.out _ K2.out) (fun hHeld => ?_)
  clear hK K
  try simp only [Act.put, List.setIfInBounds_toArray, List.set_cons_zero, List.set_cons_succ]
  refine wpAnyH_ready (rs := [5]) (by kernel_rfl) (by simp) ?_
  refine AllReadyH.cons rfl (fun K hK => ?_) AllReadyH.nil
  rw [if_pos (by rfl)]
  go_simp
  refine (HV2.out _).mono ?_
  rintro e w3 ⟨rfl, rfl⟩
  go_wp2_with fail
  refine hK.out _ _ (SC.out _ K2.out) (fun hHeld => ?_)
  clear hK K
  try simp only [Act.put, List.setIfInBounds_toArray, List.set_cons_zero, List.set_cons_succ]
  refine wpAnyH_ready (rs := [8]) (by kernel_rfl) (by simp) ?_
  refine AllReadyH.cons rfl (fun K hK => ?_) AllReadyH.nil
  rw [if_pos (by rfl)]
  go_simp
  refine (HCc.out _).mono ?_
  rintro e w4 ⟨rfl, hk⟩
  have K4 := Lib.hid (K2.out.trans hk)
  clear hk
  go_wp2_with fail
  refine hK.out _ _ (SC.out _ K4.out) (fun hHeld => ?_)
  clear hK K
  try simp only [Act.put, List.setIfInBounds_toArray, List.set_cons_zero, List.set_cons_succ]
  refine wpAnyH_ready (rs := [9]) (by kernel_rfl) (by simp) ?_
  refine AllReadyH.cons rfl (fun K hK => ?_) AllReadyH.nil
  rw [if_pos (by rfl)]
  go_simp
  refine (HV3.out _).mono ?_
  rintro e w5 ⟨rfl, rfl⟩
  go_wp2_with fail
  refine hK.out _ _ (SC.out _ K4.out) (fun hHeld => ?_)
  clear hK K
  try simp only [Act.put, List.setIfInBounds_toArray, List.set_cons_zero, List.set_cons_succ]
  refine wpAnyH_ready (rs := [10]) (by kernel_rfl) (by simp) ?_
  refine AllReadyH.cons rfl (fun K hK => ?_) AllReadyH.nil
  rw [if_pos (by rfl)]
  go_simp
  refine hK.out _ _ (SC.out _ (K4.out.alloc _)) (fun hHeld => ?_)
  clear hK K
  try simp only [Act.put, List.setIfInBounds_toArray, List.set_cons_zero, List.set_cons_succ]
  refine wpAnyH_ready (rs := [11]) (by kernel_rfl) (by simp) ?_
  refine AllReadyH.cons rfl (fun K hK => ?_) AllReadyH.nil
  rw [if_pos (by rfl)]
  go_simp
  refine (H73.out _ _ (RowC.new _ _ _)).mono ?_
  rintro e w6 ⟨rfl, rfl⟩
  go_wp2_with fail
  refine hK.out _ _ (SC.out _ (K4.out.alloc _)) (fun hHeld => ?_)
  clear hK K
  try simp only [Act.put, List.setIfInBounds_toArray, List.set_cons_zero, List.set_cons_succ]
  refine take_at (i := 12) (d := some 8) (v := ?_) rfl rfl (by kernel_rfl) (by kernel_rfl) (by kernel_rfl) (fun _ _ _ h => h) (Or.inl ⟨by rfl, ?_⟩) hHeld ?_
  rotate_left
  · intro w hSw
    try dsimp only at hSw
    go_simp
    try (with_reducible rfl)
  try simp only [Act.put, List.setIfInBounds_toArray, List.set_cons_zero, List.set_cons_succ]
  refine wpAnyH_done (by kernel_rfl) ?_ _
  obtain ⟨w7, hw7⟩ : ∃ w7, w7 = w4.alloc (.cells #[.int .i64 E1, .int .i64 v2, .int .i64 v3] 27) := ⟨_, rfl⟩
  have K7 := Lib.hid (show Kept W0 w7 by rw [hw7]; exact K4.out.alloc _)
  try rw [← hw7]
  clear hw7
  by_cases hz : E = 0
  · subst hz
    obtain ⟨h103, h101⟩ := HAP.out rfl
    have H103 := Lib.hid h103
    have H101 := Lib.hid h101
    have HO : RowKit.Hid (apO ms fs a c = ((apK fs a c 6 : Nat) : Int)) := Lib.hid (by unfold apO; rw [if_neg (fun h => h HEE.out)])
    clear h103 h101
    go_upto_region 4 with (fail)
    have KE := Lib.hid (show Kept W0 w7.drew from K7.out.drew)
    refine wp_region_held_drew (S := fun W => W.cell? ⟨w.heap.size, 0, none⟩ = some (.slice A n p) ∧ W.cell? ⟨w.heap.size, 1, none⟩ = some (.slice B m d) ∧ W.cell? ⟨w.heap.size + 1, 0, none⟩ = some (.int .u8 a.s0) ∧ W.cell? ⟨w.heap.size + 1, 1, none⟩ = some (.int .u8 a.s1) ∧ W.cell? ⟨w.heap.size + 1, 2, none⟩ = some (.int .u8 a.s2) ∧ W.cell? ⟨w.heap.size + 1, 3, none⟩ = some (.int .u8 a.s3) ∧ W.cell? ⟨w.heap.size + 1, 4, none⟩ = some (.int .u8 a.s4) ∧ W.cell? ⟨w.heap.size + 1, 5, none⟩ = some (.int .u8 a.s5) ∧ W.cell? ⟨w.heap.size + 1 + 1, 0, none⟩ = some (.int .u8 c.s0) ∧ W.cell? ⟨w.heap.size + 1 + 1, 1, none⟩ = some (.int .u8 c.s1) ∧ W.cell? ⟨w.heap.size + 1 + 1, 2, none⟩ = some (.int .u8 c.s2) ∧ W.cell? ⟨w.heap.size + 1 + 1, 3, none⟩ = some (.int .u8 c.s3) ∧ W.cell? ⟨w.heap.size + 1 + 1, 4, none⟩ = some (.int .u8 c.s4) ∧ W.cell? ⟨w.heap.size + 1 + 1, 5, none⟩ = some (.int .u8 c.s5) ∧ Kept W0 W) (by kernel_rfl) (SC.out _ KE.out) (fun hHeld => ?_)
    refine take_at (i := 0) (d := some 24) (v := ?_) rfl rfl (by kernel_rfl) (by kernel_rfl) (by kernel_rfl) (fun _ _ _ h => h) (Or.inl ⟨by rfl, ?_⟩) hHeld ?_
    rotate_left
    · intro w hSw
      try dsimp only at hSw
      go_simp
      try (with_reducible rfl)
    try simp only [Act.put, List.setIfInBounds_toArray, List.set_cons_zero, List.set_cons_succ]
    refine take_at (i := 1) (d := some 25) (v := ?_) rfl rfl (by kernel_rfl) (by kernel_rfl) (by kernel_rfl) (fun _ _ _ h => h) (Or.inl ⟨by rfl, ?_⟩) hHeld ?_
    rotate_left
    · intro w hSw
      try dsimp only at hSw
      go_simp
      try (with_reducible rfl)
    try simp only [Act.put, List.setIfInBounds_toArray, List.set_cons_zero, List.set_cons_succ]
    refine take_at (i := 3) (d := some 27) (v := ?_) rfl rfl (by kernel_rfl) (by kernel_rfl) (by kernel_rfl) (fun _ _ _ h => h) (Or.inl ⟨by rfl, ?_⟩) hHeld ?_
    rotate_left
    · intro w hSw
      try dsimp only at hSw
      go_simp
      try (with_reducible rfl)
    try simp only [Act.put, List.setIfInBounds_toArray, List.set_cons_zero, List.set_cons_succ]
    refine take_at (i := 4) (d := some 28) (v := ?_) rfl rfl (by kernel_rfl) (by kernel_rfl) (by kernel_rfl) (fun _ _ _ h => h) (Or.inl ⟨by rfl, ?_⟩) hHeld ?_
    rotate_left
    · intro w hSw
      try dsimp only at hSw
      go_simp
      try (with_reducible rfl)
    try simp only [Act.put, List.setIfInBounds_toArray, List.set_cons_zero, List.set_cons_succ]
    refine take_at (i := 5) (d := some 29) (v := ?_) rfl rfl (by kernel_rfl) (by kernel_rfl) (by kernel_rfl) (fun _ _ _ h => h) (Or.inl ⟨by rfl, ?_⟩) hHeld ?_
    rotate_left
    · intro w hSw
      try dsimp only at hSw
      go_simp
      try (with_reducible rfl)
    try simp only [Act.put, List.setIfInBounds_toArray, List.set_cons_zero, List.set_cons_succ]
    refine take_at (i := 6) (d := some 30) (v := ?_) rfl rfl (by kernel_rfl) (by kernel_rfl) (by kernel_rfl) (fun _ _ _ h => h) (Or.inl ⟨by rfl, ?_⟩) hHeld ?_
    rotate_left
    · intro w hSw
      try dsimp only at hSw
      go_simp
      try (with_reducible rfl)
    try simp only [Act.put, List.setIfInBounds_toArray, List.set_cons_zero, List.set_cons_succ]
    refine wpAnyH_ready (rs := [2]) (by kernel_rfl) (by simp) ?_
    refine AllReadyH.cons rfl (fun K hK => ?_) AllReadyH.nil
    rw [if_pos (by rfl)]
    go_simp
    refine (H103.out _ KE.out).mono ?_
    rintro e w8 ⟨rfl, hk⟩
    have K8 := Lib.hid (KE.out.trans hk)
    clear hk
    go_wp2_with fail
    refine hK.out _ _ (SC.out _ K8.out) (fun hHeld => ?_)
    clear hK K
    try simp only [Act.put, List.setIfInBounds_toArray, List.set_cons_zero, List.set_cons_succ]
    refine wpAnyH_ready (rs := [7]) (by kernel_rfl) (by simp) ?_
    refine AllReadyH.cons rfl (fun K hK => ?_) AllReadyH.nil
    rw [if_pos (by rfl)]
    go_simp
    refine (H101.out _).mono ?_
    rintro e w9 ⟨rfl, hk⟩
    have K9 := Lib.hid (K8.out.trans hk)
    clear hk
    go_wp2_with fail
    refine hK.out _ _ (SC.out _ K9.out) (fun hHeld => ?_)
    clear hK K
    try simp only [Act.put, List.setIfInBounds_toArray, List.set_cons_zero, List.set_cons_succ]
    refine take_at (i := 8) (d := some 6) (v := ?_) rfl rfl (by kernel_rfl) (by kernel_rfl) (by kernel_rfl) (fun _ _ _ h => h) (Or.inl ⟨by rfl, ?_⟩) hHeld ?_
    rotate_left
    · intro w hSw
      try dsimp only at hSw
      go_simp
      try (with_reducible rfl)
    try simp only [Act.put, List.setIfInBounds_toArray, List.set_cons_zero, List.set_cons_succ]
    refine take_at (i := 9) (d := some 7) (v := ?_) rfl rfl (by kernel_rfl) (by kernel_rfl) (by kernel_rfl) (fun _ _ _ h => h) (Or.inl ⟨by rfl, ?_⟩) hHeld ?_
    rotate_left
    · intro w hSw
      try dsimp only at hSw
      go_simp
      try (with_reducible rfl)
    try simp only [Act.put, List.setIfInBounds_toArray, List.set_cons_zero, List.set_cons_succ]
    refine wpAnyH_done (by kernel_rfl) ?_ _
    go_wp2
    go_ret2
    rw [HO.out, HEE.out]
    exact ⟨rfl, K0.out.trans K9.out⟩
  · have h1 : (E != 0) = true := by simpa using hz
    have HO : RowKit.Hid (apO ms fs a c = 0) := Lib.hid (by unfold apO; rw [if_pos (by rw [HEE.out]; exact hz)])
    go_wp2_with fail
    go_ret2
    rw [HO.out, HEE.out]
    exact ⟨rfl, K0.out.trans K7.out⟩
end Go.Proofs.YtologmoanaccpaaGreatDoor
