/-
  the owners whom a sight fits, and whether it fits one: ownersOf, Owners, Fits
-/
import Derived.Test.YtologmoanaccpaaGreatDoorMs
import Derived.Test.YtologmoanaccpaaGreatDoorNb
namespace Go.Proofs.YtologmoanaccpaaGreatDoor
set_option linter.all false
open Go.RowKit Go.Shelf

def sgL (s : Sg) : List Value := [.int .u8 s.s0, .int .u8 s.s1, .int .u8 s.s2, .int .u8 s.s3, .int .u8 s.s4, .int .u8 s.s5]
def owE (ms : List Mk) (fs : List Fd) (day : Int) (s : Sg) : Int := fstE [smE ms fs, errB (inB day 0 100000), errB (sightB s)]
def ftE (ms : List Mk) (fs : List Fd) (day : Int) (s : Sg) (owner : Int) : Int := fstE [smE ms fs, errB (inB day 0 100000), errB (inB owner 1 40), errB (sightB s)]
theorem fstE_three {a b c : Int} (h : fstE [a, b, c] = 0) : a = 0 ∧ b = 0 ∧ c = 0 := by
  have := fstE_four (a := 0) (b := a) (c := b) (d := c) (by unfold fstE; rw [if_pos rfl]; exact h)
  exact ⟨this.2.1, this.2.2.1, this.2.2.2⟩
def OwP (w : World) (ms : List Mk) (fs : List Fd) (day : Int) (s : Sg) (e : Ending) (w' : World) : Prop :=
  ((owE ms fs day s ≠ 0 ∧ e = .returned (.tuple #[.int .u64 0, .int .i64 (owE ms fs day s)])) ∨
   (owE ms fs day s = 0 ∧ ownD ms fs day s < 2 ^ 64 ∧ e = .returned (.tuple #[.int .u64 ((ownD ms fs day s : Nat) : Int), .int .i64 0]))) ∧ Kept w w'
def FtP (w : World) (ms : List Mk) (fs : List Fd) (day : Int) (s : Sg) (owner : Int) (e : Ending) (w' : World) : Prop :=
  ((ftE ms fs day s owner ≠ 0 ∧ e = .returned (.tuple #[.bool false, .int .i64 (ftE ms fs day s owner)])) ∨
   (ftE ms fs day s owner = 0 ∧ e = .returned (.tuple #[.bool ((ownD ms fs day s).testBit owner.toNat), .int .i64 0]))) ∧ Kept w w'

set_option maxRecDepth 100000 in
set_option maxHeartbeats 6400000 in
theorem ownersOf_any (A B : Option Addr) (n c m d : Nat) (ms : List Mk) (fs : List Fd) (day : Int) (s : Sg) (w : World) (hs : SmA w A n c ms B m d fs) (hso : s.ok) :
    Calls Tryz.prog 95 #[.agg #[.slice A n c, .slice B m d], .int .i64 day, .agg #[.int .u8 s.s0, .int .u8 s.s1, .int .u8 s.s2, .int .u8 s.s3, .int .u8 s.s4, .int .u8 s.s5]] w (OwP w ms fs day s) := by
  obtain ⟨W0, hW0⟩ : ∃ W0, W0 = (w.alloc (.cells #[.slice A n c, .slice B m d] 25)).alloc (.cells #[.int .u8 s.s0, .int .u8 s.s1, .int .u8 s.s2, .int .u8 s.s3, .int .u8 s.s4, .int .u8 s.s5] 39) := ⟨_, rfl⟩
  have K0 : RowKit.Hid (Kept w W0) := Lib.hid (by rw [hW0]; exact ((Kept.refl _).alloc _).alloc _)
  have R0 : RowKit.Hid (RowC W0 w.heap.size [.slice A n c, .slice B m d]) := Lib.hid (by rw [hW0]; exact (RowC.new w [.slice A n c, .slice B m d] 25).kept ((Kept.refl _).alloc _))
  have R1 : RowKit.Hid (RowC W0 (w.heap.size + 1) (sgL s)) := Lib.hid (by rw [hW0]; have h := RowC.new (w.alloc (.cells #[.slice A n c, .slice B m d] 25)) (sgL s) 39; rwa [World.size_alloc] at h)
  have HW := Lib.hid hW0
  have HS := Lib.hid (hs.kept K0.out)
  have HSO := Lib.hid hso
  obtain ⟨E1, hE1⟩ : ∃ E, smE ms fs = E := ⟨_, rfl⟩
  obtain ⟨b2, hb2⟩ : ∃ b, inB day 0 100000 = b := ⟨_, rfl⟩
  obtain ⟨b4, hb4⟩ : ∃ b, sightB s = b := ⟨_, rfl⟩
  obtain ⟨v2, hv2⟩ : ∃ v, errB b2 = v := ⟨_, rfl⟩
  obtain ⟨v4, hv4⟩ : ∃ v, errB b4 = v := ⟨_, rfl⟩
  obtain ⟨E, hE⟩ : ∃ E, fstE [E1, v2, v4] = E := ⟨_, rfl⟩
  have HE : RowKit.Hid (owE ms fs day s = E) := Lib.hid (by unfold owE; rw [hE1, hb2, hb4, hv2, hv4, hE])
  have H14 : RowKit.Hid (∀ W, Kept W0 W → Calls Tryz.prog 25 #[.agg #[.slice A n c, .slice B m d]] W fun e w' => e = .returned (.int .i64 E1) ∧ Kept W w') := Lib.hid (fun W hW => by rw [← hE1]; exact checkSmits_any A B n c m d ms fs W (HS.out.kept hW))
  have H16 : RowKit.Hid (∀ W, Calls Tryz.prog 75 #[.int .i64 day] W fun e w' => e = .returned (.bool b2) ∧ W = w') := Lib.hid (fun W => by rw [← hb2]; exact isDay_any _ W)
  have H25 : RowKit.Hid (∀ W, Calls Tryz.prog 89 #[.agg #[.int .u8 s.s0, .int .u8 s.s1, .int .u8 s.s2, .int .u8 s.s3, .int .u8 s.s4, .int .u8 s.s5]] W fun e w' => e = .returned (.bool b4) ∧ Kept W w') := Lib.hid (fun W => by rw [← hb4]; exact isSight_any s HSO.out W)
  have HV2 : RowKit.Hid (∀ W, Calls Tryz.prog 74 #[.bool b2] W fun e w' => e = .returned (.int .i64 v2) ∧ W = w') := Lib.hid (fun W => by rw [← hv2]; exact valid_any b2 W)
  have HV4 : RowKit.Hid (∀ W, Calls Tryz.prog 74 #[.bool b4] W fun e w' => e = .returned (.int .i64 v4) ∧ W = w') := Lib.hid (fun W => by rw [← hv4]; exact valid_any b4 W)
  have H13 : RowKit.Hid (∀ W g, RowC W g [.int .i64 E1, .int .i64 v2, .int .i64 v4] → Calls Tryz.prog 73 #[.slice (some ⟨g, 0, none⟩) 3 3] W fun e w' => e = .returned (.int .i64 E) ∧ W = w') := Lib.hid (fun W g hr => by
    rw [← hE]
    exact firstError_any g 0 3 3 [E1, v2, v4] rfl (by omega) W (intsR hr))
  have HE1 := Lib.hid hE1
  have HB2 := Lib.hid hb2
  have HB4 := Lib.hid hb4
  have HV4' := Lib.hid hv4
  have HEE := Lib.hid hE
  clear hW0 hs hso hE1 hb2 hb4 hE hv2 hv4
  have a0 := (R0.out 0 _ rfl).1
  have a1 := (R0.out 1 _ rfl).1
  go_enter Tryz.func95, Tryz.ntmps95
  go_upto_region 1 with (fail)
  rw [← HW.out]
  clear a0 a1
  refine wp_region_held_drew (S := fun W' => W'.cell? ⟨w.heap.size, 0, none⟩ = some (.slice A n c) ∧ W'.cell? ⟨w.heap.size, 1, none⟩ = some (.slice B m d) ∧ W'.cell? ⟨w.heap.size + 1, 0, none⟩ = some (.int .u8 s.s0) ∧ W'.cell? ⟨w.heap.size + 1, 1, none⟩ = some (.int .u8 s.s1) ∧ W'.cell? ⟨w.heap.size + 1, 2, none⟩ = some (.int .u8 s.s2) ∧ W'.cell? ⟨w.heap.size + 1, 3, none⟩ = some (.int .u8 s.s3) ∧ W'.cell? ⟨w.heap.size + 1, 4, none⟩ = some (.int .u8 s.s4) ∧ W'.cell? ⟨w.heap.size + 1, 5, none⟩ = some (.int .u8 s.s5)) (by kernel_rfl) (⟨(R0.out 0 _ rfl).1, (R0.out 1 _ rfl).1, (R1.out 0 _ rfl).1, (R1.out 1 _ rfl).1, (R1.out 2 _ rfl).1, (R1.out 3 _ rfl).1, (R1.out 4 _ rfl).1, (R1.out 5 _ rfl).1⟩) (fun hHeld => ?_)
  refine take_at (i := 0) (d := some 9) (v := ?_) rfl rfl (by kernel_rfl) (by kernel_rfl) (by kernel_rfl) (fun _ _ _ h => h) (Or.inl ⟨by rfl, ?_⟩) hHeld ?_
  rotate_left
  · intro w hSw
    try dsimp only at hSw
    go_simp
    try (with_reducible rfl)
  try simp only [Act.put, List.setIfInBounds_toArray, List.set_cons_zero, List.set_cons_succ]
  refine take_at (i := 2) (d := some 11) (v := ?_) rfl rfl (by kernel_rfl) (by kernel_rfl) (by kernel_rfl) (fun _ _ _ h => h) (Or.inl ⟨by rfl, ?_⟩) hHeld ?_
  rotate_left
  · intro w hSw
    try dsimp only at hSw
    go_simp
    try (with_reducible rfl)
  try simp only [Act.put, List.setIfInBounds_toArray, List.set_cons_zero, List.set_cons_succ]
  refine take_at (i := 5) (d := some 14) (v := ?_) rfl rfl (by kernel_rfl) (by kernel_rfl) (by kernel_rfl) (fun _ _ _ h => h) (Or.inl ⟨by rfl, ?_⟩) hHeld ?_
  rotate_left
  · intro w hSw
    try dsimp only at hSw
    go_simp
    try (with_reducible rfl)
  try simp only [Act.put, List.setIfInBounds_toArray, List.set_cons_zero, List.set_cons_succ]
  refine wpAnyH_ready (rs := [1]) (by kernel_rfl) (by simp) ?_
  refine AllReadyH.cons rfl (fun K hK => ?_) AllReadyH.nil
  rw [if_pos (by rfl)]
  go_simp
  refine (H14.out _ (Kept.refl W0).drew).mono ?_
  rintro e w1 ⟨rfl, hk1⟩
  have K1 := Lib.hid (((Kept.refl W0).drew).trans hk1)
  clear hk1
  go_wp2_with fail
  refine hK.out _ _ (⟨(R0.out.kept K1.out 0 _ rfl).1, (R0.out.kept K1.out 1 _ rfl).1, (R1.out.kept K1.out 0 _ rfl).1, (R1.out.kept K1.out 1 _ rfl).1, (R1.out.kept K1.out 2 _ rfl).1, (R1.out.kept K1.out 3 _ rfl).1, (R1.out.kept K1.out 4 _ rfl).1, (R1.out.kept K1.out 5 _ rfl).1⟩) (fun hHeld => ?_)
  clear hK K
  try simp only [Act.put, List.setIfInBounds_toArray, List.set_cons_zero, List.set_cons_succ]
  refine wpAnyH_ready (rs := [3]) (by kernel_rfl) (by simp) ?_
  refine AllReadyH.cons rfl (fun K hK => ?_) AllReadyH.nil
  rw [if_pos (by rfl)]
  go_simp
  refine (H16.out _).mono ?_
  rintro e w2 ⟨rfl, rfl⟩
  go_wp2_with fail
  refine hK.out _ _ (⟨(R0.out.kept K1.out 0 _ rfl).1, (R0.out.kept K1.out 1 _ rfl).1, (R1.out.kept K1.out 0 _ rfl).1, (R1.out.kept K1.out 1 _ rfl).1, (R1.out.kept K1.out 2 _ rfl).1, (R1.out.kept K1.out 3 _ rfl).1, (R1.out.kept K1.out 4 _ rfl).1, (R1.out.kept K1.out 5 _ rfl).1⟩) (fun hHeld => ?_)
  clear hK K
  try simp only [Act.put, List.setIfInBounds_toArray, List.set_cons_zero, List.set_cons_succ]
  refine wpAnyH_ready (rs := [4]) (by kernel_rfl) (by simp) ?_
  refine AllReadyH.cons rfl (fun K hK => ?_) AllReadyH.nil
  rw [if_pos (by rfl)]
  go_simp
  refine (HV2.out _).mono ?_
  rintro e w2 ⟨rfl, rfl⟩
  go_wp2_with fail
  refine hK.out _ _ (⟨(R0.out.kept K1.out 0 _ rfl).1, (R0.out.kept K1.out 1 _ rfl).1, (R1.out.kept K1.out 0 _ rfl).1, (R1.out.kept K1.out 1 _ rfl).1, (R1.out.kept K1.out 2 _ rfl).1, (R1.out.kept K1.out 3 _ rfl).1, (R1.out.kept K1.out 4 _ rfl).1, (R1.out.kept K1.out 5 _ rfl).1⟩) (fun hHeld => ?_)
  clear hK K
  try simp only [Act.put, List.setIfInBounds_toArray, List.set_cons_zero, List.set_cons_succ]
  refine wpAnyH_ready (rs := [6]) (by kernel_rfl) (by simp) ?_
  refine AllReadyH.cons rfl (fun K hK => ?_) AllReadyH.nil
  rw [if_pos (by rfl)]
  go_simp
  refine (H25.out _).mono ?_
  rintro e w2 ⟨rfl, hk2⟩
  have K2 := Lib.hid (K1.out.trans hk2)
  clear hk2
  go_wp2_with fail
  refine hK.out _ _ (⟨(R0.out.kept K2.out 0 _ rfl).1, (R0.out.kept K2.out 1 _ rfl).1, (R1.out.kept K2.out 0 _ rfl).1, (R1.out.kept K2.out 1 _ rfl).1, (R1.out.kept K2.out 2 _ rfl).1, (R1.out.kept K2.out 3 _ rfl).1, (R1.out.kept K2.out 4 _ rfl).1, (R1.out.kept K2.out 5 _ rfl).1⟩) (fun hHeld => ?_)
  clear hK K
  try simp only [Act.put, List.setIfInBounds_toArray, List.set_cons_zero, List.set_cons_succ]
  refine wpAnyH_ready (rs := [7]) (by kernel_rfl) (by simp) ?_
  refine AllReadyH.cons rfl (fun K hK => ?_) AllReadyH.nil
  rw [if_pos (by rfl)]
  go_simp
  refine (HV4.out _).mono ?_
  rintro e w2 ⟨rfl, rfl⟩
  go_wp2_with fail
  refine hK.out _ _ (⟨(R0.out.kept K2.out 0 _ rfl).1, (R0.out.kept K2.out 1 _ rfl).1, (R1.out.kept K2.out 0 _ rfl).1, (R1.out.kept K2.out 1 _ rfl).1, (R1.out.kept K2.out 2 _ rfl).1, (R1.out.kept K2.out 3 _ rfl).1, (R1.out.kept K2.out 4 _ rfl).1, (R1.out.kept K2.out 5 _ rfl).1⟩) (fun hHeld => ?_)
  clear hK K
  try simp only [Act.put, List.setIfInBounds_toArray, List.set_cons_zero, List.set_cons_succ]
  refine wpAnyH_ready (rs := [8]) (by kernel_rfl) (by simp) ?_
  refine AllReadyH.cons rfl (fun K hK => ?_) AllReadyH.nil
  rw [if_pos (by rfl)]
  go_wp2_with fail
  go_wp2_with fail
  refine hK.out _ _ (⟨(R0.out.kept (show Kept W0 (w2.alloc _) from K2.out.alloc _) 0 _ rfl).1, (R0.out.kept (show Kept W0 (w2.alloc _) from K2.out.alloc _) 1 _ rfl).1, (R1.out.kept (show Kept W0 (w2.alloc _) from K2.out.alloc _) 0 _ rfl).1, (R1.out.kept (show Kept W0 (w2.alloc _) from K2.out.alloc _) 1 _ rfl).1, (R1.out.kept (show Kept W0 (w2.alloc _) from K2.out.alloc _) 2 _ rfl).1, (R1.out.kept (show Kept W0 (w2.alloc _) from K2.out.alloc _) 3 _ rfl).1, (R1.out.kept (show Kept W0 (w2.alloc _) from K2.out.alloc _) 4 _ rfl).1, (R1.out.kept (show Kept W0 (w2.alloc _) from K2.out.alloc _) 5 _ rfl).1⟩) (fun hHeld => ?_)
  clear hK K
  try simp only [Act.put, List.setIfInBounds_toArray, List.set_cons_zero, List.set_cons_succ]
  refine wpAnyH_ready (rs := [9]) (by kernel_rfl) (by simp) ?_
  refine AllReadyH.cons rfl (fun K hK => ?_) AllReadyH.nil
  rw [if_pos (by rfl)]
  go_simp
  refine (H13.out _ _ (RowC.new _ _ _)).mono ?_
  rintro e w3 ⟨rfl, rfl⟩
  go_wp2_with fail
  refine hK.out _ _ (⟨(R0.out.kept (show Kept W0 (w2.alloc _) from K2.out.alloc _) 0 _ rfl).1, (R0.out.kept (show Kept W0 (w2.alloc _) from K2.out.alloc _) 1 _ rfl).1, (R1.out.kept (show Kept W0 (w2.alloc _) from K2.out.alloc _) 0 _ rfl).1, (R1.out.kept (show Kept W0 (w2.alloc _) from K2.out.alloc _) 1 _ rfl).1, (R1.out.kept (show Kept W0 (w2.alloc _) from K2.out.alloc _) 2 _ rfl).1, (R1.out.kept (show Kept W0 (w2.alloc _) from K2.out.alloc _) 3 _ rfl).1, (R1.out.kept (show Kept W0 (w2.alloc _) from K2.out.alloc _) 4 _ rfl).1, (R1.out.kept (show Kept W0 (w2.alloc _) from K2.out.alloc _) 5 _ rfl).1⟩) (fun hHeld => ?_)
  clear hK K
  try simp only [Act.put, List.setIfInBounds_toArray, List.set_cons_zero, List.set_cons_succ]
  refine take_at (i := 10) (d := some 8) (v := ?_) rfl rfl (by kernel_rfl) (by kernel_rfl) (by kernel_rfl) (fun _ _ _ h => h) (Or.inl ⟨by rfl, ?_⟩) hHeld ?_
  rotate_left
  · intro w hSw
    try dsimp only at hSw
    go_simp
    try (with_reducible rfl)
  try simp only [Act.put, List.setIfInBounds_toArray, List.set_cons_zero, List.set_cons_succ]
  refine wpAnyH_done (by kernel_rfl) ?_ _
  obtain ⟨w3, hw3⟩ : ∃ w3, w3 = w2.alloc (.cells #[.int .i64 E1, .int .i64 v2, .int .i64 v4] 27) := ⟨_, rfl⟩
  have K3 := Lib.hid (show Kept W0 w3 by rw [hw3]; exact K2.out.alloc _)
  try rw [← hw3]
  clear hw3
  by_cases hz : E = 0
  · subst hz
    obtain ⟨e1, e2, e4⟩ := fstE_three HEE.out
    obtain ⟨hm1, hm2, hmv, hfv, _, _⟩ := sm_ok (HE1.out.trans e1)
    have hss : sightB s = true := HB4.out.trans (errB_ok (HV4'.out.trans e4))
    have HSS := Lib.hid hss
    have HMV := Lib.hid hmv
    have HFV := Lib.hid hfv
    have hn100 : n ≤ 100 := by rw [← HS.out.1.1]; exact hm1
    have H19 : RowKit.Hid (∀ W, Kept W0 W → Calls Tryz.prog 90 #[.agg #[.slice A n c, .slice B m d], .int .i64 day] W (VwP W ms fs day)) := Lib.hid (fun W hW => viewOf_any A B n c m d ms fs day W (HS.out.kept hW) (by omega) HMV.out HFV.out)
    have hSl := ownN_lt fs s (frcL ms day) 0 (by omega) (fun x hx => by
      have := HMV.out x (List.mem_filter.1 hx).1
      unfold markB at this
      simp [inB] at this
      omega)
    obtain ⟨S, hSe⟩ : ∃ S, ownD ms fs day s = S := ⟨_, rfl⟩
    have hS64 : S < 2 ^ 64 := by
      have : ownN fs s (frcL ms day) = S := hSe
      unfold ownN at this
      omega
    have H20 : RowKit.Hid (∀ W A5 c5 l5, l5.Perm (frcL ms day) → SlA mkC 9 Mk.ok W A5 l5.length c5 l5 → Calls Tryz.prog 91 #[vwV A5 l5.length c5 fs, .agg #[.int .u8 s.s0, .int .u8 s.s1, .int .u8 s.s2, .int .u8 s.s3, .int .u8 s.s4, .int .u8 s.s5]] W fun e w' => e = .returned (.int .u64 ((S : Nat) : Int)) ∧ Kept W w') := Lib.hid (fun W A5 c5 l5 hp hl => by
      rw [← hSe]
      unfold ownD
      rw [← ownN_perm fs s hp]
      exact owners_any A5 l5.length c5 l5 fs s W hl (fun x hx => HMV.out x (List.mem_filter.1 (hp.mem_iff.1 hx)).1) (fade4 HFV.out) HSO.out HSS.out)
    have HSe := Lib.hid hSe
    clear e1 e2 e4 hm1 hm2 hmv hfv hss hSl hSe
    go_upto_region 4 with (fail)
    have K4 := Lib.hid ((show Kept W0 w3 from K3.out).drew)
    refine wp_region_held_drew (S := fun W' => W'.cell? ⟨w.heap.size, 0, none⟩ = some (.slice A n c) ∧ W'.cell? ⟨w.heap.size, 1, none⟩ = some (.slice B m d) ∧ W'.cell? ⟨w.heap.size + 1, 0, none⟩ = some (.int .u8 s.s0) ∧ W'.cell? ⟨w.heap.size + 1, 1, none⟩ = some (.int .u8 s.s1) ∧ W'.cell? ⟨w.heap.size + 1, 2, none⟩ = some (.int .u8 s.s2) ∧ W'.cell? ⟨w.heap.size + 1, 3, none⟩ = some (.int .u8 s.s3) ∧ W'.cell? ⟨w.heap.size + 1, 4, none⟩ = some (.int .u8 s.s4) ∧ W'.cell? ⟨w.heap.size + 1, 5, none⟩ = some (.int .u8 s.s5)) (by kernel_rfl) (⟨(R0.out.kept K3.out 0 _ rfl).1, (R0.out.kept K3.out 1 _ rfl).1, (R1.out.kept K3.out 0 _ rfl).1, (R1.out.kept K3.out 1 _ rfl).1, (R1.out.kept K3.out 2 _ rfl).1, (R1.out.kept K3.out 3 _ rfl).1, (R1.out.kept K3.out 4 _ rfl).1, (R1.out.kept K3.out 5 _ rfl).1⟩) (fun hHeld => ?_)
    refine take_at (i := 0) (d := some 22) (v := ?_) rfl rfl (by kernel_rfl) (by kernel_rfl) (by kernel_rfl) (fun _ _ _ h => h) (Or.inl ⟨by rfl, ?_⟩) hHeld ?_
    rotate_left
    · intro w hSw
      try dsimp only at hSw
      go_simp
      try (with_reducible rfl)
    try simp only [Act.put, List.setIfInBounds_toArray, List.set_cons_zero, List.set_cons_succ]
    refine take_at (i := 1) (d := some 23) (v := ?_) rfl rfl (by kernel_rfl) (by kernel_rfl) (by kernel_rfl) (fun _ _ _ h => h) (Or.inl ⟨by rfl, ?_⟩) hHeld ?_
    rotate_left
    · intro w hSw
      try dsimp only at hSw
      go_simp
      try (with_reducible rfl)
    try simp only [Act.put, List.setIfInBounds_toArray, List.set_cons_zero, List.set_cons_succ]
    refine take_at (i := 3) (d := some 25) (v := ?_) rfl rfl (by kernel_rfl) (by kernel_rfl) (by kernel_rfl) (fun _ _ _ h => h) (Or.inl ⟨by rfl, ?_⟩) hHeld ?_
    rotate_left
    · intro w hSw
      try dsimp only at hSw
      go_simp
      try (with_reducible rfl)
    try simp only [Act.put, List.setIfInBounds_toArray, List.set_cons_zero, List.set_cons_succ]
    refine wpAnyH_ready (rs := [2]) (by kernel_rfl) (by simp) ?_
    refine AllReadyH.cons rfl (fun K hK => ?_) AllReadyH.nil
    rw [if_pos (by rfl)]
    go_simp
    refine (H19.out _ K4.out).mono ?_
    rintro e w4 ⟨A5, c5, l5, rfl, p1, p2, sl5, hk4⟩
    have HP1 := Lib.hid p1
    have SL5 := Lib.hid sl5
    have K5 := Lib.hid (K4.out.trans hk4)
    clear hk4 p1 p2 sl5
    go_wp2_with fail
    refine hK.out _ _ (⟨(R0.out.kept K5.out 0 _ rfl).1, (R0.out.kept K5.out 1 _ rfl).1, (R1.out.kept K5.out 0 _ rfl).1, (R1.out.kept K5.out 1 _ rfl).1, (R1.out.kept K5.out 2 _ rfl).1, (R1.out.kept K5.out 3 _ rfl).1, (R1.out.kept K5.out 4 _ rfl).1, (R1.out.kept K5.out 5 _ rfl).1⟩) (fun hHeld => ?_)
    clear hK K
    try simp only [Act.put, List.setIfInBounds_toArray, List.set_cons_zero, List.set_cons_succ]
    refine wpAnyH_ready (rs := [4]) (by kernel_rfl) (by simp) ?_
    refine AllReadyH.cons rfl (fun K hK => ?_) AllReadyH.nil
    rw [if_pos (by rfl)]
    go_simp
    refine (H20.out _ A5 c5 l5 HP1.out SL5.out).mono ?_
    rintro e w5 ⟨rfl, hk5⟩
    have K6 := Lib.hid (K5.out.trans hk5)
    clear hk5
    go_wp2_with fail
    refine hK.out _ _ (⟨(R0.out.kept K6.out 0 _ rfl).1, (R0.out.kept K6.out 1 _ rfl).1, (R1.out.kept K6.out 0 _ rfl).1, (R1.out.kept K6.out 1 _ rfl).1, (R1.out.kept K6.out 2 _ rfl).1, (R1.out.kept K6.out 3 _ rfl).1, (R1.out.kept K6.out 4 _ rfl).1, (R1.out.kept K6.out 5 _ rfl).1⟩) (fun hHeld => ?_)
    clear hK K
    try simp only [Act.put, List.setIfInBounds_toArray, List.set_cons_zero, List.set_cons_succ]
    refine take_at (i := 5) (d := some 6) (v := ?_) rfl rfl (by kernel_rfl) (by kernel_rfl) (by kernel_rfl) (fun _ _ _ h => h) (Or.inl ⟨by rfl, ?_⟩) hHeld ?_
    rotate_left
    · intro w hSw
      try dsimp only at hSw
      go_simp
      try (with_reducible rfl)
    try simp only [Act.put, List.setIfInBounds_toArray, List.set_cons_zero, List.set_cons_succ]
    refine take_at (i := 6) (d := some 7) (v := ?_) rfl rfl (by kernel_rfl) (by kernel_rfl) (by kernel_rfl) (fun _ _ _ h => h) (Or.inl ⟨by rfl, ?_⟩) hHeld ?_
    rotate_left
    · intro w hSw
      try dsimp only at hSw
      go_simp
      try (with_reducible rfl)
    try simp only [Act.put, List.setIfInBounds_toArray, List.set_cons_zero, List.set_cons_succ]
    refine wpAnyH_done (by kernel_rfl) ?_ _
    go_wp2
    go_ret2
    refine ⟨.inr ⟨HE.out, by rw [HSe.out]; exact hS64, by rw [HSe.out]; try rfl⟩, K0.out.trans K6.out⟩
  · have hne : (E != 0) = true := by simpa using hz
    have HZ := Lib.hid hz
    clear hz
    go_wp2
    go_ret2
    exact ⟨.inl ⟨by rw [HE.out]; exact HZ.out, by rw [HE.out]; try rfl⟩, K0.out.trans K3.out⟩

def OlP (w : World) (ms : List Mk) (fs : List Fd) (day : Int) (s : Sg) (e : Ending) (w' : World) : Prop :=
  (∃ v, w'.ownsRow w.heap.size 3 1 v (if owE ms fs day s = 0 then bitsK (ownD ms fs day s) 64 else []).length ((if owE ms fs day s = 0 then bitsK (ownD ms fs day s) 64 else []).flatMap nC) ∧ e = .returned (.tuple #[v, .int .i64 (owE ms fs day s)])) ∧ Kept w w'
set_option maxRecDepth 100000 in
set_option maxHeartbeats 6400000 in
theorem ownersL_any (A B : Option Addr) (n c m d : Nat) (ms : List Mk) (fs : List Fd) (day : Int) (s : Sg) (w : World) (hs : SmA w A n c ms B m d fs) (hso : s.ok) (hE : EnvT w) :
    Calls Tryz.prog 30 #[.agg #[.slice A n c, .slice B m d], .int .i64 day, .agg #[.int .u8 s.s0, .int .u8 s.s1, .int .u8 s.s2, .int .u8 s.s3, .int .u8 s.s4, .int .u8 s.s5]] w (OlP w ms fs day s) := by
  obtain ⟨W0, hW0⟩ : ∃ W0, W0 = (w.alloc (.cells #[.slice A n c, .slice B m d] 25)).alloc (.cells #[.int .u8 s.s0, .int .u8 s.s1, .int .u8 s.s2, .int .u8 s.s3, .int .u8 s.s4, .int .u8 s.s5] 39) := ⟨_, rfl⟩
  have K0 : RowKit.Hid (Kept w W0) := Lib.hid (by rw [hW0]; exact ((Kept.refl _).alloc _).alloc _)
  have HW := Lib.hid hW0
  have HO := Lib.hid (ownersOf_any A B n c m d ms fs day s W0 (hs.kept K0.out) hso)
  have HL : RowKit.Hid (∀ (S : Nat) W, S < 2 ^ 64 → Kept W0 W → Calls Tryz.prog 96 #[.int .u64 (S : Int)] W (NatsRes W (bitsK S 64))) := Lib.hid (fun S W h1 h2 => list_any S h1 W (hE.kept (K0.out.trans h2)))
  have HL0 : RowKit.Hid (∀ W, Kept W0 W → Calls Tryz.prog 96 #[.int .u64 0] W (NatsRes W [])) := Lib.hid (fun W h2 => by
    have := list_any 0 (by decide) W (hE.kept (K0.out.trans h2))
    rwa [(bitsK_nil (by decide)).2 rfl] at this)
  clear hW0 hs hso hE
  go_enter Tryz.func30, Tryz.ntmps30
  go_wp2_with fail
  rw [← HW.out]
  go_wp2_with fail
  refine HO.out.mono ?_
  rintro e w1 ⟨⟨h0, rfl⟩ | ⟨h0, h64, rfl⟩, hk⟩
  · have HK := Lib.hid hk
    have H0 := Lib.hid h0
    obtain ⟨E, hEe⟩ : ∃ E, owE ms fs day s = E := ⟨_, rfl⟩
    rw [hEe]
    have HEE := Lib.hid hEe
    clear hk h0 hEe
    go_wp2_with fail
    refine (HL0.out _ HK.out).mono ?_
    rintro e w2 ⟨v, rfl, ho, hk2⟩
    have HO2 := Lib.hid ho
    have HK2 := Lib.hid hk2
    clear ho hk2
    go_wp2
    go_ret2
    exact ⟨⟨v, by rw [if_neg H0.out]; exact own_le HO2.out (K0.out.trans HK.out).size, by rw [HEE.out]; try rfl⟩, (K0.out.trans HK.out).trans HK2.out⟩
  · have HK := Lib.hid hk
    have H0 := Lib.hid h0
    have H64 := Lib.hid h64
    obtain ⟨S, hS⟩ : ∃ S, ownD ms fs day s = S := ⟨_, rfl⟩
    rw [hS]
    have HSS := Lib.hid hS
    clear hk h0 h64 hS
    go_wp2_with fail
    refine (HL.out _ _ (by rw [← HSS.out]; exact H64.out) HK.out).mono ?_
    rintro e w2 ⟨v, rfl, ho, hk2⟩
    have HO2 := Lib.hid ho
    have HK2 := Lib.hid hk2
    clear ho hk2
    go_wp2
    go_ret2
    exact ⟨⟨v, by rw [if_pos H0.out, HSS.out]; exact own_le HO2.out (K0.out.trans HK.out).size, by rw [H0.out]; try rfl⟩, (K0.out.trans HK.out).trans HK2.out⟩

set_option maxRecDepth 100000 in
set_option maxHeartbeats 6400000 in
theorem fitsM_any (A B : Option Addr) (n c m d : Nat) (ms : List Mk) (fs : List Fd) (day owner : Int) (s : Sg) (w : World) (hs : SmA w A n c ms B m d fs) (hso : s.ok) :
    Calls Tryz.prog 28 #[.agg #[.slice A n c, .slice B m d], .int .i64 day, .agg #[.int .u8 s.s0, .int .u8 s.s1, .int .u8 s.s2, .int .u8 s.s3, .int .u8 s.s4, .int .u8 s.s5], .int .i64 owner] w (FtP w ms fs day s owner) := by
  obtain ⟨W0, hW0⟩ : ∃ W0, W0 = (w.alloc (.cells #[.slice A n c, .slice B m d] 25)).alloc (.cells #[.int .u8 s.s0, .int .u8 s.s1, .int .u8 s.s2, .int .u8 s.s3, .int .u8 s.s4, .int .u8 s.s5] 39) := ⟨_, rfl⟩
  have K0 : RowKit.Hid (Kept w W0) := Lib.hid (by rw [hW0]; exact ((Kept.refl _).alloc _).alloc _)
  have R0 : RowKit.Hid (RowC W0 w.heap.size [.slice A n c, .slice B m d]) := Lib.hid (by rw [hW0]; exact (RowC.new w [.slice A n c, .slice B m d] 25).kept ((Kept.refl _).alloc _))
  have R1 : RowKit.Hid (RowC W0 (w.heap.size + 1) (sgL s)) := Lib.hid (by rw [hW0]; have h := RowC.new (w.alloc (.cells #[.slice A n c, .slice B m d] 25)) (sgL s) 39; rwa [World.size_alloc] at h)
  have HW := Lib.hid hW0
  have HS := Lib.hid (hs.kept K0.out)
  have HSO := Lib.hid hso
  obtain ⟨E1, hE1⟩ : ∃ E, smE ms fs = E := ⟨_, rfl⟩
  obtain ⟨b2, hb2⟩ : ∃ b, inB day 0 100000 = b := ⟨_, rfl⟩
  obtain ⟨b3, hb3⟩ : ∃ b, inB owner 1 40 = b := ⟨_, rfl⟩
  obtain ⟨b4, hb4⟩ : ∃ b, sightB s = b := ⟨_, rfl⟩
  obtain ⟨v2, hv2⟩ : ∃ v, errB b2 = v := ⟨_, rfl⟩
  obtain ⟨v3, hv3⟩ : ∃ v, errB b3 = v := ⟨_, rfl⟩
  obtain ⟨v4, hv4⟩ : ∃ v, errB b4 = v := ⟨_, rfl⟩
  obtain ⟨E, hE⟩ : ∃ E, fstE [E1, v2, v3, v4] = E := ⟨_, rfl⟩
  have HE : RowKit.Hid (ftE ms fs day s owner = E) := Lib.hid (by unfold ftE; rw [hE1, hb2, hb3, hb4, hv2, hv3, hv4, hE])
  have H14 : RowKit.Hid (∀ W, Kept W0 W → Calls Tryz.prog 25 #[.agg #[.slice A n c, .slice B m d]] W fun e w' => e = .returned (.int .i64 E1) ∧ Kept W w') := Lib.hid (fun W hW => by rw [← hE1]; exact checkSmits_any A B n c m d ms fs W (HS.out.kept hW))
  have H16 : RowKit.Hid (∀ W, Calls Tryz.prog 75 #[.int .i64 day] W fun e w' => e = .returned (.bool b2) ∧ W = w') := Lib.hid (fun W => by rw [← hb2]; exact isDay_any _ W)
  have H17 : RowKit.Hid (∀ W, Calls Tryz.prog 79 #[.int .i64 owner] W fun e w' => e = .returned (.bool b3) ∧ W = w') := Lib.hid (fun W => by rw [← hb3]; exact isOwner_any _ W)
  have H25 : RowKit.Hid (∀ W, Calls Tryz.prog 89 #[.agg #[.int .u8 s.s0, .int .u8 s.s1, .int .u8 s.s2, .int .u8 s.s3, .int .u8 s.s4, .int .u8 s.s5]] W fun e w' => e = .returned (.bool b4) ∧ Kept W w') := Lib.hid (fun W => by rw [← hb4]; exact isSight_any s HSO.out W)
  have HV2 : RowKit.Hid (∀ W, Calls Tryz.prog 74 #[.bool b2] W fun e w' => e = .returned (.int .i64 v2) ∧ W = w') := Lib.hid (fun W => by rw [← hv2]; exact valid_any b2 W)
  have HV3 : RowKit.Hid (∀ W, Calls Tryz.prog 74 #[.bool b3] W fun e w' => e = .returned (.int .i64 v3) ∧ W = w') := Lib.hid (fun W => by rw [← hv3]; exact valid_any b3 W)
  have HV4 : RowKit.Hid (∀ W, Calls Tryz.prog 74 #[.bool b4] W fun e w' => e = .returned (.int .i64 v4) ∧ W = w') := Lib.hid (fun W => by rw [← hv4]; exact valid_any b4 W)
  have H13 : RowKit.Hid (∀ W g, RowC W g [.int .i64 E1, .int .i64 v2, .int .i64 v3, .int .i64 v4] → Calls Tryz.prog 73 #[.slice (some ⟨g, 0, none⟩) 4 4] W fun e w' => e = .returned (.int .i64 E) ∧ W = w') := Lib.hid (fun W g hr => by
    rw [← hE]
    exact firstError_any g 0 4 4 [E1, v2, v3, v4] rfl (by omega) W (intsR hr))
  have HE1 := Lib.hid hE1
  have HB2 := Lib.hid hb2
  have HB3 := Lib.hid hb3
  have HV3' := Lib.hid hv3
  have HB4 := Lib.hid hb4
  have HV4' := Lib.hid hv4
  have HEE := Lib.hid hE
  clear hW0 hs hso hE1 hb2 hb3 hv3 hb4 hE hv2 hv4
  have a0 := (R0.out 0 _ rfl).1
  have a1 := (R0.out 1 _ rfl).1
  go_enter Tryz.func28, Tryz.ntmps28
  go_upto_region 1 with (fail)
  rw [← HW.out]
  clear a0 a1
  refine wp_region_held_drew (S := fun W' => W'.cell? ⟨w.heap.size, 0, none⟩ = some (.slice A n c) ∧ W'.cell? ⟨w.heap.size, 1, none⟩ = some (.slice B m d) ∧ W'.cell? ⟨w.heap.size + 1, 0, none⟩ = some (.int .u8 s.s0) ∧ W'.cell? ⟨w.heap.size + 1, 1, none⟩ = some (.int .u8 s.s1) ∧ W'.cell? ⟨w.heap.size + 1, 2, none⟩ = some (.int .u8 s.s2) ∧ W'.cell? ⟨w.heap.size + 1, 3, none⟩ = some (.int .u8 s.s3) ∧ W'.cell? ⟨w.heap.size + 1, 4, none⟩ = some (.int .u8 s.s4) ∧ W'.cell? ⟨w.heap.size + 1, 5, none⟩ = some (.int .u8 s.s5)) (by kernel_rfl) (⟨(R0.out 0 _ rfl).1, (R0.out 1 _ rfl).1, (R1.out 0 _ rfl).1, (R1.out 1 _ rfl).1, (R1.out 2 _ rfl).1, (R1.out 3 _ rfl).1, (R1.out 4 _ rfl).1, (R1.out 5 _ rfl).1⟩) (fun hHeld => ?_)
  refine take_at (i := 0) (d := some 11) (v := ?_) rfl rfl (by kernel_rfl) (by kernel_rfl) (by kernel_rfl) (fun _ _ _ h => h) (Or.inl ⟨by rfl, ?_⟩) hHeld ?_
  rotate_left
  · intro w hSw
    try dsimp only at hSw
    go_simp
    try (with_reducible rfl)
  try simp only [Act.put, List.setIfInBounds_toArray, List.set_cons_zero, List.set_cons_succ]
  refine take_at (i := 2) (d := some 13) (v := ?_) rfl rfl (by kernel_rfl) (by kernel_rfl) (by kernel_rfl) (fun _ _ _ h => h) (Or.inl ⟨by rfl, ?_⟩) hHeld ?_
  rotate_left
  · intro w hSw
    try dsimp only at hSw
    go_simp
    try (with_reducible rfl)
  try simp only [Act.put, List.setIfInBounds_toArray, List.set_cons_zero, List.set_cons_succ]
  refine take_at (i := 5) (d := some 16) (v := ?_) rfl rfl (by kernel_rfl) (by kernel_rfl) (by kernel_rfl) (fun _ _ _ h => h) (Or.inl ⟨by rfl, ?_⟩) hHeld ?_
  rotate_left
  · intro w hSw
    try dsimp only at hSw
    go_simp
    try (with_reducible rfl)
  try simp only [Act.put, List.setIfInBounds_toArray, List.set_cons_zero, List.set_cons_succ]
  refine take_at (i := 8) (d := some 19) (v := ?_) rfl rfl (by kernel_rfl) (by kernel_rfl) (by kernel_rfl) (fun _ _ _ h => h) (Or.inl ⟨by rfl, ?_⟩) hHeld ?_
  rotate_left
  · intro w hSw
    try dsimp only at hSw
    go_simp
    try (with_reducible rfl)
  try simp only [Act.put, List.setIfInBounds_toArray, List.set_cons_zero, List.set_cons_succ]
  refine wpAnyH_ready (rs := [1]) (by kernel_rfl) (by simp) ?_
  refine AllReadyH.cons rfl (fun K hK => ?_) AllReadyH.nil
  rw [if_pos (by rfl)]
  go_simp
  refine (H14.out _ (Kept.refl W0).drew).mono ?_
  rintro e w1 ⟨rfl, hk1⟩
  have K1 := Lib.hid (((Kept.refl W0).drew).trans hk1)
  clear hk1
  go_wp2_with fail
  refine hK.out _ _ (⟨(R0.out.kept K1.out 0 _ rfl).1, (R0.out.kept K1.out 1 _ rfl).1, (R1.out.kept K1.out 0 _ rfl).1, (R1.out.kept K1.out 1 _ rfl).1, (R1.out.kept K1.out 2 _ rfl).1, (R1.out.kept K1.out 3 _ rfl).1, (R1.out.kept K1.out 4 _ rfl).1, (R1.out.kept K1.out 5 _ rfl).1⟩) (fun hHeld => ?_)
  clear hK K
  try simp only [Act.put, List.setIfInBounds_toArray, List.set_cons_zero, List.set_cons_succ]
  refine wpAnyH_ready (rs := [3]) (by kernel_rfl) (by simp) ?_
  refine AllReadyH.cons rfl (fun K hK => ?_) AllReadyH.nil
  rw [if_pos (by rfl)]
  go_simp
  refine (H16.out _).mono ?_
  rintro e w2 ⟨rfl, rfl⟩
  go_wp2_with fail
  refine hK.out _ _ (⟨(R0.out.kept K1.out 0 _ rfl).1, (R0.out.kept K1.out 1 _ rfl).1, (R1.out.kept K1.out 0 _ rfl).1, (R1.out.kept K1.out 1 _ rfl).1, (R1.out.kept K1.out 2 _ rfl).1, (R1.out.kept K1.out 3 _ rfl).1, (R1.out.kept K1.out 4 _ rfl).1, (R1.out.kept K1.out 5 _ rfl).1⟩) (fun hHeld => ?_)
  clear hK K
  try simp only [Act.put, List.setIfInBounds_toArray, List.set_cons_zero, List.set_cons_succ]
  refine wpAnyH_ready (rs := [4]) (by kernel_rfl) (by simp) ?_
  refine AllReadyH.cons rfl (fun K hK => ?_) AllReadyH.nil
  rw [if_pos (by rfl)]
  go_simp
  refine (HV2.out _).mono ?_
  rintro e w2 ⟨rfl, rfl⟩
  go_wp2_with fail
  refine hK.out _ _ (⟨(R0.out.kept K1.out 0 _ rfl).1, (R0.out.kept K1.out 1 _ rfl).1, (R1.out.kept K1.out 0 _ rfl).1, (R1.out.kept K1.out 1 _ rfl).1, (R1.out.kept K1.out 2 _ rfl).1, (R1.out.kept K1.out 3 _ rfl).1, (R1.out.kept K1.out 4 _ rfl).1, (R1.out.kept K1.out 5 _ rfl).1⟩) (fun hHeld => ?_)
  clear hK K
  try simp only [Act.put, List.setIfInBounds_toArray, List.set_cons_zero, List.set_cons_succ]
  refine wpAnyH_ready (rs := [6]) (by kernel_rfl) (by simp) ?_
  refine AllReadyH.cons rfl (fun K hK => ?_) AllReadyH.nil
  rw [if_pos (by rfl)]
  go_simp
  refine (H17.out _).mono ?_
  rintro e w2 ⟨rfl, rfl⟩
  go_wp2_with fail
  refine hK.out _ _ (⟨(R0.out.kept K1.out 0 _ rfl).1, (R0.out.kept K1.out 1 _ rfl).1, (R1.out.kept K1.out 0 _ rfl).1, (R1.out.kept K1.out 1 _ rfl).1, (R1.out.kept K1.out 2 _ rfl).1, (R1.out.kept K1.out 3 _ rfl).1, (R1.out.kept K1.out 4 _ rfl).1, (R1.out.kept K1.out 5 _ rfl).1⟩) (fun hHeld => ?_)
  clear hK K
  try simp only [Act.put, List.setIfInBounds_toArray, List.set_cons_zero, List.set_cons_succ]
  refine wpAnyH_ready (rs := [7]) (by kernel_rfl) (by simp) ?_
  refine AllReadyH.cons rfl (fun K hK => ?_) AllReadyH.nil
  rw [if_pos (by rfl)]
  go_simp
  refine (HV3.out _).mono ?_
  rintro e w2 ⟨rfl, rfl⟩
  go_wp2_with fail
  refine hK.out _ _ (⟨(R0.out.kept K1.out 0 _ rfl).1, (R0.out.kept K1.out 1 _ rfl).1, (R1.out.kept K1.out 0 _ rfl).1, (R1.out.kept K1.out 1 _ rfl).1, (R1.out.kept K1.out 2 _ rfl).1, (R1.out.kept K1.out 3 _ rfl).1, (R1.out.kept K1.out 4 _ rfl).1, (R1.out.kept K1.out 5 _ rfl).1⟩) (fun hHeld => ?_)
  clear hK K
  try simp only [Act.put, List.setIfInBounds_toArray, List.set_cons_zero, List.set_cons_succ]
  refine wpAnyH_ready (rs := [9]) (by kernel_rfl) (by simp) ?_
  refine AllReadyH.cons rfl (fun K hK => ?_) AllReadyH.nil
  rw [if_pos (by rfl)]
  go_simp
  refine (H25.out _).mono ?_
  rintro e w2 ⟨rfl, hk2⟩
  have K2 := Lib.hid (K1.out.trans hk2)
  clear hk2
  go_wp2_with fail
  refine hK.out _ _ (⟨(R0.out.kept K2.out 0 _ rfl).1, (R0.out.kept K2.out 1 _ rfl).1, (R1.out.kept K2.out 0 _ rfl).1, (R1.out.kept K2.out 1 _ rfl).1, (R1.out.kept K2.out 2 _ rfl).1, (R1.out.kept K2.out 3 _ rfl).1, (R1.out.kept K2.out 4 _ rfl).1, (R1.out.kept K2.out 5 _ rfl).1⟩) (fun hHeld => ?_)
  clear hK K
  try simp only [Act.put, List.setIfInBounds_toArray, List.set_cons_zero, List.set_cons_succ]
  refine wpAnyH_ready (rs := [10]) (by kernel_rfl) (by simp) ?_
  refine AllReadyH.cons rfl (fun K hK => ?_) AllReadyH.nil
  rw [if_pos (by rfl)]
  go_simp
  refine (HV4.out _).mono ?_
  rintro e w2 ⟨rfl, rfl⟩
  go_wp2_with fail
  refine hK.out _ _ (⟨(R0.out.kept K2.out 0 _ rfl).1, (R0.out.kept K2.out 1 _ rfl).1, (R1.out.kept K2.out 0 _ rfl).1, (R1.out.kept K2.out 1 _ rfl).1, (R1.out.kept K2.out 2 _ rfl).1, (R1.out.kept K2.out 3 _ rfl).1, (R1.out.kept K2.out 4 _ rfl).1, (R1.out.kept K2.out 5 _ rfl).1⟩) (fun hHeld => ?_)
  clear hK K
  try simp only [Act.put, List.setIfInBounds_toArray, List.set_cons_zero, List.set_cons_succ]
  refine wpAnyH_ready (rs := [11]) (by kernel_rfl) (by simp) ?_
  refine AllReadyH.cons rfl (fun K hK => ?_) AllReadyH.nil
  rw [if_pos (by rfl)]
  go_wp2_with fail
  go_wp2_with fail
  refine hK.out _ _ (⟨(R0.out.kept (show Kept W0 (w2.alloc _) from K2.out.alloc _) 0 _ rfl).1, (R0.out.kept (show Kept W0 (w2.alloc _) from K2.out.alloc _) 1 _ rfl).1, (R1.out.kept (show Kept W0 (w2.alloc _) from K2.out.alloc _) 0 _ rfl).1, (R1.out.kept (show Kept W0 (w2.alloc _) from K2.out.alloc _) 1 _ rfl).1, (R1.out.kept (show Kept W0 (w2.alloc _) from K2.out.alloc _) 2 _ rfl).1, (R1.out.kept (show Kept W0 (w2.alloc _) from K2.out.alloc _) 3 _ rfl).1, (R1.out.kept (show Kept W0 (w2.alloc _) from K2.out.alloc _) 4 _ rfl).1, (R1.out.kept (show Kept W0 (w2.alloc _) from K2.out.alloc _) 5 _ rfl).1⟩) (fun hHeld => ?_)
  clear hK K
  try simp only [Act.put, List.setIfInBounds_toArray, List.set_cons_zero, List.set_cons_succ]
  refine wpAnyH_ready (rs := [12]) (by kernel_rfl) (by simp) ?_
  refine AllReadyH.cons rfl (fun K hK => ?_) AllReadyH.nil
  rw [if_pos (by rfl)]
  go_simp
  refine (H13.out _ _ (RowC.new _ _ _)).mono ?_
  rintro e w3 ⟨rfl, rfl⟩
  go_wp2_with fail
  refine hK.out _ _ (⟨(R0.out.kept (show Kept W0 (w2.alloc _) from K2.out.alloc _) 0 _ rfl).1, (R0.out.kept (show Kept W0 (w2.alloc _) from K2.out.alloc _) 1 _ rfl).1, (R1.out.kept (show Kept W0 (w2.alloc _) from K2.out.alloc _) 0 _ rfl).1, (R1.out.kept (show Kept W0 (w2.alloc _) from K2.out.alloc _) 1 _ rfl).1, (R1.out.kept (show Kept W0 (w2.alloc _) from K2.out.alloc _) 2 _ rfl).1, (R1.out.kept (show Kept W0 (w2.alloc _) from K2.out.alloc _) 3 _ rfl).1, (R1.out.kept (show Kept W0 (w2.alloc _) from K2.out.alloc _) 4 _ rfl).1, (R1.out.kept (show Kept W0 (w2.alloc _) from K2.out.alloc _) 5 _ rfl).1⟩) (fun hHeld => ?_)
  clear hK K
  try simp only [Act.put, List.setIfInBounds_toArray, List.set_cons_zero, List.set_cons_succ]
  refine take_at (i := 13) (d := some 10) (v := ?_) rfl rfl (by kernel_rfl) (by kernel_rfl) (by kernel_rfl) (fun _ _ _ h => h) (Or.inl ⟨by rfl, ?_⟩) hHeld ?_
  rotate_left
  · intro w hSw
    try dsimp only at hSw
    go_simp
    try (with_reducible rfl)
  try simp only [Act.put, List.setIfInBounds_toArray, List.set_cons_zero, List.set_cons_succ]
  refine wpAnyH_done (by kernel_rfl) ?_ _
  obtain ⟨w3, hw3⟩ : ∃ w3, w3 = w2.alloc (.cells #[.int .i64 E1, .int .i64 v2, .int .i64 v3, .int .i64 v4] 27) := ⟨_, rfl⟩
  have K3 := Lib.hid (show Kept W0 w3 by rw [hw3]; exact K2.out.alloc _)
  try rw [← hw3]
  clear hw3
  by_cases hz : E = 0
  · subst hz
    obtain ⟨e1, e2, e3, e4⟩ := fstE_four HEE.out
    obtain ⟨hm1, hm2, hmv, hfv, _, _⟩ := sm_ok (HE1.out.trans e1)
    have hss : sightB s = true := HB4.out.trans (errB_ok (HV4'.out.trans e4))
    have HSS := Lib.hid hss
    have HMV := Lib.hid hmv
    have HFV := Lib.hid hfv
    have hn100 : n ≤ 100 := by rw [← HS.out.1.1]; exact hm1
    have H19 : RowKit.Hid (∀ W, Kept W0 W → Calls Tryz.prog 90 #[.agg #[.slice A n c, .slice B m d], .int .i64 day] W (VwP W ms fs day)) := Lib.hid (fun W hW => viewOf_any A B n c m d ms fs day W (HS.out.kept hW) (by omega) HMV.out HFV.out)
    have hSl := ownN_lt fs s (frcL ms day) 0 (by omega) (fun x hx => by
      have := HMV.out x (List.mem_filter.1 hx).1
      unfold markB at this
      simp [inB] at this
      omega)
    obtain ⟨S, hSe⟩ : ∃ S, ownD ms fs day s = S := ⟨_, rfl⟩
    have hS64 : S < 2 ^ 64 := by
      have : ownN fs s (frcL ms day) = S := hSe
      unfold ownN at this
      omega
    have H20 : RowKit.Hid (∀ W A5 c5 l5, l5.Perm (frcL ms day) → SlA mkC 9 Mk.ok W A5 l5.length c5 l5 → Calls Tryz.prog 91 #[vwV A5 l5.length c5 fs, .agg #[.int .u8 s.s0, .int .u8 s.s1, .int .u8 s.s2, .int .u8 s.s3, .int .u8 s.s4, .int .u8 s.s5]] W fun e w' => e = .returned (.int .u64 ((S : Nat) : Int)) ∧ Kept W w') := Lib.hid (fun W A5 c5 l5 hp hl => by
      rw [← hSe]
      unfold ownD
      rw [← ownN_perm fs s hp]
      exact owners_any A5 l5.length c5 l5 fs s W hl (fun x hx => HMV.out x (List.mem_filter.1 (hp.mem_iff.1 hx)).1) (fade4 HFV.out) HSO.out HSS.out)
    have HSe := Lib.hid hSe
    have E3 := Lib.hid e3
    clear e1 e2 e3 e4 hm1 hm2 hmv hfv hss hSl hSe
    have ho := HB3.out.trans (errB_ok (HV3'.out.trans E3.out))
    have ho' := inB_iff.1 ho
    obtain ⟨on, hon⟩ : ∃ on : Nat, owner = (on : Int) := ⟨owner.toNat, by omega⟩
    subst hon
    obtain ⟨tb, htb⟩ : ∃ t, S.testBit on = t := ⟨_, rfl⟩
    have H22 : RowKit.Hid (∀ W, Calls Tryz.prog 92 #[.int .u64 (S : Int), .int .i64 (on : Int)] W fun e w' => e = .returned (.bool tb) ∧ W = w') := Lib.hid (fun W => by rw [← htb]; exact has_any S on hS64 (by omega) (by omega) W)
    have HTB := Lib.hid htb
    clear ho ho' htb
    go_upto_region 4 with (fail)
    have K4 := Lib.hid ((show Kept W0 w3 from K3.out).drew)
    refine wp_region_held_drew (S := fun W' => W'.cell? ⟨w.heap.size, 0, none⟩ = some (.slice A n c) ∧ W'.cell? ⟨w.heap.size, 1, none⟩ = some (.slice B m d) ∧ W'.cell? ⟨w.heap.size + 1, 0, none⟩ = some (.int .u8 s.s0) ∧ W'.cell? ⟨w.heap.size + 1, 1, none⟩ = some (.int .u8 s.s1) ∧ W'.cell? ⟨w.heap.size + 1, 2, none⟩ = some (.int .u8 s.s2) ∧ W'.cell? ⟨w.heap.size + 1, 3, none⟩ = some (.int .u8 s.s3) ∧ W'.cell? ⟨w.heap.size + 1, 4, none⟩ = some (.int .u8 s.s4) ∧ W'.cell? ⟨w.heap.size + 1, 5, none⟩ = some (.int .u8 s.s5)) (by kernel_rfl) (⟨(R0.out.kept K3.out 0 _ rfl).1, (R0.out.kept K3.out 1 _ rfl).1, (R1.out.kept K3.out 0 _ rfl).1, (R1.out.kept K3.out 1 _ rfl).1, (R1.out.kept K3.out 2 _ rfl).1, (R1.out.kept K3.out 3 _ rfl).1, (R1.out.kept K3.out 4 _ rfl).1, (R1.out.kept K3.out 5 _ rfl).1⟩) (fun hHeld => ?_)
    refine take_at (i := 0) (d := some 27) (v := ?_) rfl rfl (by kernel_rfl) (by kernel_rfl) (by kernel_rfl) (fun _ _ _ h => h) (Or.inl ⟨by rfl, ?_⟩) hHeld ?_
    rotate_left
    · intro w hSw
      try dsimp only at hSw
      go_simp
      try (with_reducible rfl)
    try simp only [Act.put, List.setIfInBounds_toArray, List.set_cons_zero, List.set_cons_succ]
    refine take_at (i := 1) (d := some 28) (v := ?_) rfl rfl (by kernel_rfl) (by kernel_rfl) (by kernel_rfl) (fun _ _ _ h => h) (Or.inl ⟨by rfl, ?_⟩) hHeld ?_
    rotate_left
    · intro w hSw
      try dsimp only at hSw
      go_simp
      try (with_reducible rfl)
    try simp only [Act.put, List.setIfInBounds_toArray, List.set_cons_zero, List.set_cons_succ]
    refine take_at (i := 3) (d := some 30) (v := ?_) rfl rfl (by kernel_rfl) (by kernel_rfl) (by kernel_rfl) (fun _ _ _ h => h) (Or.inl ⟨by rfl, ?_⟩) hHeld ?_
    rotate_left
    · intro w hSw
      try dsimp only at hSw
      go_simp
      try (with_reducible rfl)
    try simp only [Act.put, List.setIfInBounds_toArray, List.set_cons_zero, List.set_cons_succ]
    refine take_at (i := 5) (d := some 32) (v := ?_) rfl rfl (by kernel_rfl) (by kernel_rfl) (by kernel_rfl) (fun _ _ _ h => h) (Or.inl ⟨by rfl, ?_⟩) hHeld ?_
    rotate_left
    · intro w hSw
      try dsimp only at hSw
      go_simp
      try (with_reducible rfl)
    try simp only [Act.put, List.setIfInBounds_toArray, List.set_cons_zero, List.set_cons_succ]
    refine wpAnyH_ready (rs := [2]) (by kernel_rfl) (by simp) ?_
    refine AllReadyH.cons rfl (fun K hK => ?_) AllReadyH.nil
    rw [if_pos (by rfl)]
    go_simp
    refine (H19.out _ K4.out).mono ?_
    rintro e w4 ⟨A5, c5, l5, rfl, p1, p2, sl5, hk4⟩
    have HP1 := Lib.hid p1
    have SL5 := Lib.hid sl5
    have K5 := Lib.hid (K4.out.trans hk4)
    clear hk4 p1 p2 sl5
    go_wp2_with fail
    refine hK.out _ _ (⟨(R0.out.kept K5.out 0 _ rfl).1, (R0.out.kept K5.out 1 _ rfl).1, (R1.out.kept K5.out 0 _ rfl).1, (R1.out.kept K5.out 1 _ rfl).1, (R1.out.kept K5.out 2 _ rfl).1, (R1.out.kept K5.out 3 _ rfl).1, (R1.out.kept K5.out 4 _ rfl).1, (R1.out.kept K5.out 5 _ rfl).1⟩) (fun hHeld => ?_)
    clear hK K
    try simp only [Act.put, List.setIfInBounds_toArray, List.set_cons_zero, List.set_cons_succ]
    refine wpAnyH_ready (rs := [4]) (by kernel_rfl) (by simp) ?_
    refine AllReadyH.cons rfl (fun K hK => ?_) AllReadyH.nil
    rw [if_pos (by rfl)]
    go_simp
    refine (H20.out _ A5 c5 l5 HP1.out SL5.out).mono ?_
    rintro e w5 ⟨rfl, hk5⟩
    have K6 := Lib.hid (K5.out.trans hk5)
    clear hk5
    go_wp2_with fail
    refine hK.out _ _ (⟨(R0.out.kept K6.out 0 _ rfl).1, (R0.out.kept K6.out 1 _ rfl).1, (R1.out.kept K6.out 0 _ rfl).1, (R1.out.kept K6.out 1 _ rfl).1, (R1.out.kept K6.out 2 _ rfl).1, (R1.out.kept K6.out 3 _ rfl).1, (R1.out.kept K6.out 4 _ rfl).1, (R1.out.kept K6.out 5 _ rfl).1⟩) (fun hHeld => ?_)
    clear hK K
    try simp only [Act.put, List.setIfInBounds_toArray, List.set_cons_zero, List.set_cons_succ]
    refine wpAnyH_ready (rs := [6]) (by kernel_rfl) (by simp) ?_
    refine AllReadyH.cons rfl (fun K hK => ?_) AllReadyH.nil
    rw [if_pos (by rfl)]
    go_simp
    refine (H22.out _).mono ?_
    rintro e w6 ⟨rfl, rfl⟩
    go_wp2_with fail
    refine hK.out _ _ (⟨(R0.out.kept K6.out 0 _ rfl).1, (R0.out.kept K6.out 1 _ rfl).1, (R1.out.kept K6.out 0 _ rfl).1, (R1.out.kept K6.out 1 _ rfl).1, (R1.out.kept K6.out 2 _ rfl).1, (R1.out.kept K6.out 3 _ rfl).1, (R1.out.kept K6.out 4 _ rfl).1, (R1.out.kept K6.out 5 _ rfl).1⟩) (fun hHeld => ?_)
    clear hK K
    try simp only [Act.put, List.setIfInBounds_toArray, List.set_cons_zero, List.set_cons_succ]
    refine take_at (i := 7) (d := some 8) (v := ?_) rfl rfl (by kernel_rfl) (by kernel_rfl) (by kernel_rfl) (fun _ _ _ h => h) (Or.inl ⟨by rfl, ?_⟩) hHeld ?_
    rotate_left
    · intro w hSw
      try dsimp only at hSw
      go_simp
      try (with_reducible rfl)
    try simp only [Act.put, List.setIfInBounds_toArray, List.set_cons_zero, List.set_cons_succ]
    refine take_at (i := 8) (d := some 9) (v := ?_) rfl rfl (by kernel_rfl) (by kernel_rfl) (by kernel_rfl) (fun _ _ _ h => h) (Or.inl ⟨by rfl, ?_⟩) hHeld ?_
    rotate_left
    · intro w hSw
      try dsimp only at hSw
      go_simp
      try (with_reducible rfl)
    try simp only [Act.put, List.setIfInBounds_toArray, List.set_cons_zero, List.set_cons_succ]
    refine wpAnyH_done (by kernel_rfl) ?_ _
    go_wp2
    go_ret2
    refine ⟨.inr ⟨HE.out, by rw [HSe.out, Int.toNat_natCast, HTB.out]; try rfl⟩, K0.out.trans K6.out⟩
  · have hne : (E != 0) = true := by simpa using hz
    have HZ := Lib.hid hz
    clear hz
    go_wp2
    go_ret2
    exact ⟨.inl ⟨by rw [HE.out]; exact HZ.out, by rw [HE.out]; try rfl⟩, K0.out.trans K3.out⟩

end Go.Proofs.YtologmoanaccpaaGreatDoor
