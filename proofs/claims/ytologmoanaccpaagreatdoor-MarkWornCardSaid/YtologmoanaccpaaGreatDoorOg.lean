/-
  the view of marks, in memory of its own
-/
import Derived.Test.YtologmoanaccpaaGreatDoorMr
namespace Go.Proofs.YtologmoanaccpaaGreatDoor
set_option linter.all false
open Go.RowKit Go.Shelf

def VwP2 (w : World) (ms : List Mk) (fs : List Fd) (day : Int) (e : Ending) (w' : World) : Prop :=
  ∃ A c l, e = .returned (vwV A l.length c fs) ∧ l.Perm (frcL ms day) ∧ l.Pairwise (fun a b => a.own ≤ b.own) ∧ SlA mkC 9 Mk.ok w' A l.length c l ∧ (∀ b o s, A = some ⟨b, o, s⟩ → w.heap.size ≤ b) ∧ Kept w w'
set_option maxRecDepth 100000 in
set_option maxHeartbeats 6400000 in
theorem viewOf2_any (A B : Option Addr) (n c m d : Nat) (ms : List Mk) (fs : List Fd) (day : Int) (w : World) (hs : SmA w A n c ms B m d fs) (hn : n ≤ 1000) (hv : ∀ m ∈ ms, markB m = true) (hf : ∀ f ∈ fs, fadeB f = true) :
    Calls Tryz.prog 90 #[.agg #[.slice A n c, .slice B m d], .int .i64 day] w (VwP2 w ms fs day) := by
  have hi : (Tryz.prog.info? 122).map (·.size) = some 31 := by kernel_rfl
  obtain ⟨W1, hW1⟩ : ∃ W1, W1 = w.alloc (.cells #[.slice A n c, .slice B m d] 25) := ⟨_, rfl⟩
  obtain ⟨W2, hW2⟩ : ∃ W2, W2 = W1.alloc (.cells zero31.toArray 122) := ⟨_, rfl⟩
  have z1 : W1.heap.size = w.heap.size + 1 := by rw [hW1]; simp
  have k12 : Kept W1 W2 := by rw [hW2]; exact (Kept.refl _).alloc _
  have HR1 := Lib.hid (show RowC W2 w.heap.size [.slice A n c, .slice B m d] by
    have h0 : RowC W1 w.heap.size [.slice A n c, .slice B m d] := by rw [hW1]; exact RowC.new w _ 25
    exact h0.kept k12)
  have HB := Lib.hid (show W2.heap[w.heap.size + 1]? = some (.cells zero31.toArray 122 (0, 0)) by rw [hW2, ← z1]; exact heap_alloc_new W1 _)
  have HK := Lib.hid (show Kept w W2 by rw [hW2, hW1]; exact ((Kept.refl _).alloc _).alloc _)
  have zz : zero31 = [.slice none 0 0, .int .u8 0, .int .u8 0, .int .u8 0, .int .u8 0, .int .u8 0, .int .u8 0, .int .u8 0, .int .u8 0, .int .u8 0, .int .u8 0, .int .u8 0, .int .u8 0, .int .u8 0, .int .u8 0, .int .u8 0, .int .u8 0, .int .u8 0, .int .u8 0, .int .u8 0, .int .u8 0, .int .u8 0, .int .u8 0, .int .u8 0, .int .u8 0, .int .u8 0, .int .u8 0, .int .u8 0, .int .u8 0, .int .u8 0, .int .u8 0] := rfl
  have HW : RowKit.Hid (W2 = (w.alloc (.cells #[.slice A n c, .slice B m d] 25)).alloc (.cells #[.slice none 0 0, .int .u8 0, .int .u8 0, .int .u8 0, .int .u8 0, .int .u8 0, .int .u8 0, .int .u8 0, .int .u8 0, .int .u8 0, .int .u8 0, .int .u8 0, .int .u8 0, .int .u8 0, .int .u8 0, .int .u8 0, .int .u8 0, .int .u8 0, .int .u8 0, .int .u8 0, .int .u8 0, .int .u8 0, .int .u8 0, .int .u8 0, .int .u8 0, .int .u8 0, .int .u8 0, .int .u8 0, .int .u8 0, .int .u8 0, .int .u8 0] 122)) := Lib.hid (by rw [hW2, hW1, zz])
  have HS := Lib.hid (hs.kept HK.out)
  have hz2 : w.heap.size + 1 < W2.heap.size := by rw [hW2]; simp [z1]
  have H76 : RowKit.Hid (∀ W, Kept W2 W → Calls Tryz.prog 76 #[.agg #[.slice A n c, .slice B m d], .int .i64 day] W (FrcP W ms day)) := Lib.hid (fun W hW => inForce_any A B n c m d ms fs day W (HS.out.kept hW) hn hv)
  have H103 : RowKit.Hid (∀ W, Kept W2 W → Calls Tryz.prog 103 #[.slice B m d] W fun e w' => e = .returned (.agg (lkL (lkX fs)).toArray) ∧ Kept W w') := Lib.hid (fun W hW => looksOf_any B m d fs W (HS.out.2.kept hW) hf)
  have a0 := (HR1.out 0 _ rfl).1
  have a1 := (HR1.out 1 _ rfl).1
  have la := cell_lt a0
  clear hW1 hW2 z1 k12 zz hs hv hf
  go_enter Tryz.func90, Tryz.ntmps90
  go_upto_region 1 with (fail)
  rw [← HW.out]
  refine wp_region_held_drew (S := fun W' => W'.cell? ⟨w.heap.size, 0, none⟩ = some (.slice A n c) ∧ W'.cell? ⟨w.heap.size, 1, none⟩ = some (.slice B m d)) (by kernel_rfl) (⟨a0, a1⟩) (fun hHeld => ?_)
  refine take_at (i := 0) (d := some 5) (v := ?_) rfl rfl (by kernel_rfl) (by kernel_rfl) (by kernel_rfl) (fun _ _ _ h => h) (Or.inl ⟨by rfl, ?_⟩) hHeld ?_
  rotate_left
  · intro w hSw
    try dsimp only at hSw
    go_simp
    try (with_reducible rfl)
  try simp only [Act.put, List.setIfInBounds_toArray, List.set_cons_zero, List.set_cons_succ]
  refine take_at (i := 1) (d := some 6) (v := ?_) rfl rfl (by kernel_rfl) (by kernel_rfl) (by kernel_rfl) (fun _ _ _ h => h) (Or.inl ⟨by rfl, ?_⟩) hHeld ?_
  rotate_left
  · intro w hSw
    try dsimp only at hSw
    go_simp
    try (with_reducible rfl)
  try simp only [Act.put, List.setIfInBounds_toArray, List.set_cons_zero, List.set_cons_succ]
  refine take_at (i := 3) (d := some 8) (v := ?_) rfl rfl (by kernel_rfl) (by kernel_rfl) (by kernel_rfl) (fun _ _ _ h => h) (Or.inl ⟨by rfl, ?_⟩) hHeld ?_
  rotate_left
  · intro w hSw
    try dsimp only at hSw
    go_simp
    try (with_reducible rfl)
  try simp only [Act.put, List.setIfInBounds_toArray, List.set_cons_zero, List.set_cons_succ]
  refine take_at (i := 4) (d := some 9) (v := ?_) rfl rfl (by kernel_rfl) (by kernel_rfl) (by kernel_rfl) (fun _ _ _ h => h) (Or.inl ⟨by rfl, ?_⟩) hHeld ?_
  rotate_left
  · intro w hSw
    try dsimp only at hSw
    go_simp
    try (with_reducible rfl)
  try simp only [Act.put, List.setIfInBounds_toArray, List.set_cons_zero, List.set_cons_succ]
  refine wpAnyH_ready (rs := [2]) (by kernel_rfl) (by simp) ?_
  refine AllReadyH.cons rfl (fun K hK => ?_) AllReadyH.nil
  rw [if_pos (by rfl)]
  go_simp
  refine (H76.out _ ((Kept.refl W2).drew)).mono ?_
  rintro e w5 ⟨A5, c5, l5, rfl, p1, p2, sl5, fr5, hk5⟩
  have FR5 := Lib.hid fr5
  have kk5 : Kept W2 w5 := ((Kept.refl W2).drew).trans hk5
  have HP1 := Lib.hid p1
  have HP2 := Lib.hid p2
  have SL5 := Lib.hid sl5
  have KK5 := Lib.hid kk5
  clear hk5 kk5 p1 p2 sl5 fr5
  go_wp2_with fail
  refine hK.out _ _ (⟨(HR1.out.kept KK5.out 0 _ rfl).1, (HR1.out.kept KK5.out 1 _ rfl).1⟩) (fun hHeld => ?_)
  clear hK K
  try simp only [Act.put, List.setIfInBounds_toArray, List.set_cons_zero, List.set_cons_succ]
  refine wpAnyH_ready (rs := [5]) (by kernel_rfl) (by simp) ?_
  refine AllReadyH.cons rfl (fun K hK => ?_) AllReadyH.nil
  rw [if_pos (by rfl)]
  go_simp
  refine (H103.out _ KK5.out).mono ?_
  rintro e w6 ⟨rfl, hk6⟩
  have KK6 := Lib.hid (KK5.out.trans hk6)
  have HK6 := Lib.hid hk6
  clear hk6
  go_wp2_with fail
  refine hK.out _ _ (⟨(HR1.out.kept KK6.out 0 _ rfl).1, (HR1.out.kept KK6.out 1 _ rfl).1⟩) (fun hHeld => ?_)
  clear hK K
  try simp only [Act.put, List.setIfInBounds_toArray, List.set_cons_zero, List.set_cons_succ]
  refine take_at (i := 6) (d := some 11) (v := .agg (Value.slice A5 l5.length c5 :: lkL (lkX fs)).toArray) rfl rfl (by kernel_rfl) (by kernel_rfl) (by kernel_rfl) (fun _ _ _ h => h) (yieldsIf_build (by rfl) 122 #[(0, .tmp 7), (1, .tmp 10)] rfl (Value.slice A5 l5.length c5 :: lkL (lkX fs)).toArray [(0, .slice A5 l5.length c5), (1, .agg (lkL (lkX fs)).toArray)] (by simp [Act.eval]) (built122 A5 l5.length c5 (lkX fs))) hHeld ?_
  try simp only [Act.put, List.setIfInBounds_toArray, List.set_cons_zero, List.set_cons_succ]
  refine wpAnyH_ready (rs := [7]) (by kernel_rfl) (by simp) ?_
  refine AllReadyH.cons rfl (fun K hK => ?_) AllReadyH.nil
  rw [if_pos (by rfl)]
  refine wp_store_row 122 (.tmp 4) (.tmp 11) rfl (w.heap.size + 1) (Value.slice A5 l5.length c5 :: lkL (lkX fs)).toArray rfl rfl 122 zero31.toArray ((KK6.out.block _ hz2).trans HB.out) (by rw [hi]; simp [lkL_len]) (by simp [zero31, lkL_len]) (by simp [lkL, Value.oneCell']) ?_
  refine hK.out _ _ ⟨?_, ?_⟩ (fun hHeld => ?_)
  · rw [cell_setRow_other _ _ _ _ (by simp)]; exact (HR1.out.kept KK6.out 0 _ rfl).1
  · rw [cell_setRow_other _ _ _ _ (by simp)]; exact (HR1.out.kept KK6.out 1 _ rfl).1
  clear hK K
  try simp only [Act.put, List.setIfInBounds_toArray, List.set_cons_zero, List.set_cons_succ]
  refine wpAnyH_done (by kernel_rfl) ?_ _
  go_wp2
  refine bodyPost_ret (v := vwV A5 l5.length c5 fs) (results_cell_row (fn := Tryz.f90) (p := 4) (ty := 122) rfl _ _ (w.heap.size + 1) 122 (Value.slice A5 l5.length c5 :: lkL (lkX fs)).toArray (0, 0) _ rfl (setRow_heap _ _ _ _ _ _ ((KK6.out.block _ hz2).trans HB.out)) Tryz.underlying122 rfl (by rw [hi]; simp [lkL_len])) rfl ⟨A5, c5, l5, rfl, HP1.out, HP2.out, ?_, (fun b o s e => by have := FR5.out b o s e; have := HK.out.size; have hz : (W2.drew).heap.size = W2.heap.size := rfl; omega), ?_⟩
  · have h6 := SL5.out.kept HK6.out
    refine ⟨h6.1, h6.2.1, h6.2.2.1, h6.2.2.2.1, fun hn => ?_⟩
    obtain ⟨b, off, e, ht⟩ := h6.2.2.2.2 hn
    have hb := FR5.out b off none e
    have hz : (W2.drew).heap.size = W2.heap.size := rfl
    refine ⟨b, off, e, fun i x hx j v hv => ?_⟩
    rw [cell_setRow_other _ _ _ _ (by simp; omega)]
    exact ht i x hx j v hv
  · exact (HK.out.trans KK6.out).setRow (by omega) _
end Go.Proofs.YtologmoanaccpaaGreatDoor
