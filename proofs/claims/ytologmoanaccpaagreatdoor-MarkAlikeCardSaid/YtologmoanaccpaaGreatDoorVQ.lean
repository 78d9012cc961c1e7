/-
  Mistaken of the reference 38
-/
import Derived.Test.YtologmoanaccpaaGreatDoorVO
import Derived.Test.YtologmoanaccpaaGreatDoorYD
namespace Go.Proofs.YtologmoanaccpaaGreatDoor
set_option linter.all false
open Go.RowKit Go.Shelf

def RmP (w : World) (ms : List Mk) (fs : List Fd) (day : Int) (e : Ending) (w' : World) : Prop :=
  ((inE ms fs day ≠ 0 ∧ e = .returned (.tuple #[.slice none 0 0, .int .i64 (inE ms fs day)])) ∨
   (inE ms fs day = 0 ∧ ∃ v, e = .returned (.tuple #[v, .int .i64 0]) ∧ w'.ownsRow w.heap.size 90 2 v (misL fs (rfL ms day 40)).length ((misL fs (rfL ms day 40)).flatMap prC))) ∧ Kept w w'
set_option maxRecDepth 100000 in
set_option maxHeartbeats 12800000 in
theorem rmistaken_any (A B : Option Addr) (n c m d : Nat) (ms : List Mk) (fs : List Fd) (day : Int) (w : World) (hs : SmA w A n c ms B m d fs) :
    Calls Tryz.prog 38 #[.agg #[.slice A n c, .slice B m d], .int .i64 day] w (RmP w ms fs day) := by
  obtain ⟨W0, hW0⟩ : ∃ W0, W0 = w.alloc (.cells #[.slice A n c, .slice B m d] 25) := ⟨_, rfl⟩
  have K0 : RowKit.Hid (Kept w W0) := Lib.hid (by rw [hW0]; exact (Kept.refl _).alloc _)
  have RA : RowKit.Hid (RowC W0 w.heap.size [.slice A n c, .slice B m d]) := Lib.hid (by rw [hW0]; exact RowC.new w [.slice A n c, .slice B m d] 25)
  obtain ⟨i9, hi9, hz9a, hz9b, hz9c⟩ := info_parts info90
  have HW := Lib.hid hW0
  have HS := Lib.hid (hs.kept K0.out)
  have HMO := Lib.hid hs.1.2.2.2.1
  have HFO := Lib.hid hs.2.2.2.2.1
  have H21 := Lib.hid (rinForce_any A B n c m d ms fs day W0 (HS.out))
  have H100 : RowKit.Hid (∀ (s t : Sg) W, Kept W0 W → s.ok → t.ok → Calls Tryz.prog 100 #[.agg #[.slice A n c, .slice B m d], .agg #[.int .u8 s.s0, .int .u8 s.s1, .int .u8 s.s2, .int .u8 s.s3, .int .u8 s.s4, .int .u8 s.s5], .agg #[.int .u8 t.s0, .int .u8 t.s1, .int .u8 t.s2, .int .u8 t.s3, .int .u8 t.s4, .int .u8 t.s5]] W (CmR W fs s t)) := Lib.hid (fun s t W hW h1 h2 => rcommon_any A B n c m d ms fs s t h1 h2 W (HS.out.kept hW))
  clear hW0 hs
  have a0 := (RA.out 0 _ rfl).1
  have a1 := (RA.out 1 _ rfl).1
  have la := cell_lt a0
  go_enter Tryz.func38, Tryz.ntmps38
  go_upto_region 1 with (fail)
  rw [← HW.out]
  go_wp2_with fail
  refine H21.out.mono ?_
  rintro e w2 ⟨⟨hne, rfl⟩ | ⟨h0, A2, n2, c2, rfl, hl2⟩, hk2⟩
  · obtain ⟨E, hE⟩ : ∃ E, inE ms fs day = E := ⟨_, rfl⟩
    rw [hE] at hne ⊢
    have HE := Lib.hid hE
    have HNE := Lib.hid hne
    have h1 : (E != 0) = true := by simpa using hne
    have K2 := Lib.hid (K0.out.trans hk2)
    clear hk2 a0 a1 la hE hne
    go_wp2_with fail
    go_ret2
    exact ⟨.inl ⟨by rw [HE.out]; exact HNE.out, by rw [HE.out]; rfl⟩, K2.out⟩
  have H0 := Lib.hid h0
  obtain ⟨hsm, _⟩ := fstE_two (show fstE [smE ms fs, errB (inB day 0 100000)] = 0 from h0)
  obtain ⟨_, _, hmv, hfv, _, hcl⟩ := sm_ok hsm
  obtain ⟨l, hl⟩ : ∃ l, rfL ms day 40 = l := ⟨_, rfl⟩
  have HLM : RowKit.Hid (∀ x ∈ l, x.ok ∧ clearB x.sg = true) := Lib.hid (fun x hx => by
    rw [← hl] at hx
    unfold rfL at hx
    obtain ⟨k, _, hk⟩ := List.mem_filterMap.1 hx
    have := mkAt_mem hk
    exact ⟨HMO.out x this, mark_clear (hmv x this)⟩)
  have HCM : RowKit.Hid (∀ x ∈ l, ∀ y ∈ l, (apK fs x.sg y.sg 6 == 0) = cmB fs x.sg y.sg 6) := Lib.hid (fun x hx y hy => by
    have h := cm_ap HFO.out (fade4 hfv) (mk_sg (HLM.out x hx).1) (mk_sg (HLM.out y hy).1) (HLM.out x hx).2 (HLM.out y hy).2
    cases e : cmB fs x.sg y.sg 6
    · rw [e] at h
      simpa using h
    · rw [e] at h
      simpa using h)
  have hn40 : n2 ≤ 40 := by rw [← hl2.1]; exact rfL_len ms day 40
  rw [hl] at hl2
  have HL := Lib.hid hl
  have HL2 := Lib.hid hl2
  have HN := Lib.hid hl2.1
  have hn2 := hl2.2.1
  have hc2 := hl2.2.2.1
  have K2 := Lib.hid hk2
  clear hk2 a0 a1 la h0 hsm hmv hfv hcl hl hl2
  go_wp2_with fail
  go_loopw [8, 9, 10, 11, 12] (fun v i _ _ _ wr => ∃ i' : Nat, i' ≤ n2 ∧ i = .int .i64 i' ∧ wr.ownsRow w2.heap.size 90 2 v (misK fs l i').length ((misK fs l i').flatMap prC) ∧ Kept w2 wr) (fun _ i _ _ _ _ => n2 - (intOf i).toNat)
  case atStart => exact ⟨0, by omega, by first | rfl | go_num, World.ownsRow_nil _ _ _ _, Kept.refl _⟩
  case round =>
    obtain ⟨i, hi, rfl, hown, hkr⟩ := hrel
    have HO := Lib.hid hown
    have HKR := Lib.hid hkr
    clear hown hkr
    obtain ⟨Wo, hWo⟩ : ∃ Wo, Wo = wr := ⟨_, rfl⟩
    rw [← hWo] at HO HKR ⊢
    clear hWo
    by_cases hlt : i < n2
    · obtain ⟨x, hx⟩ : ∃ x, l[i]? = some x := ⟨_, List.getElem?_eq_getElem (by rw [HN.out]; exact hlt)⟩
      have HX := Lib.hid hx
      have hxm := List.mem_of_getElem? hx
      have HXM := Lib.hid hxm
      clear hx hxm
      go_wp2_with fail
      go_loopw [8, 10, 11, 12] (fun v i' _ _ wr => ∃ j : Nat, j ≤ n2 - (i + 1) ∧ i' = .int .i64 ((i : Int) + 1 + (j : Int)) ∧ wr.ownsRow w2.heap.size 90 2 v (misK fs l i ++ mis1 fs x ((l.drop (i + 1)).take j)).length ((misK fs l i ++ mis1 fs x ((l.drop (i + 1)).take j)).flatMap prC) ∧ Kept w2 wr) (fun _ i' _ _ _ => n2 - (intOf i').toNat)
      case atStart => exact ⟨0, by omega, by first | rfl | go_num | (congr 1; omega), by simpa [mis1] using HO.out, HKR.out⟩
      case round =>
        obtain ⟨j, hj, rfl, hown, hkr⟩ := hrel
        have HO2 := Lib.hid hown
        have HKQ := Lib.hid hkr
        clear hown hkr
        by_cases hlt2 : j < n2 - (i + 1)
        · obtain ⟨y, hy⟩ : ∃ y, l[i + 1 + j]? = some y := ⟨_, List.getElem?_eq_getElem (by rw [HN.out]; omega)⟩
          have hyd : (l.drop (i + 1))[j]? = some y := by rw [List.getElem?_drop]; exact hy
          have hym := List.mem_of_getElem? hy
          have HM1 := Lib.hid (mis1_snoc (fs := fs) (x := x) hyd)
          have hcb := HCM.out x HXM.out y hym
          obtain ⟨cb, hcb2⟩ : ∃ b, cmB fs x.sg y.sg 6 = b := ⟨_, rfl⟩
          rw [hcb2] at hcb
          rw [hcb] at HM1
          have HC : RowKit.Hid (∀ W, Kept wr W → Calls Tryz.prog 100 #[.agg #[.slice A n c, .slice B m d], .agg #[.int .u8 x.sg.s0, .int .u8 x.sg.s1, .int .u8 x.sg.s2, .int .u8 x.sg.s3, .int .u8 x.sg.s4, .int .u8 x.sg.s5], .agg #[.int .u8 y.sg.s0, .int .u8 y.sg.s1, .int .u8 y.sg.s2, .int .u8 y.sg.s3, .int .u8 y.sg.s4, .int .u8 y.sg.s5]] W fun e w' => (∃ r : Sg, e = .returned (.tuple #[.agg #[.int .u8 r.s0, .int .u8 r.s1, .int .u8 r.s2, .int .u8 r.s3, .int .u8 r.s4, .int .u8 r.s5], .bool cb])) ∧ Kept W w') := Lib.hid (fun W hW => (H100.out x.sg y.sg W (K2.out.trans (HKQ.out.trans hW)) (mk_sg (HLM.out x HXM.out).1) (mk_sg (HLM.out y hym).1)).mono fun e w' h => ⟨⟨_, by rw [← hcb2]; exact h.1⟩, h.2⟩)
          obtain ⟨b, off, hA, ht⟩ := HL2.out.2.2.2.2 (by omega)
          subst hA
          have TX := Lib.hid (fun t v (hv : (mkC x)[t]? = some v) => ht i x HX.out t v hv)
          have TY := Lib.hid (fun t v (hv : (mkC y)[t]? = some v) => ht (i + 1 + j) y hy t v hv)
          have hi0 : (0 : Int) ≤ (i : Int) := by omega
          have hi1 : (i : Int) < (n2 : Int) := by omega
          have hj0 : (0 : Int) ≤ (i : Int) + 1 + (j : Int) := by omega
          have hj1 : (i : Int) + 1 + (j : Int) < (n2 : Int) := by omega
          have hjn : ((i : Int) + 1 + (j : Int)).toNat = i + 1 + j := by omega
          clear hy hyd hym ht hcb hcb2
          go_upto_region 11 with (fail)
          have SC : RowKit.Hid (∀ W, Kept wr W → W.cell? ⟨w.heap.size, 0, none⟩ = some (.slice A n c) ∧ W.cell? ⟨w.heap.size, 1, none⟩ = some (.slice B m d) ∧ W.cell? ⟨b, off + i * 9 + 3, none⟩ = some (.int .u8 x.sg.s0) ∧ W.cell? ⟨b, off + i * 9 + 4, none⟩ = some (.int .u8 x.sg.s1) ∧ W.cell? ⟨b, off + i * 9 + 5, none⟩ = some (.int .u8 x.sg.s2) ∧ W.cell? ⟨b, off + i * 9 + 6, none⟩ = some (.int .u8 x.sg.s3) ∧ W.cell? ⟨b, off + i * 9 + 7, none⟩ = some (.int .u8 x.sg.s4) ∧ W.cell? ⟨b, off + i * 9 + 8, none⟩ = some (.int .u8 x.sg.s5) ∧ W.cell? ⟨b, off + (i + 1 + j) * 9 + 3, none⟩ = some (.int .u8 y.sg.s0) ∧ W.cell? ⟨b, off + (i + 1 + j) * 9 + 4, none⟩ = some (.int .u8 y.sg.s1) ∧ W.cell? ⟨b, off + (i + 1 + j) * 9 + 5, none⟩ = some (.int .u8 y.sg.s2) ∧ W.cell? ⟨b, off + (i + 1 + j) * 9 + 6, none⟩ = some (.int .u8 y.sg.s3) ∧ W.cell? ⟨b, off + (i + 1 + j) * 9 + 7, none⟩ = some (.int .u8 y.sg.s4) ∧ W.cell? ⟨b, off + (i + 1 + j) * 9 + 8, none⟩ = some (.int .u8 y.sg.s5) ∧ Kept wr W) := Lib.hid (fun W hW => by
            have h3 := HKQ.out.trans hW
            have h0 := K2.out.trans h3
            exact ⟨(RA.out.kept h0 0 _ rfl).1, (RA.out.kept h0 1 _ rfl).1, (h3.cells _ _ (cell_lt (TX.out 3 _ rfl))).trans (TX.out 3 _ rfl), (h3.cells _ _ (cell_lt (TX.out 4 _ rfl))).trans (TX.out 4 _ rfl), (h3.cells _ _ (cell_lt (TX.out 5 _ rfl))).trans (TX.out 5 _ rfl), (h3.cells _ _ (cell_lt (TX.out 6 _ rfl))).trans (TX.out 6 _ rfl), (h3.cells _ _ (cell_lt (TX.out 7 _ rfl))).trans (TX.out 7 _ rfl), (h3.cells _ _ (cell_lt (TX.out 8 _ rfl))).trans (TX.out 8 _ rfl), (h3.cells _ _ (cell_lt (TY.out 3 _ rfl))).trans (TY.out 3 _ rfl), (h3.cells _ _ (cell_lt (TY.out 4 _ rfl))).trans (TY.out 4 _ rfl), (h3.cells _ _ (cell_lt (TY.out 5 _ rfl))).trans (TY.out 5 _ rfl), (h3.cells _ _ (cell_lt (TY.out 6 _ rfl))).trans (TY.out 6 _ rfl), (h3.cells _ _ (cell_lt (TY.out 7 _ rfl))).trans (TY.out 7 _ rfl), (h3.cells _ _ (cell_lt (TY.out 8 _ rfl))).trans (TY.out 8 _ rfl), hW⟩)
          have kd := (Kept.refl wr).drew
          go_cut [11, 12] (fun _ s12 wx => s12 = .bool cb ∧ Kept wr wx)
          case first =>
            obtain ⟨Wd, hWd⟩ : ∃ Wd, Wd = wr.drew := ⟨_, rfl⟩
            refine wp_region_held_drew (S := fun W => W.cell? ⟨w.heap.size, 0, none⟩ = some (.slice A n c) ∧ W.cell? ⟨w.heap.size, 1, none⟩ = some (.slice B m d) ∧ W.cell? ⟨b, off + i * 9 + 3, none⟩ = some (.int .u8 x.sg.s0) ∧ W.cell? ⟨b, off + i * 9 + 4, none⟩ = some (.int .u8 x.sg.s1) ∧ W.cell? ⟨b, off + i * 9 + 5, none⟩ = some (.int .u8 x.sg.s2) ∧ W.cell? ⟨b, off + i * 9 + 6, none⟩ = some (.int .u8 x.sg.s3) ∧ W.cell? ⟨b, off + i * 9 + 7, none⟩ = some (.int .u8 x.sg.s4) ∧ W.cell? ⟨b, off + i * 9 + 8, none⟩ = some (.int .u8 x.sg.s5) ∧ W.cell? ⟨b, off + (i + 1 + j) * 9 + 3, none⟩ = some (.int .u8 y.sg.s0) ∧ W.cell? ⟨b, off + (i + 1 + j) * 9 + 4, none⟩ = some (.int .u8 y.sg.s1) ∧ W.cell? ⟨b, off + (i + 1 + j) * 9 + 5, none⟩ = some (.int .u8 y.sg.s2) ∧ W.cell? ⟨b, off + (i + 1 + j) * 9 + 6, none⟩ = some (.int .u8 y.sg.s3) ∧ W.cell? ⟨b, off + (i + 1 + j) * 9 + 7, none⟩ = some (.int .u8 y.sg.s4) ∧ W.cell? ⟨b, off + (i + 1 + j) * 9 + 8, none⟩ = some (.int .u8 y.sg.s5) ∧ Kept wr W) (by kernel_rfl) (SC.out _ kd) (fun hHeld => ?_)
            rw [← hWd] at hHeld kd ⊢
            clear hWd
            refine take_at (i := 0) (d := some 37) (v := ?_) rfl rfl (by kernel_rfl) (by kernel_rfl) (by kernel_rfl) (fun _ _ _ h => h) (Or.inl ⟨by rfl, ?_⟩) hHeld ?_
            rotate_left
            · intro w hSw
              try dsimp only at hSw
              go_simp
              try (with_reducible rfl)
            try simp only [Act.put, List.setIfInBounds_toArray, List.set_cons_zero, List.set_cons_succ]
            refine take_at (i := 1) (d := some 38) (v := ?_) rfl rfl (by kernel_rfl) (by kernel_rfl) (by kernel_rfl) (fun _ _ _ h => h) (Or.inl ⟨by rfl, ?_⟩) hHeld ?_
            rotate_left
            · intro w hSw
              try dsimp only at hSw
              go_simp
              try (with_reducible rfl)
            try simp only [Act.put, List.setIfInBounds_toArray, List.set_cons_zero, List.set_cons_succ]
            refine take_at (i := 2) (d := some 39) (v := ?_) rfl rfl (by kernel_rfl) (by kernel_rfl) (by kernel_rfl) (fun _ _ _ h => h) (Or.inl ⟨by rfl, ?_⟩) hHeld ?_
            rotate_left
            · intro w hSw
              try dsimp only at hSw
              go_simp
              try (with_reducible rfl)
            try simp only [Act.put, List.setIfInBounds_toArray, List.set_cons_zero, List.set_cons_succ]
            refine take_at (i := 3) (d := some 40) (v := ?_) rfl rfl (by kernel_rfl) (by kernel_rfl) (by kernel_rfl) (fun _ _ _ h => h) (Or.inl ⟨by rfl, ?_⟩) hHeld ?_
            rotate_left
            · intro w hSw
              try dsimp only at hSw
              go_simp
              try (with_reducible rfl)
            try simp only [Act.put, List.setIfInBounds_toArray, List.set_cons_zero, List.set_cons_succ]
            refine take_at (i := 4) (d := some 41) (v := ?_) rfl rfl (by kernel_rfl) (by kernel_rfl) (by kernel_rfl) (fun _ _ _ h => h) (Or.inl ⟨by rfl, ?_⟩) hHeld ?_
            rotate_left
            · intro w hSw
              try dsimp only at hSw
              go_simp
              try (with_reducible rfl)
            try simp only [Act.put, List.setIfInBounds_toArray, List.set_cons_zero, List.set_cons_succ]
            refine take_at (i := 5) (d := some 42) (v := ?_) rfl rfl (by kernel_rfl) (by kernel_rfl) (by kernel_rfl) (fun _ _ _ h => h) (Or.inl ⟨by rfl, ?_⟩) hHeld ?_
            rotate_left
            · intro w hSw
              try dsimp only at hSw
              go_simp
              try (with_reducible rfl)
            try simp only [Act.put, List.setIfInBounds_toArray, List.set_cons_zero, List.set_cons_succ]
            refine take_at (i := 6) (d := some 43) (v := ?_) rfl rfl (by kernel_rfl) (by kernel_rfl) (by kernel_rfl) (fun _ _ _ h => h) (Or.inl ⟨by rfl, ?_⟩) hHeld ?_
            rotate_left
            · intro w hSw
              try dsimp only at hSw
              go_simp
              try (with_reducible rfl)
            try simp only [Act.put, List.setIfInBounds_toArray, List.set_cons_zero, List.set_cons_succ]
            refine take_at (i := 7) (d := some 44) (v := ?_) rfl rfl (by kernel_rfl) (by kernel_rfl) (by kernel_rfl) (fun _ _ _ h => h) (Or.inl ⟨by rfl, ?_⟩) hHeld ?_
            rotate_left
            · intro w hSw
              try dsimp only at hSw
              go_simp
              try (with_reducible rfl)
            try simp only [Act.put, List.setIfInBounds_toArray, List.set_cons_zero, List.set_cons_succ]
            refine take_at (i := 8) (d := some 45) (v := ?_) rfl rfl (by kernel_rfl) (by kernel_rfl) (by kernel_rfl) (fun _ _ _ h => h) (Or.inl ⟨by rfl, ?_⟩) hHeld ?_
            rotate_left
            · intro w hSw
              try dsimp only at hSw
              go_simp
              try (with_reducible rfl)
            try simp only [Act.put, List.setIfInBounds_toArray, List.set_cons_zero, List.set_cons_succ]
            refine take_at (i := 9) (d := some 46) (v := ?_) rfl rfl (by kernel_rfl) (by kernel_rfl) (by kernel_rfl) (fun _ _ _ h => h) (Or.inl ⟨by rfl, ?_⟩) hHeld ?_
            rotate_left
            · intro w hSw
              try dsimp only at hSw
              go_simp
              try (with_reducible rfl)
            try simp only [Act.put, List.setIfInBounds_toArray, List.set_cons_zero, List.set_cons_succ]
            refine take_at (i := 10) (d := some 47) (v := ?_) rfl rfl (by kernel_rfl) (by kernel_rfl) (by kernel_rfl) (fun _ _ _ h => h) (Or.inl ⟨by rfl, ?_⟩) hHeld ?_
            rotate_left
            · intro w hSw
              try dsimp only at hSw
              go_simp
              try (with_reducible rfl)
            try simp only [Act.put, List.setIfInBounds_toArray, List.set_cons_zero, List.set_cons_succ]
            refine wpAnyH_ready (rs := [11, 15]) (by kernel_rfl) (by simp) ?_
            refine AllReadyH.cons rfl (fun K hK => ?_) ?_
            · rw [if_pos (by rfl)]
              go_simp
              refine (HC.out _ kd).mono ?_
              rintro e w5 ⟨⟨r, rfl⟩, hk5⟩
              have k5 := kd.trans hk5
              go_wp2_with fail
              refine hK.out _ _ (SC.out _ k5) (fun hHeld => ?_)
              clear hK K
              try simp only [Act.put, List.setIfInBounds_toArray, List.set_cons_zero, List.set_cons_succ]
              refine take_at (i := 12) (d := some 36) (v := ?_) rfl rfl (by kernel_rfl) (by kernel_rfl) (by kernel_rfl) (fun _ _ _ h => h) (Or.inl ⟨by rfl, ?_⟩) hHeld ?_
              rotate_left
              · intro w hSw
                try dsimp only at hSw
                go_simp
                try (with_reducible rfl)
              try simp only [Act.put, List.setIfInBounds_toArray, List.set_cons_zero, List.set_cons_succ]
              refine take_at (i := 13) (d := some 49) (v := ?_) rfl rfl (by kernel_rfl) (by kernel_rfl) (by kernel_rfl) (fun _ _ _ h => h) (Or.inl ⟨by rfl, ?_⟩) hHeld ?_
              rotate_left
              · intro w hSw
                try dsimp only at hSw
                go_simp
                try (with_reducible rfl)
              try simp only [Act.put, List.setIfInBounds_toArray, List.set_cons_zero, List.set_cons_succ]
              refine take_at (i := 14) (d := some 50) (v := ?_) rfl rfl (by kernel_rfl) (by kernel_rfl) (by kernel_rfl) (fun _ _ _ h => h) (Or.inl ⟨by rfl, ?_⟩) hHeld ?_
              rotate_left
              · intro w hSw
                try dsimp only at hSw
                go_simp
                try (with_reducible rfl)
              try simp only [Act.put, List.setIfInBounds_toArray, List.set_cons_zero, List.set_cons_succ]
              refine wpAnyH_ready (rs := [15]) (by kernel_rfl) (by simp) ?_
              refine AllReadyH.cons rfl (fun K hK => ?_) AllReadyH.nil
              rw [if_pos (by rfl)]
              go_simp
              obtain ⟨W6, hW6⟩ : ∃ W6, W6 = w5.alloc (.cells #[.int .u8 0, .int .u8 0, .int .u8 0, .int .u8 0, .int .u8 0, .int .u8 0] 39) := ⟨_, rfl⟩
              rw [← hW6]
              have k6 : Kept wr W6 := by rw [hW6]; exact k5.alloc _
              have RZ := Lib.hid (show RowC W6 w5.heap.size zero6 by rw [hW6]; exact RowC.new w5 zero6 39)
              have hg := k5.size
              refine hK.out _ _ (SC.out _ k6) (fun hHeld => ?_)
              clear hK K hW6
              try simp only [Act.put, List.setIfInBounds_toArray, List.set_cons_zero, List.set_cons_succ]
              have z0 := (RZ.out 0 _ rfl).1
              have f0 := (RZ.out 0 _ rfl).2
              have z1 := (RZ.out 1 _ rfl).1
              have f1 := (RZ.out 1 _ rfl).2
              have z2 := (RZ.out 2 _ rfl).1
              have f2 := (RZ.out 2 _ rfl).2
              have z3 := (RZ.out 3 _ rfl).1
              have f3 := (RZ.out 3 _ rfl).2
              have z4 := (RZ.out 4 _ rfl).1
              have f4 := (RZ.out 4 _ rfl).2
              have z5 := (RZ.out 5 _ rfl).1
              have f5 := (RZ.out 5 _ rfl).2
              have hg2 : wr.heap.size ≤ (⟨w5.heap.size, 0, none⟩ : Addr).block := by simpa using hg
              refine wpAnyH_ready (rs := [16]) (by kernel_rfl) (by simp) ?_
              refine AllReadyH.cons rfl (fun K hK => ?_) AllReadyH.nil
              rw [if_pos (by rfl)]
              go_simp
              have kz := ((((((k6.setCell (p := ⟨w5.heap.size, 0, none⟩) hg2 (.int .u8 r.s0)).setCell (p := ⟨w5.heap.size, 1, none⟩) hg2 (.int .u8 r.s1)).setCell (p := ⟨w5.heap.size, 2, none⟩) hg2 (.int .u8 r.s2)).setCell (p := ⟨w5.heap.size, 3, none⟩) hg2 (.int .u8 r.s3)).setCell (p := ⟨w5.heap.size, 4, none⟩) hg2 (.int .u8 r.s4)).setCell (p := ⟨w5.heap.size, 5, none⟩) hg2 (.int .u8 r.s5))
              refine hK.out _ _ (SC.out _ kz) (fun hHeld => ?_)
              clear hK K
              try simp only [Act.put, List.setIfInBounds_toArray, List.set_cons_zero, List.set_cons_succ]
              refine take_at (i := 17) (d := some 12) (v := ?_) rfl rfl (by kernel_rfl) (by kernel_rfl) (by kernel_rfl) (fun _ _ _ h => h) (Or.inl ⟨by rfl, ?_⟩) hHeld ?_
              rotate_left
              · intro w hSw
                try dsimp only at hSw
                go_simp
                try (with_reducible rfl)
              try simp only [Act.put, List.setIfInBounds_toArray, List.set_cons_zero, List.set_cons_succ]
              refine wpAnyH_done (by kernel_rfl) ?_ _
              go_wp2
              go_meet
              exact ⟨rfl, kz⟩
            refine AllReadyH.cons rfl (fun K hK => ?_) AllReadyH.nil
            · rw [if_pos (by rfl)]
              go_simp
              obtain ⟨W6, hW6⟩ : ∃ W6, W6 = Wd.alloc (.cells #[.int .u8 0, .int .u8 0, .int .u8 0, .int .u8 0, .int .u8 0, .int .u8 0] 39) := ⟨_, rfl⟩
              rw [← hW6]
              have k6 : Kept wr W6 := by rw [hW6]; exact kd.alloc _
              have RZ0 := Lib.hid (show RowC W6 Wd.heap.size zero6 by rw [hW6]; exact RowC.new Wd zero6 39)
              have hg := kd.size
              refine hK.out _ _ (SC.out _ k6) (fun hHeld => ?_)
              clear hK K hW6
              try simp only [Act.put, List.setIfInBounds_toArray, List.set_cons_zero, List.set_cons_succ]
              refine wpAnyH_ready (rs := [11]) (by kernel_rfl) (by simp) ?_
              refine AllReadyH.cons rfl (fun K hK => ?_) AllReadyH.nil
              rw [if_pos (by rfl)]
              go_simp
              refine (HC.out _ k6).mono ?_
              rintro e w5 ⟨⟨r, rfl⟩, hk5⟩
              have k5 := k6.trans hk5
              have RZ := Lib.hid (RZ0.out.kept hk5)
              go_wp2_with fail
              refine hK.out _ _ (SC.out _ k5) (fun hHeld => ?_)
              clear hK K
              try simp only [Act.put, List.setIfInBounds_toArray, List.set_cons_zero, List.set_cons_succ]
              refine take_at (i := 12) (d := some 36) (v := ?_) rfl rfl (by kernel_rfl) (by kernel_rfl) (by kernel_rfl) (fun _ _ _ h => h) (Or.inl ⟨by rfl, ?_⟩) hHeld ?_
              rotate_left
              · intro w hSw
                try dsimp only at hSw
                go_simp
                try (with_reducible rfl)
              try simp only [Act.put, List.setIfInBounds_toArray, List.set_cons_zero, List.set_cons_succ]
              refine take_at (i := 13) (d := some 49) (v := ?_) rfl rfl (by kernel_rfl) (by kernel_rfl) (by kernel_rfl) (fun _ _ _ h => h) (Or.inl ⟨by rfl, ?_⟩) hHeld ?_
              rotate_left
              · intro w hSw
                try dsimp only at hSw
                go_simp
                try (with_reducible rfl)
              try simp only [Act.put, List.setIfInBounds_toArray, List.set_cons_zero, List.set_cons_succ]
              refine take_at (i := 14) (d := some 50) (v := ?_) rfl rfl (by kernel_rfl) (by kernel_rfl) (by kernel_rfl) (fun _ _ _ h => h) (Or.inl ⟨by rfl, ?_⟩) hHeld ?_
              rotate_left
              · intro w hSw
                try dsimp only at hSw
                go_simp
                try (with_reducible rfl)
              try simp only [Act.put, List.setIfInBounds_toArray, List.set_cons_zero, List.set_cons_succ]
              have z0 := (RZ.out 0 _ rfl).1
              have f0 := (RZ.out 0 _ rfl).2
              have z1 := (RZ.out 1 _ rfl).1
              have f1 := (RZ.out 1 _ rfl).2
              have z2 := (RZ.out 2 _ rfl).1
              have f2 := (RZ.out 2 _ rfl).2
              have z3 := (RZ.out 3 _ rfl).1
              have f3 := (RZ.out 3 _ rfl).2
              have z4 := (RZ.out 4 _ rfl).1
              have f4 := (RZ.out 4 _ rfl).2
              have z5 := (RZ.out 5 _ rfl).1
              have f5 := (RZ.out 5 _ rfl).2
              have hg2 : wr.heap.size ≤ (⟨Wd.heap.size, 0, none⟩ : Addr).block := by simpa using hg
              refine wpAnyH_ready (rs := [16]) (by kernel_rfl) (by simp) ?_
              refine AllReadyH.cons rfl (fun K hK => ?_) AllReadyH.nil
              rw [if_pos (by rfl)]
              go_simp
              have kz := ((((((k5.setCell (p := ⟨Wd.heap.size, 0, none⟩) hg2 (.int .u8 r.s0)).setCell (p := ⟨Wd.heap.size, 1, none⟩) hg2 (.int .u8 r.s1)).setCell (p := ⟨Wd.heap.size, 2, none⟩) hg2 (.int .u8 r.s2)).setCell (p := ⟨Wd.heap.size, 3, none⟩) hg2 (.int .u8 r.s3)).setCell (p := ⟨Wd.heap.size, 4, none⟩) hg2 (.int .u8 r.s4)).setCell (p := ⟨Wd.heap.size, 5, none⟩) hg2 (.int .u8 r.s5))
              refine hK.out _ _ (SC.out _ kz) (fun hHeld => ?_)
              clear hK K
              try simp only [Act.put, List.setIfInBounds_toArray, List.set_cons_zero, List.set_cons_succ]
              refine take_at (i := 17) (d := some 12) (v := ?_) rfl rfl (by kernel_rfl) (by kernel_rfl) (by kernel_rfl) (fun _ _ _ h => h) (Or.inl ⟨by rfl, ?_⟩) hHeld ?_
              rotate_left
              · intro w hSw
                try dsimp only at hSw
                go_simp
                try (with_reducible rfl)
              try simp only [Act.put, List.setIfInBounds_toArray, List.set_cons_zero, List.set_cons_succ]
              refine wpAnyH_done (by kernel_rfl) ?_ _
              go_wp2
              go_meet
              exact ⟨rfl, kz⟩
          obtain ⟨rfl, hkc⟩ := hcut
          have HKC := Lib.hid hkc
          have HO3 := Lib.hid (own_kept HO2.out hkc)
          clear hkc kd
          cases cb with
          | false =>
            go_wp2_with fail
            go_roundw
            case rel => exact ⟨j + 1, by omega, by first | go_num | (congr 1; push_cast; omega), by rw [HM1.out]; exact HO3.out, HKQ.out.trans HKC.out⟩
            case measure => simp [intOf]; omega
          | true =>
            obtain ⟨L, hL⟩ : ∃ L, misK fs l i ++ mis1 fs x ((l.drop (i + 1)).take j) = L := ⟨_, rfl⟩
            have hLN : misK fs l i ++ mis1 fs x ((l.drop (i + 1)).take (j + 1)) = L ++ [⟨x.own, y.own⟩] := by rw [HM1.out, if_pos rfl, ← List.append_assoc, hL]
            have hLl : L.length ≤ 20000 := by
              rw [← hL, List.length_append]
              have h1 := misK_len fs l i
              have h2 := mis1_len fs x ((l.drop (i + 1)).take j)
              have h3 : ((l.drop (i + 1)).take j).length ≤ l.length := Nat.le_trans (List.length_take_le' _ _) (by rw [List.length_drop]; omega)
              have h4 : i * l.length ≤ 100 * 100 := Nat.mul_le_mul (by omega) (by rw [HN.out]; omega)
              rw [HN.out] at h3 h1
              rw [HN.out] at h4
              omega
            rw [hL] at HO3
            have HLN := Lib.hid hLN
            have HLL := Lib.hid hLl
            clear hL hLN hLl
            go_upto_region 13 with (fail)
            have HKP := Lib.hid (HKQ.out.trans HKC.out)
            have SD : RowKit.Hid (∀ W, Kept wc W → W.cell? ⟨b, off + i * 9, none⟩ = some (.int .i64 x.own) ∧ W.cell? ⟨b, off + (i + 1 + j) * 9, none⟩ = some (.int .i64 y.own)) := Lib.hid (fun W hW => by
              have h3 := HKP.out.trans hW
              have x0 := TX.out 0 _ rfl
              have y0 := TY.out 0 _ rfl
              rw [Nat.add_zero] at x0 y0
              exact ⟨(h3.cells _ _ (cell_lt x0)).trans x0, (h3.cells _ _ (cell_lt y0)).trans y0⟩)
            obtain ⟨Wd, hWd⟩ : ∃ Wd, Wd = wc.drew := ⟨_, rfl⟩
            have kd : Kept wc Wd := by rw [hWd]; exact (Kept.refl wc).drew
            have HKD := Lib.hid kd
            refine wp_region_held_drew (S := fun W => W.cell? ⟨b, off + i * 9, none⟩ = some (.int .i64 x.own) ∧ W.cell? ⟨b, off + (i + 1 + j) * 9, none⟩ = some (.int .i64 y.own)) (by kernel_rfl) (SD.out _ ((Kept.refl wc).drew)) (fun hHeld => ?_)
            rw [← hWd] at hHeld ⊢
            clear hWd
            refine take_at (i := 0) (d := some 52) (v := ?_) rfl rfl (by kernel_rfl) (by kernel_rfl) (by kernel_rfl) (fun _ _ _ h => h) (Or.inl ⟨by rfl, ?_⟩) hHeld ?_
            rotate_left
            · intro w hSw
              try dsimp only at hSw
              go_simp
              try (with_reducible rfl)
            try simp only [Act.put, List.setIfInBounds_toArray, List.set_cons_zero, List.set_cons_succ]
            refine take_at (i := 1) (d := some 53) (v := ?_) rfl rfl (by kernel_rfl) (by kernel_rfl) (by kernel_rfl) (fun _ _ _ h => h) (Or.inl ⟨by rfl, ?_⟩) hHeld ?_
            rotate_left
            · intro w hSw
              try dsimp only at hSw
              go_simp
              try (with_reducible rfl)
            try simp only [Act.put, List.setIfInBounds_toArray, List.set_cons_zero, List.set_cons_succ]
            refine take_at (i := 2) (d := some 54) (v := ?_) rfl rfl (by kernel_rfl) (by kernel_rfl) (by kernel_rfl) (fun _ _ _ h => h) (Or.inl ⟨by rfl, ?_⟩) hHeld ?_
            rotate_left
            · intro w hSw
              try dsimp only at hSw
              go_simp
              try (with_reducible rfl)
            try simp only [Act.put, List.setIfInBounds_toArray, List.set_cons_zero, List.set_cons_succ]
            refine take_at (i := 3) (d := some 55) (v := ?_) rfl rfl (by kernel_rfl) (by kernel_rfl) (by kernel_rfl) (fun _ _ _ h => h) (Or.inl ⟨by rfl, ?_⟩) hHeld ?_
            rotate_left
            · intro w hSw
              try dsimp only at hSw
              go_simp
              try (with_reducible rfl)
            try simp only [Act.put, List.setIfInBounds_toArray, List.set_cons_zero, List.set_cons_succ]
            refine take_at (i := 4) (d := some 56) (v := ?_) rfl rfl (by kernel_rfl) (by kernel_rfl) (by kernel_rfl) (fun _ _ _ h => h) (Or.inl ⟨by rfl, ?_⟩) hHeld ?_
            rotate_left
            · intro w hSw
              try dsimp only at hSw
              go_simp
              try (with_reducible rfl)
            try simp only [Act.put, List.setIfInBounds_toArray, List.set_cons_zero, List.set_cons_succ]
            refine take_at (i := 5) (d := some 57) (v := ?_) rfl rfl (by kernel_rfl) (by kernel_rfl) (by kernel_rfl) (fun _ _ _ h => h) (Or.inl ⟨by rfl, ?_⟩) hHeld ?_
            rotate_left
            · intro w hSw
              try dsimp only at hSw
              go_simp
              try (with_reducible rfl)
            try simp only [Act.put, List.setIfInBounds_toArray, List.set_cons_zero, List.set_cons_succ]
            refine take_at (i := 6) (d := some 58) (v := ?_) rfl rfl (by kernel_rfl) (by kernel_rfl) (by kernel_rfl) (fun _ _ _ h => h) (Or.inl ⟨by rfl, ?_⟩) hHeld ?_
            rotate_left
            · intro w hSw
              try dsimp only at hSw
              go_simp
              try (with_reducible rfl)
            try simp only [Act.put, List.setIfInBounds_toArray, List.set_cons_zero, List.set_cons_succ]
            refine take_at (i := 7) (d := some 59) (v := ?_) rfl rfl (by kernel_rfl) (by kernel_rfl) (by kernel_rfl) (fun _ _ _ h => h) (Or.inl ⟨by rfl, ?_⟩) hHeld ?_
            rotate_left
            · intro w hSw
              try dsimp only at hSw
              go_simp
              try (with_reducible rfl)
            try simp only [Act.put, List.setIfInBounds_toArray, List.set_cons_zero, List.set_cons_succ]
            refine take_at (i := 8) (d := some 60) (v := ?_) rfl rfl (by kernel_rfl) (by kernel_rfl) (by kernel_rfl) (fun _ _ _ h => h) (Or.inl ⟨by rfl, ?_⟩) hHeld ?_
            rotate_left
            · intro w hSw
              try dsimp only at hSw
              go_simp
              try (with_reducible rfl)
            try simp only [Act.put, List.setIfInBounds_toArray, List.set_cons_zero, List.set_cons_succ]
            refine take_at (i := 9) (d := some 61) (v := ?_) rfl rfl (by kernel_rfl) (by kernel_rfl) (by kernel_rfl) (fun _ _ _ h => h) (Or.inl ⟨by rfl, ?_⟩) hHeld ?_
            rotate_left
            · intro w hSw
              try dsimp only at hSw
              go_simp
              try (with_reducible rfl)
            try simp only [Act.put, List.setIfInBounds_toArray, List.set_cons_zero, List.set_cons_succ]
            refine take_at (i := 10) (d := some 62) (v := ?_) rfl rfl (by kernel_rfl) (by kernel_rfl) (by kernel_rfl) (fun _ _ _ h => h) (Or.inl ⟨by rfl, ?_⟩) hHeld ?_
            rotate_left
            · intro w hSw
              try dsimp only at hSw
              go_simp
              try (with_reducible rfl)
            try simp only [Act.put, List.setIfInBounds_toArray, List.set_cons_zero, List.set_cons_succ]
            refine take_at (i := 11) (d := some 63) (v := ?_) rfl rfl (by kernel_rfl) (by kernel_rfl) (by kernel_rfl) (fun _ _ _ h => h) (Or.inl ⟨by rfl, ?_⟩) hHeld ?_
            rotate_left
            · intro w hSw
              try dsimp only at hSw
              go_simp
              try (with_reducible rfl)
            try simp only [Act.put, List.setIfInBounds_toArray, List.set_cons_zero, List.set_cons_succ]
            refine wpAnyH_ready (rs := [12]) (by kernel_rfl) (by simp) ?_
            refine AllReadyH.cons rfl (fun K hK => ?_) AllReadyH.nil
            rw [if_pos (by rfl)]
            go_simp
            obtain ⟨W7, hW7⟩ : ∃ W7, W7 = Wd.alloc (.cells #[.int .i64 x.own, .int .i64 y.own] 90) := ⟨_, rfl⟩
            rw [← hW7]
            have k7 : Kept Wd W7 := by rw [hW7]; exact (Kept.refl _).alloc _
            have RW := Lib.hid (show RowC W7 Wd.heap.size [.int .i64 x.own, .int .i64 y.own] by rw [hW7]; exact RowC.new Wd [.int .i64 x.own, .int .i64 y.own] 90)
            have HK7 := Lib.hid (HKD.out.trans k7)
            have HKB := Lib.hid (HKP.out.trans HK7.out)
            have HO7 := Lib.hid (own_kept HO3.out HK7.out)
            refine hK.out _ _ (SD.out _ HK7.out) (fun hHeld => ?_)
            clear hK K hW7 k7
            try simp only [Act.put, List.setIfInBounds_toArray, List.set_cons_zero, List.set_cons_succ]
            refine wpAnyH_ready (rs := [13]) (by kernel_rfl) (by simp) ?_
            refine AllReadyH.cons rfl (fun K hK => ?_) AllReadyH.nil
            refine step_append_lies _ rfl (.tmp 52) (.tmp 64) 52 rfl w2.heap.size 90 i9 _ 2 16 Tryz.underlying52 hi9 hz9a hz9b hz9c rfl (by decide) _ L.length (L.flatMap prC) rfl HO7.out ⟨Wd.heap.size, 0, none⟩ 1 1 [.int .i64 x.own, .int .i64 y.own] rfl rfl (fun t u hu => by rw [addr_add, Nat.zero_add]; exact (RW.out t u hu).1) (fun z hz => by simp at hz; rcases hz with h | h <;> subst h <;> rfl) (by decide) (by have := HLL.out; unfold maxLen; omega) (by have := HLL.out; omega) HKB.out.size _ rfl ?_
            intro g9 c9 w9 hown9 hgrow9 hat9 hlt9
            have HO9 := Lib.hid hown9
            have HK9 := Lib.hid (HKB.out.grown hgrow9 (fun r hr => (HO7.out.lt r hr).1))
            have hsd : w9.cell? ⟨b, off + i * 9, none⟩ = some (.int .i64 x.own) ∧ w9.cell? ⟨b, off + (i + 1 + j) * 9, none⟩ = some (.int .i64 y.own) := by
              have x0 := TX.out 0 _ rfl
              have y0 := TY.out 0 _ rfl
              rw [Nat.add_zero] at x0 y0
              exact ⟨(HK9.out.cells _ _ (cell_lt x0)).trans x0, (HK9.out.cells _ _ (cell_lt y0)).trans y0⟩
            refine hK.out _ _ hsd (fun hHeld => ?_)
            clear hK K hown9 hgrow9 hat9 hlt9
            try simp only [Act.put, List.setIfInBounds_toArray, List.set_cons_zero, List.set_cons_succ]
            refine take_at (i := 14) (d := some 8) (v := ?_) rfl rfl (by kernel_rfl) (by kernel_rfl) (by kernel_rfl) (fun _ _ _ h => h) (Or.inl ⟨by rfl, ?_⟩) hHeld ?_
            rotate_left
            · intro w hSw
              try dsimp only at hSw
              go_simp
              try (with_reducible rfl)
            try simp only [Act.put, List.setIfInBounds_toArray, List.set_cons_zero, List.set_cons_succ]
            refine wpAnyH_done (by kernel_rfl) ?_ _
            go_wp2
            go_roundw
            case rel => exact ⟨j + 1, by omega, by first | go_num | (congr 1; push_cast; omega), by rw [HLN.out, List.length_append, List.flatMap_append]; simpa [prC] using HO9.out, HK9.out⟩
            case measure => simp [intOf]; omega
        · obtain rfl : j = n2 - (i + 1) := by omega
          have ht2 : (l.drop (i + 1)).take (n2 - (i + 1)) = l.drop (i + 1) := List.take_of_length_le (by rw [List.length_drop, HN.out]; exact Nat.le_refl _)
          have HO3 : RowKit.Hid (wr.ownsRow w2.heap.size 90 2 u8 (misK fs l (i + 1)).length ((misK fs l (i + 1)).flatMap prC)) := Lib.hid (by
            have h := HO2.out
            rw [ht2, ← misK_succ HX.out] at h
            exact h)
          have hex : ¬ ((i : Int) + 1 + ((n2 - (i + 1) : Nat) : Int) < (n2 : Int)) := by omega
          clear ht2
          go_wp2_with fail
          go_roundw
          case rel => exact ⟨i + 1, by omega, by go_num, HO3.out, HKQ.out⟩
          case measure => simp [intOf]; omega
    · obtain rfl : i = n2 := by omega
      have HO3 : RowKit.Hid (Wo.ownsRow w2.heap.size 90 2 u8 (misL fs l).length ((misL fs l).flatMap prC)) := Lib.hid (by
        have h := HO.out
        unfold misL
        rw [HN.out]
        exact h)
      go_wp2_with fail
      go_ret2
      refine ⟨.inr ⟨H0.out, _, rfl, ?_⟩, K0.out.trans (K2.out.trans HKR.out)⟩
      rw [HL.out]
      exact own_le HO3.out (Nat.le_trans K0.out.size K2.out.size)
end Go.Proofs.YtologmoanaccpaaGreatDoor
