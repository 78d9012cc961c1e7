/-
  the reference's Apart 40
  TrailingZeros8 162 for signs
  alike of the code 99
-/
import Derived.Test.YtologmoanaccpaaGreatDoorVF
import Derived.Test.YtologmoanaccpaaGreatDoorZA
namespace Go.Proofs.YtologmoanaccpaaGreatDoor
set_option linter.all false
open Go.RowKit Go.Shelf

def fvB (fs : List Fd) (a c : Sg) (p q : Nat) : Bool := (List.range q).any (bmB fs a c p)
theorem fvB_succ (fs : List Fd) (a c : Sg) (p q : Nat) : fvB fs a c p (q + 1) = (fvB fs a c p q || bmB fs a c p q) := by
  unfold fvB
  rw [List.range_succ, List.any_append]
  simp
theorem fvB_5 (fs : List Fd) (a c : Sg) (p : Nat) : fvB fs a c p 5 = (cmP fs a c p).isSome := by
  unfold fvB cmP
  rw [Bool.eq_iff_iff, List.find?_isSome, List.any_eq_true]
def anK (fs : List Fd) (a c : Sg) (k : Nat) : Nat := ((List.range k).filter fun p => !(cmP fs a c p).isSome).length
theorem anK_succ (fs : List Fd) (a c : Sg) (k : Nat) : anK fs a c (k + 1) = if (cmP fs a c k).isSome = true then anK fs a c k else anK fs a c k + 1 := by
  unfold anK
  rw [List.range_succ, List.filter_append, List.length_append]
  simp only [List.filter_cons, List.filter_nil]
  cases h : (cmP fs a c k).isSome
  · rfl
  · rfl
theorem anK_le (fs : List Fd) (a c : Sg) (k : Nat) : anK fs a c k ≤ k := by unfold anK; exact Nat.le_trans (List.length_filter_le _ _) (by simp)
theorem anK_ap {fs : List Fd} (hfo : ∀ f ∈ fs, f.ok) (hf : ∀ f ∈ fs, f.seen ≤ 4) {a c : Sg} (ha : a.ok) (hc : c.ok) (hac : clearB a = true) (hcc : clearB c = true) : anK fs a c 6 = apK fs a c 6 := by
  unfold anK apK
  congr 1
  apply List.filter_congr
  intro p hp
  rw [cm_ap1 hfo hf ha hc hac hcc (List.mem_range.1 hp)]
  simp
set_option maxRecDepth 100000 in
set_option maxHeartbeats 12800000 in
theorem rapart_any (A B : Option Addr) (n p m d : Nat) (ms : List Mk) (fs : List Fd) (a c : Sg) (w : World) (hs : SmA w A n p ms B m d fs) (ha : a.ok) (hc : c.ok) :
    Calls Tryz.prog 40 #[.agg #[.slice A n p, .slice B m d], .agg #[.int .u8 a.s0, .int .u8 a.s1, .int .u8 a.s2, .int .u8 a.s3, .int .u8 a.s4, .int .u8 a.s5], .agg #[.int .u8 c.s0, .int .u8 c.s1, .int .u8 c.s2, .int .u8 c.s3, .int .u8 c.s4, .int .u8 c.s5]] w fun e w' => e = .returned (.tuple #[.int .i64 (apO ms fs a c), .int .i64 (apE ms fs a c)]) ∧ Kept w w' := by
  obtain ⟨Wa, hWa⟩ : ∃ Wa, Wa = w.alloc (.cells #[.slice A n p, .slice B m d] 25) := ⟨_, rfl⟩
  obtain ⟨Wb, hWb⟩ : ∃ Wb, Wb = Wa.alloc (.cells #[.int .u8 a.s0, .int .u8 a.s1, .int .u8 a.s2, .int .u8 a.s3, .int .u8 a.s4, .int .u8 a.s5] 39) := ⟨_, rfl⟩
  obtain ⟨W0, hW0⟩ : ∃ W0, W0 = Wb.alloc (.cells #[.int .u8 c.s0, .int .u8 c.s1, .int .u8 c.s2, .int .u8 c.s3, .int .u8 c.s4, .int .u8 c.s5] 39) := ⟨_, rfl⟩
  have ka : Kept w Wa := by rw [hWa]; exact (Kept.refl _).alloc _
  have kb : Kept Wa Wb := by rw [hWb]; exact (Kept.refl _).alloc _
  have kc : Kept Wb W0 := by rw [hW0]; exact (Kept.refl _).alloc _
  have K0 : RowKit.Hid (Kept w W0) := Lib.hid ((ka.trans kb).trans kc)
  have za : Wa.heap.size = w.heap.size + 1 := by rw [hWa]; simp
  have zb : Wb.heap.size = w.heap.size + 1 + 1 := by rw [hWb]; simp [za]
  have RA : RowKit.Hid (RowC W0 w.heap.size [.slice A n p, .slice B m d]) := Lib.hid (RowC.kept (by rw [hWa]; exact RowC.new w [.slice A n p, .slice B m d] 25) (kb.trans kc))
  have RB : RowKit.Hid (RowC W0 (w.heap.size + 1) (sgV a)) := Lib.hid (by rw [← za]; exact RowC.kept (by rw [hWb]; exact RowC.new Wa (sgV a) 39) kc)
  have RC : RowKit.Hid (RowC W0 (w.heap.size + 1 + 1) (sgV c)) := Lib.hid (by rw [← zb, hW0]; exact RowC.new Wb (sgV c) 39)
  have HW := Lib.hid hW0
  have HWB := Lib.hid hWb
  have HWA := Lib.hid hWa
  have HS := Lib.hid (hs.kept K0.out)
  obtain ⟨E1, hE1⟩ : ∃ E, smE ms fs = E := ⟨_, rfl⟩
  obtain ⟨b2, hb2⟩ : ∃ b, clearB a = b := ⟨_, rfl⟩
  obtain ⟨b3, hb3⟩ : ∃ b, clearB c = b := ⟨_, rfl⟩
  have HE : RowKit.Hid (apE ms fs a c = fstE [E1, errB b2, errB b3]) := Lib.hid (by unfold apE; rw [hE1, hb2, hb3])
  have HO : RowKit.Hid (E1 = 0 → b2 = true → b3 = true → apO ms fs a c = ((anK fs a c 6 : Nat) : Int)) := Lib.hid (fun e1 e2 e3 => by
    obtain ⟨_, _, _, hfv, _, _⟩ := sm_ok (hE1.trans e1)
    unfold apO apE
    rw [hE1, hb2, hb3, e1, e2, e3, if_neg (fun h => h (show fstE [0, errB true, errB true] = 0 from rfl)), anK_ap hs.2.2.2.2.1 (fade4 hfv) ha hc (hb2.trans e2) (hb3.trans e3)])
  have HN : RowKit.Hid (apE ms fs a c ≠ 0 → apO ms fs a c = 0) := Lib.hid (fun h => by unfold apO; rw [if_pos h])
  have H26 : RowKit.Hid (∀ W, Kept W0 W → Calls Tryz.prog 26 #[.agg #[.slice A n p, .slice B m d]] W fun e w' => e = .returned (.int .i64 E1) ∧ Kept W w') := Lib.hid (fun W hW => by rw [← hE1]; exact rcheckSmits_any A B n p m d ms fs W (HS.out.kept hW))
  have HCa : RowKit.Hid (∀ W, Calls Tryz.prog 104 #[.agg #[.int .u8 a.s0, .int .u8 a.s1, .int .u8 a.s2, .int .u8 a.s3, .int .u8 a.s4, .int .u8 a.s5]] W fun e w' => e = .returned (.bool b2) ∧ Kept W w') := Lib.hid (fun W => by rw [← hb2]; exact rsigns_any a ha W)
  have HCc : RowKit.Hid (∀ W, Calls Tryz.prog 104 #[.agg #[.int .u8 c.s0, .int .u8 c.s1, .int .u8 c.s2, .int .u8 c.s3, .int .u8 c.s4, .int .u8 c.s5]] W fun e w' => e = .returned (.bool b3) ∧ Kept W w') := Lib.hid (fun W => by rw [← hb3]; exact rsigns_any c hc W)
  have HMY : RowKit.Hid (∀ (p' : Nat) (a v : Int) W, Kept W0 W → Calls Tryz.prog 105 #[.agg #[.slice A n p, .slice B m d], .int .i64 (p' : Int), .int .u8 a, .int .u8 v] W fun e w' => e = .returned (.bool (mayB fs p' a v)) ∧ Kept W w') := Lib.hid (fun p' a v W hW => rmay_any A B n p m d ms fs p' a v W (HS.out.kept hW))
  clear hWa hWb hW0 ka kb kc za zb hs ha hc hE1 hb2 hb3
  have a0 := (RA.out 0 _ rfl).1
  have a1 := (RA.out 1 _ rfl).1
  have la := cell_lt a0
  go_enter Tryz.func40, Tryz.ntmps40
  go_upto_region 1 with (fail)
  rw [← HWA.out, ← HWB.out, ← HW.out]
  go_wp2_with fail
  refine (H26.out _ (Kept.refl _)).mono ?_
  rintro e w1 ⟨rfl, hk1⟩
  have K1 := Lib.hid hk1
  clear hk1 a0 a1 la
  by_cases hz : E1 = 0
  rotate_left
  · have h1 : (E1 != 0) = true := by simpa using hz
    have HEE : RowKit.Hid (apE ms fs a c = E1) := Lib.hid (by rw [HE.out]; unfold fstE; rw [if_neg hz])
    have HNN : RowKit.Hid (apO ms fs a c = 0) := Lib.hid (HN.out (by rw [HEE.out]; exact hz))
    go_wp2_with fail
    go_ret2
    rw [HEE.out, HNN.out]
    exact ⟨rfl, K0.out.trans K1.out⟩
  subst hz
  have sa0 := RB.out.kept K1.out
  have s0 := (show w1.cell? ⟨w.heap.size + 1, 0, none⟩ = some (.int .u8 a.s0) from (sa0 0 _ rfl).1)
  have s1 := (show w1.cell? ⟨w.heap.size + 1, 1, none⟩ = some (.int .u8 a.s1) from (sa0 1 _ rfl).1)
  have s2 := (show w1.cell? ⟨w.heap.size + 1, 2, none⟩ = some (.int .u8 a.s2) from (sa0 2 _ rfl).1)
  have s3 := (show w1.cell? ⟨w.heap.size + 1, 3, none⟩ = some (.int .u8 a.s3) from (sa0 3 _ rfl).1)
  have s4 := (show w1.cell? ⟨w.heap.size + 1, 4, none⟩ = some (.int .u8 a.s4) from (sa0 4 _ rfl).1)
  have s5 := (show w1.cell? ⟨w.heap.size + 1, 5, none⟩ = some (.int .u8 a.s5) from (sa0 5 _ rfl).1)
  have la := cell_lt s0
  clear sa0
  go_wp2_with fail
  refine (HCa.out _).mono ?_
  rintro e w2 ⟨rfl, hk2⟩
  have K2 := Lib.hid (K1.out.trans hk2)
  clear hk2 la s0 s1 s2 s3 s4 s5
  cases b2 with
  | false =>
    have HEE : RowKit.Hid (apE ms fs a c = 1) := Lib.hid (by rw [HE.out]; rfl)
    have HNN : RowKit.Hid (apO ms fs a c = 0) := Lib.hid (HN.out (by rw [HEE.out]; omega))
    go_wp2_with fail
    go_ret2
    rw [HEE.out, HNN.out]
    exact ⟨rfl, K0.out.trans K2.out⟩
  | true =>
    have sc0 := RC.out.kept K2.out
    have s0 := (show w2.cell? ⟨w.heap.size + 1 + 1, 0, none⟩ = some (.int .u8 c.s0) from (sc0 0 _ rfl).1)
    have s1 := (show w2.cell? ⟨w.heap.size + 1 + 1, 1, none⟩ = some (.int .u8 c.s1) from (sc0 1 _ rfl).1)
    have s2 := (show w2.cell? ⟨w.heap.size + 1 + 1, 2, none⟩ = some (.int .u8 c.s2) from (sc0 2 _ rfl).1)
    have s3 := (show w2.cell? ⟨w.heap.size + 1 + 1, 3, none⟩ = some (.int .u8 c.s3) from (sc0 3 _ rfl).1)
    have s4 := (show w2.cell? ⟨w.heap.size + 1 + 1, 4, none⟩ = some (.int .u8 c.s4) from (sc0 4 _ rfl).1)
    have s5 := (show w2.cell? ⟨w.heap.size + 1 + 1, 5, none⟩ = some (.int .u8 c.s5) from (sc0 5 _ rfl).1)
    have la := cell_lt s0
    clear sc0
    go_wp2_with fail
    refine (HCc.out _).mono ?_
    rintro e w3 ⟨rfl, hk3⟩
    have K3 := Lib.hid (K2.out.trans hk3)
    clear hk3 la s0 s1 s2 s3 s4 s5
    cases b3 with
    | false =>
      have HEE : RowKit.Hid (apE ms fs a c = 1) := Lib.hid (by rw [HE.out]; rfl)
      have HNN : RowKit.Hid (apO ms fs a c = 0) := Lib.hid (HN.out (by rw [HEE.out]; omega))
      go_wp2_with fail
      go_ret2
      rw [HEE.out, HNN.out]
      exact ⟨rfl, K0.out.trans K3.out⟩
    | true =>
      have HEE : RowKit.Hid (apE ms fs a c = 0) := Lib.hid (by rw [HE.out]; rfl)
      have HOO := Lib.hid (HO.out (by first | trivial | rfl) (by first | trivial | rfl) (by first | trivial | rfl))
      go_wp2_with fail
      go_loopw [9, 10, 11, 12] (fun s i _ _ wr => ∃ k : Nat, k ≤ 6 ∧ i = .int .i64 k ∧ s = .int .i64 ((anK fs a c k : Nat) : Int) ∧ Kept W0 wr) (fun _ i _ _ _ => 6 - (intOf i).toNat)
      case atStart => exact ⟨0, by omega, by first | rfl | go_num, rfl, K3.out⟩
      case round =>
        obtain ⟨k, hk, rfl, rfl, hkr⟩ := hrel
        have HKR := Lib.hid hkr
        clear hkr
        have hle := anK_le fs a c k
        have HSU := Lib.hid (anK_succ fs a c k)
        obtain ⟨N, hN⟩ : ∃ N, anK fs a c k = N := ⟨_, rfl⟩
        rw [hN] at hle HSU ⊢
        have HNK := Lib.hid hN
        clear hN
        by_cases hlt : k < 6
        · have hi0 : (0 : Int) ≤ (k : Int) := by omega
          have hi1 : (k : Int) < 6 := by omega
          obtain ⟨x, hx⟩ := sg_six a hlt
          obtain ⟨y, hy⟩ := sg_six c hlt
          have HGX : RowKit.Hid (a.l.getD k 0 = x) := Lib.hid (by rw [List.getD_eq_getElem?_getD, hx]; rfl)
          have HGY : RowKit.Hid (c.l.getD k 0 = y) := Lib.hid (by rw [List.getD_eq_getElem?_getD, hy]; rfl)
          have CX : RowKit.Hid (∀ W, Kept W0 W → W.cell? ⟨w.heap.size + 1, k, none⟩ = some (.int .u8 x)) := Lib.hid (fun W hW => (RB.out.kept hW k _ (sgV_at hx)).1)
          have CY : RowKit.Hid (∀ W, Kept W0 W → W.cell? ⟨w.heap.size + 1 + 1, k, none⟩ = some (.int .u8 y)) := Lib.hid (fun W hW => (RC.out.kept hW k _ (sgV_at hy)).1)
          clear hx hy
          obtain ⟨Wk, hWk⟩ : ∃ Wk, Wk = wr := ⟨_, rfl⟩
          rw [← hWk] at HKR ⊢
          clear hWk
          go_wp2_with fail
          go_loopw [11, 12] (fun f v wr => ∃ (q : Nat) (fb : Bool), q ≤ 5 ∧ v = .int .u8 (q : Int) ∧ f = .bool fb ∧ fb = fvB fs a c k q ∧ Kept W0 wr) (fun _ v _ => 5 - (intOf v).toNat)
          case atStart => exact ⟨0, false, by omega, by first | rfl | go_num, rfl, rfl, HKR.out⟩
          case round =>
            obtain ⟨q, fb, hq, rfl, rfl, hfb, hkq⟩ := hrel
            have HFB := Lib.hid hfb
            have HKQ := Lib.hid hkq
            clear hfb hkq
            by_cases h5 : q < 5
            · have hq4 : (q : Int) ≤ 4 := by omega
              have hq0 : (0 : Int) ≤ (q : Int) := by omega
              obtain ⟨m1, hm1⟩ : ∃ b, mayB fs k x (q : Int) = b := ⟨_, rfl⟩
              obtain ⟨m2, hm2⟩ : ∃ b, mayB fs k y (q : Int) = b := ⟨_, rfl⟩
              have HBM : RowKit.Hid (fvB fs a c k (q + 1) = (fb || (m1 && m2))) := Lib.hid (by rw [fvB_succ, ← HFB.out]; unfold bmB; rw [HGX.out, HGY.out, hm1, hm2])
              have N1 : RowKit.Hid (∀ W, Kept wr W → Calls Tryz.prog 105 #[.agg #[.slice A n p, .slice B m d], .int .i64 (k : Int), .int .u8 x, .int .u8 (q : Int)] W fun e w' => e = .returned (.bool m1) ∧ Kept W w') := Lib.hid (fun W hW => by rw [← hm1]; exact HMY.out k x q W (HKQ.out.trans hW))
              have N2 : RowKit.Hid (∀ W, Kept wr W → Calls Tryz.prog 105 #[.agg #[.slice A n p, .slice B m d], .int .i64 (k : Int), .int .u8 y, .int .u8 (q : Int)] W fun e w' => e = .returned (.bool m2) ∧ Kept W w') := Lib.hid (fun W hW => by rw [← hm2]; exact HMY.out k y q W (HKQ.out.trans hW))
              clear hm1 hm2
              go_upto_region 14 with (fail)
              have SC : RowKit.Hid (∀ W, Kept wr W → W.cell? ⟨w.heap.size, 0, none⟩ = some (.slice A n p) ∧ W.cell? ⟨w.heap.size, 1, none⟩ = some (.slice B m d) ∧ W.cell? ⟨w.heap.size + 1, k, none⟩ = some (.int .u8 x) ∧ W.cell? ⟨w.heap.size + 1 + 1, k, none⟩ = some (.int .u8 y) ∧ Kept wr W) := Lib.hid (fun W hW => by
                have h3 := HKQ.out.trans hW
                exact ⟨(RA.out.kept h3 0 _ rfl).1, (RA.out.kept h3 1 _ rfl).1, CX.out _ h3, CY.out _ h3, hW⟩)
              have q0 := (SC.out _ (Kept.refl _)).1
              have lq := cell_lt q0
              have q1 := (SC.out _ (Kept.refl _)).2.2.1
              have lq1 := cell_lt q1
              have q2 := (SC.out _ (Kept.refl _)).2.2.2.1
              have lq2 := cell_lt q2
              have kd := (Kept.refl wr).drew
              clear q0 q1 q2
              cases fb with
              | true =>
                refine wp_region_held_drew (S := fun W => W.cell? ⟨w.heap.size, 0, none⟩ = some (.slice A n p) ∧ W.cell? ⟨w.heap.size, 1, none⟩ = some (.slice B m d) ∧ W.cell? ⟨w.heap.size + 1, k, none⟩ = some (.int .u8 x) ∧ W.cell? ⟨w.heap.size + 1 + 1, k, none⟩ = some (.int .u8 y) ∧ Kept wr W) (by kernel_rfl) (SC.out _ kd) (fun hHeld => ?_)
                refine take_at (i := 0) (d := some 36) (v := ?_) rfl rfl (by kernel_rfl) (by kernel_rfl) (by kernel_rfl) (fun _ _ _ h => h) (Or.inl ⟨by rfl, ?_⟩) hHeld ?_
                rotate_left
                · intro w hSw
                  try dsimp only at hSw
                  go_simp
                  try (with_reducible rfl)
                try simp only [Act.put, List.setIfInBounds_toArray, List.set_cons_zero, List.set_cons_succ]
                refine take_at (i := 1) (d := some 37) (v := ?_) rfl rfl (by kernel_rfl) (by kernel_rfl) (by kernel_rfl) (fun _ _ _ h => h) (Or.inl ⟨by rfl, ?_⟩) hHeld ?_
                rotate_left
                · intro w hSw
                  try dsimp only at hSw
                  go_simp
                  try (with_reducible rfl)
                try simp only [Act.put, List.setIfInBounds_toArray, List.set_cons_zero, List.set_cons_succ]
                refine take_at (i := 2) (d := some 38) (v := undef) rfl rfl (by kernel_rfl) (by kernel_rfl) (by kernel_rfl) (fun _ _ _ h => h) (Or.inr ⟨by rfl, rfl⟩) hHeld ?_
                try simp only [Act.put, List.setIfInBounds_toArray, List.set_cons_zero, List.set_cons_succ]
                refine take_at (i := 3) (d := some 39) (v := undef) rfl rfl (by kernel_rfl) (by kernel_rfl) (by kernel_rfl) (fun _ _ _ h => h) (Or.inr ⟨by rfl, rfl⟩) hHeld ?_
                try simp only [Act.put, List.setIfInBounds_toArray, List.set_cons_zero, List.set_cons_succ]
                refine take_at (i := 4) (d := some 40) (v := undef) rfl rfl (by kernel_rfl) (by kernel_rfl) (by kernel_rfl) (fun _ _ _ h => h) (Or.inr ⟨by rfl, rfl⟩) hHeld ?_
                try simp only [Act.put, List.setIfInBounds_toArray, List.set_cons_zero, List.set_cons_succ]
                refine take_at (i := 5) (d := some 41) (v := undef) rfl rfl (by kernel_rfl) (by kernel_rfl) (by kernel_rfl) (fun _ _ _ h => h) (Or.inr ⟨by rfl, rfl⟩) hHeld ?_
                try simp only [Act.put, List.setIfInBounds_toArray, List.set_cons_zero, List.set_cons_succ]
                refine take_at (i := 6) (d := some 42) (v := undef) rfl rfl (by kernel_rfl) (by kernel_rfl) (by kernel_rfl) (fun _ _ _ h => h) (Or.inr ⟨by rfl, rfl⟩) hHeld ?_
                try simp only [Act.put, List.setIfInBounds_toArray, List.set_cons_zero, List.set_cons_succ]
                refine take_at (i := 7) (d := some 43) (v := undef) rfl rfl (by kernel_rfl) (by kernel_rfl) (by kernel_rfl) (fun _ _ _ h => h) (Or.inr ⟨by rfl, rfl⟩) hHeld ?_
                try simp only [Act.put, List.setIfInBounds_toArray, List.set_cons_zero, List.set_cons_succ]
                refine take_at (i := 8) (d := some 44) (v := undef) rfl rfl (by kernel_rfl) (by kernel_rfl) (by kernel_rfl) (fun _ _ _ h => h) (Or.inr ⟨by rfl, rfl⟩) hHeld ?_
                try simp only [Act.put, List.setIfInBounds_toArray, List.set_cons_zero, List.set_cons_succ]
                refine take_at (i := 9) (d := some 45) (v := undef) rfl rfl (by kernel_rfl) (by kernel_rfl) (by kernel_rfl) (fun _ _ _ h => h) (Or.inr ⟨by rfl, rfl⟩) hHeld ?_
                try simp only [Act.put, List.setIfInBounds_toArray, List.set_cons_zero, List.set_cons_succ]
                refine take_at (i := 10) (d := some 46) (v := undef) rfl rfl (by kernel_rfl) (by kernel_rfl) (by kernel_rfl) (fun _ _ _ h => h) (Or.inr ⟨by rfl, rfl⟩) hHeld ?_
                try simp only [Act.put, List.setIfInBounds_toArray, List.set_cons_zero, List.set_cons_succ]
                refine take_at (i := 11) (d := some 47) (v := undef) rfl rfl (by kernel_rfl) (by kernel_rfl) (by kernel_rfl) (fun _ _ _ h => h) (Or.inr ⟨by rfl, rfl⟩) hHeld ?_
                try simp only [Act.put, List.setIfInBounds_toArray, List.set_cons_zero, List.set_cons_succ]
                refine take_at (i := 12) (d := some 48) (v := undef) rfl rfl (by kernel_rfl) (by kernel_rfl) (by kernel_rfl) (fun _ _ _ h => h) (Or.inr ⟨by rfl, rfl⟩) hHeld ?_
                try simp only [Act.put, List.setIfInBounds_toArray, List.set_cons_zero, List.set_cons_succ]
                refine take_at (i := 13) (d := some 49) (v := undef) rfl rfl (by kernel_rfl) (by kernel_rfl) (by kernel_rfl) (fun _ _ _ h => h) (Or.inr ⟨by rfl, rfl⟩) hHeld ?_
                try simp only [Act.put, List.setIfInBounds_toArray, List.set_cons_zero, List.set_cons_succ]
                refine take_at (i := 14) (d := some 50) (v := undef) rfl rfl (by kernel_rfl) (by kernel_rfl) (by kernel_rfl) (fun _ _ _ h => h) (Or.inr ⟨by rfl, rfl⟩) hHeld ?_
                try simp only [Act.put, List.setIfInBounds_toArray, List.set_cons_zero, List.set_cons_succ]
                refine take_at (i := 15) (d := some 51) (v := undef) rfl rfl (by kernel_rfl) (by kernel_rfl) (by kernel_rfl) (fun _ _ _ h => h) (Or.inr ⟨by rfl, rfl⟩) hHeld ?_
                try simp only [Act.put, List.setIfInBounds_toArray, List.set_cons_zero, List.set_cons_succ]
                refine take_at (i := 16) (d := some 52) (v := undef) rfl rfl (by kernel_rfl) (by kernel_rfl) (by kernel_rfl) (fun _ _ _ h => h) (Or.inr ⟨by rfl, rfl⟩) hHeld ?_
                try simp only [Act.put, List.setIfInBounds_toArray, List.set_cons_zero, List.set_cons_succ]
                refine take_at (i := 17) (d := some 53) (v := undef) rfl rfl (by kernel_rfl) (by kernel_rfl) (by kernel_rfl) (fun _ _ _ h => h) (Or.inr ⟨by rfl, rfl⟩) hHeld ?_
                try simp only [Act.put, List.setIfInBounds_toArray, List.set_cons_zero, List.set_cons_succ]
                refine take_at (i := 18) (d := some 54) (v := undef) rfl rfl (by kernel_rfl) (by kernel_rfl) (by kernel_rfl) (fun _ _ _ h => h) (Or.inr ⟨by rfl, rfl⟩) hHeld ?_
                try simp only [Act.put, List.setIfInBounds_toArray, List.set_cons_zero, List.set_cons_succ]
                refine take_at (i := 19) (d := some 55) (v := undef) rfl rfl (by kernel_rfl) (by kernel_rfl) (by kernel_rfl) (fun _ _ _ h => h) (Or.inr ⟨by rfl, rfl⟩) hHeld ?_
                try simp only [Act.put, List.setIfInBounds_toArray, List.set_cons_zero, List.set_cons_succ]
                refine take_at (i := 20) (d := some 56) (v := ?_) rfl rfl (by kernel_rfl) (by kernel_rfl) (by kernel_rfl) (fun _ _ _ h => h) (Or.inl ⟨by rfl, ?_⟩) hHeld ?_
                rotate_left
                · intro w hSw
                  try dsimp only at hSw
                  go_simp
                  try (with_reducible rfl)
                try simp only [Act.put, List.setIfInBounds_toArray, List.set_cons_zero, List.set_cons_succ]
                refine take_at (i := 21) (d := some 11) (v := ?_) rfl rfl (by kernel_rfl) (by kernel_rfl) (by kernel_rfl) (fun _ _ _ h => h) (Or.inl ⟨by rfl, ?_⟩) hHeld ?_
                rotate_left
                · intro w hSw
                  try dsimp only at hSw
                  go_simp
                  try (with_reducible rfl)
                try simp only [Act.put, List.setIfInBounds_toArray, List.set_cons_zero, List.set_cons_succ]
                refine wpAnyH_done (by kernel_rfl) ?_ _
                go_wp2
                go_roundw
                case rel => exact ⟨q + 1, true, by omega, by go_num, rfl, by rw [HBM.out]; rfl, HKQ.out.trans kd⟩
                case measure => simp [intOf]; omega
              | false =>
                cases m1 with
                | false =>
                  refine wp_region_held_drew (S := fun W => W.cell? ⟨w.heap.size, 0, none⟩ = some (.slice A n p) ∧ W.cell? ⟨w.heap.size, 1, none⟩ = some (.slice B m d) ∧ W.cell? ⟨w.heap.size + 1, k, none⟩ = some (.int .u8 x) ∧ W.cell? ⟨w.heap.size + 1 + 1, k, none⟩ = some (.int .u8 y) ∧ Kept wr W) (by kernel_rfl) (SC.out _ kd) (fun hHeld => ?_)
                  refine take_at (i := 0) (d := some 36) (v := ?_) rfl rfl (by kernel_rfl) (by kernel_rfl) (by kernel_rfl) (fun _ _ _ h => h) (Or.inl ⟨by rfl, ?_⟩) hHeld ?_
                  rotate_left
                  · intro w hSw
                    try dsimp only at hSw
                    go_simp
                    try (with_reducible rfl)
                  try simp only [Act.put, List.setIfInBounds_toArray, List.set_cons_zero, List.set_cons_succ]
                  refine take_at (i := 1) (d := some 37) (v := ?_) rfl rfl (by kernel_rfl) (by kernel_rfl) (by kernel_rfl) (fun _ _ _ h => h) (Or.inl ⟨by rfl, ?_⟩) hHeld ?_
                  rotate_left
                  · intro w hSw
                    try dsimp only at hSw
                    go_simp
                    try (with_reducible rfl)
                  try simp only [Act.put, List.setIfInBounds_toArray, List.set_cons_zero, List.set_cons_succ]
                  refine take_at (i := 2) (d := some 38) (v := ?_) rfl rfl (by kernel_rfl) (by kernel_rfl) (by kernel_rfl) (fun _ _ _ h => h) (Or.inl ⟨by rfl, ?_⟩) hHeld ?_
                  rotate_left
                  · intro w hSw
                    try dsimp only at hSw
                    go_simp
                    try (with_reducible rfl)
                  try simp only [Act.put, List.setIfInBounds_toArray, List.set_cons_zero, List.set_cons_succ]
                  refine take_at (i := 3) (d := some 39) (v := ?_) rfl rfl (by kernel_rfl) (by kernel_rfl) (by kernel_rfl) (fun _ _ _ h => h) (Or.inl ⟨by rfl, ?_⟩) hHeld ?_
                  rotate_left
                  · intro w hSw
                    try dsimp only at hSw
                    go_simp
                    try (with_reducible rfl)
                  try simp only [Act.put, List.setIfInBounds_toArray, List.set_cons_zero, List.set_cons_succ]
                  refine take_at (i := 4) (d := some 40) (v := ?_) rfl rfl (by kernel_rfl) (by kernel_rfl) (by kernel_rfl) (fun _ _ _ h => h) (Or.inl ⟨by rfl, ?_⟩) hHeld ?_
                  rotate_left
                  · intro w hSw
                    try dsimp only at hSw
                    go_simp
                    try (with_reducible rfl)
                  try simp only [Act.put, List.setIfInBounds_toArray, List.set_cons_zero, List.set_cons_succ]
                  refine take_at (i := 5) (d := some 41) (v := ?_) rfl rfl (by kernel_rfl) (by kernel_rfl) (by kernel_rfl) (fun _ _ _ h => h) (Or.inl ⟨by rfl, ?_⟩) hHeld ?_
                  rotate_left
                  · intro w hSw
                    try dsimp only at hSw
                    go_simp
                    try (with_reducible rfl)
                  try simp only [Act.put, List.setIfInBounds_toArray, List.set_cons_zero, List.set_cons_succ]
                  refine take_at (i := 6) (d := some 42) (v := ?_) rfl rfl (by kernel_rfl) (by kernel_rfl) (by kernel_rfl) (fun _ _ _ h => h) (Or.inl ⟨by rfl, ?_⟩) hHeld ?_
                  rotate_left
                  · intro w hSw
                    try dsimp only at hSw
                    go_simp
                    try (with_reducible rfl)
                  try simp only [Act.put, List.setIfInBounds_toArray, List.set_cons_zero, List.set_cons_succ]
                  refine take_at (i := 7) (d := some 43) (v := ?_) rfl rfl (by kernel_rfl) (by kernel_rfl) (by kernel_rfl) (fun _ _ _ h => h) (Or.inl ⟨by rfl, ?_⟩) hHeld ?_
                  rotate_left
                  · intro w hSw
                    try dsimp only at hSw
                    go_simp
                    try (with_reducible rfl)
                  try simp only [Act.put, List.setIfInBounds_toArray, List.set_cons_zero, List.set_cons_succ]
                  refine take_at (i := 8) (d := some 44) (v := ?_) rfl rfl (by kernel_rfl) (by kernel_rfl) (by kernel_rfl) (fun _ _ _ h => h) (Or.inl ⟨by rfl, ?_⟩) hHeld ?_
                  rotate_left
                  · intro w hSw
                    try dsimp only at hSw
                    go_simp
                    try (with_reducible rfl)
                  try simp only [Act.put, List.setIfInBounds_toArray, List.set_cons_zero, List.set_cons_succ]
                  refine wpAnyH_ready (rs := [9]) (by kernel_rfl) (by simp) ?_
                  refine AllReadyH.cons rfl (fun K hK => ?_) AllReadyH.nil
                  rw [if_pos (by rfl)]
                  go_simp
                  refine (N1.out _ kd).mono ?_
                  rintro e w9 ⟨rfl, hkk⟩
                  go_wp2_with fail
                  refine hK.out _ _ (SC.out _ (kd.trans hkk)) (fun hHeld => ?_)
                  clear hK K
                  try simp only [Act.put, List.setIfInBounds_toArray, List.set_cons_zero, List.set_cons_succ]
                  refine take_at (i := 10) (d := some 46) (v := ?_) rfl rfl (by kernel_rfl) (by kernel_rfl) (by kernel_rfl) (fun _ _ _ h => h) (Or.inl ⟨by rfl, ?_⟩) hHeld ?_
                  rotate_left
                  · intro w hSw
                    try dsimp only at hSw
                    go_simp
                    try (with_reducible rfl)
                  try simp only [Act.put, List.setIfInBounds_toArray, List.set_cons_zero, List.set_cons_succ]
                  refine take_at (i := 11) (d := some 47) (v := undef) rfl rfl (by kernel_rfl) (by kernel_rfl) (by kernel_rfl) (fun _ _ _ h => h) (Or.inr ⟨by rfl, rfl⟩) hHeld ?_
                  try simp only [Act.put, List.setIfInBounds_toArray, List.set_cons_zero, List.set_cons_succ]
                  refine take_at (i := 12) (d := some 48) (v := undef) rfl rfl (by kernel_rfl) (by kernel_rfl) (by kernel_rfl) (fun _ _ _ h => h) (Or.inr ⟨by rfl, rfl⟩) hHeld ?_
                  try simp only [Act.put, List.setIfInBounds_toArray, List.set_cons_zero, List.set_cons_succ]
                  refine take_at (i := 13) (d := some 49) (v := undef) rfl rfl (by kernel_rfl) (by kernel_rfl) (by kernel_rfl) (fun _ _ _ h => h) (Or.inr ⟨by rfl, rfl⟩) hHeld ?_
                  try simp only [Act.put, List.setIfInBounds_toArray, List.set_cons_zero, List.set_cons_succ]
                  refine take_at (i := 14) (d := some 50) (v := undef) rfl rfl (by kernel_rfl) (by kernel_rfl) (by kernel_rfl) (fun _ _ _ h => h) (Or.inr ⟨by rfl, rfl⟩) hHeld ?_
                  try simp only [Act.put, List.setIfInBounds_toArray, List.set_cons_zero, List.set_cons_succ]
                  refine take_at (i := 15) (d := some 51) (v := undef) rfl rfl (by kernel_rfl) (by kernel_rfl) (by kernel_rfl) (fun _ _ _ h => h) (Or.inr ⟨by rfl, rfl⟩) hHeld ?_
                  try simp only [Act.put, List.setIfInBounds_toArray, List.set_cons_zero, List.set_cons_succ]
                  refine take_at (i := 16) (d := some 52) (v := undef) rfl rfl (by kernel_rfl) (by kernel_rfl) (by kernel_rfl) (fun _ _ _ h => h) (Or.inr ⟨by rfl, rfl⟩) hHeld ?_
                  try simp only [Act.put, List.setIfInBounds_toArray, List.set_cons_zero, List.set_cons_succ]
                  refine take_at (i := 17) (d := some 53) (v := undef) rfl rfl (by kernel_rfl) (by kernel_rfl) (by kernel_rfl) (fun _ _ _ h => h) (Or.inr ⟨by rfl, rfl⟩) hHeld ?_
                  try simp only [Act.put, List.setIfInBounds_toArray, List.set_cons_zero, List.set_cons_succ]
                  refine take_at (i := 18) (d := some 54) (v := undef) rfl rfl (by kernel_rfl) (by kernel_rfl) (by kernel_rfl) (fun _ _ _ h => h) (Or.inr ⟨by rfl, rfl⟩) hHeld ?_
                  try simp only [Act.put, List.setIfInBounds_toArray, List.set_cons_zero, List.set_cons_succ]
                  refine take_at (i := 19) (d := some 55) (v := ?_) rfl rfl (by kernel_rfl) (by kernel_rfl) (by kernel_rfl) (fun _ _ _ h => h) (Or.inl ⟨by rfl, ?_⟩) hHeld ?_
                  rotate_left
                  · intro w hSw
                    try dsimp only at hSw
                    go_simp
                    try (with_reducible rfl)
                  try simp only [Act.put, List.setIfInBounds_toArray, List.set_cons_zero, List.set_cons_succ]
                  refine take_at (i := 20) (d := some 56) (v := ?_) rfl rfl (by kernel_rfl) (by kernel_rfl) (by kernel_rfl) (fun _ _ _ h => h) (Or.inl ⟨by rfl, ?_⟩) hHeld ?_
                  rotate_left
                  · intro w hSw
                    try dsimp only at hSw
                    go_simp
                    try (with_reducible rfl)
                  try simp only [Act.put, List.setIfInBounds_toArray, List.set_cons_zero, List.set_cons_succ]
                  refine take_at (i := 21) (d := some 11) (v := ?_) rfl rfl (by kernel_rfl) (by kernel_rfl) (by kernel_rfl) (fun _ _ _ h => h) (Or.inl ⟨by rfl, ?_⟩) hHeld ?_
                  rotate_left
                  · intro w hSw
                    try dsimp only at hSw
                    go_simp
                    try (with_reducible rfl)
                  try simp only [Act.put, List.setIfInBounds_toArray, List.set_cons_zero, List.set_cons_succ]
                  refine wpAnyH_done (by kernel_rfl) ?_ _
                  go_wp2
                  go_roundw
                  case rel => exact ⟨q + 1, false, by omega, by go_num, rfl, by rw [HBM.out]; rfl, HKQ.out.trans (kd.trans hkk)⟩
                  case measure => simp [intOf]; omega
                | true =>
                  go_region_held3 (fun W => W.cell? ⟨w.heap.size, 0, none⟩ = some (.slice A n p) ∧ W.cell? ⟨w.heap.size, 1, none⟩ = some (.slice B m d) ∧ W.cell? ⟨w.heap.size + 1, k, none⟩ = some (.int .u8 x) ∧ W.cell? ⟨w.heap.size + 1 + 1, k, none⟩ = some (.int .u8 y) ∧ Kept wr W)
                    (first
                      | (with_reducible exact SC.out _ kd)
                      | (with_reducible exact SC.out _ kk1)
                      | (with_reducible exact SC.out _ kk2)
                      | fail)
                    (first
                      | (go_at_call 105; first
                          | (with_reducible refine (N1.out _ kd).mono ?_; rintro e w9 ⟨rfl, hk9⟩; have kk1 : Kept wr w9 := (by with_reducible exact kd.trans hk9))
                          | (with_reducible refine (N2.out _ kk1).mono ?_; rintro e w10 ⟨rfl, hk10⟩; have kk2 : Kept wr w10 := (by with_reducible exact kk1.trans hk10)))
                      | fail)
                  all_goals go_wp2
                  all_goals go_roundw
                  case rel => exact ⟨q + 1, m2, by omega, by go_num, by first | rfl | simp, by rw [HBM.out]; simp, HKQ.out.trans kk2⟩
                  case measure => simp [intOf]; omega
            · obtain rfl : q = 5 := by omega
              have HF5 : RowKit.Hid (fb = (cmP fs a c k).isSome) := Lib.hid (by rw [HFB.out, fvB_5])
              rw [← HF5.out] at HSU
              cases fb with
              | false =>
                go_wp2_with fail
                go_roundw
                case rel => exact ⟨k + 1, by omega, by go_num, by rw [HSU.out]; first | rfl | (simp; done) | (congr 1; push_cast; go_num), HKQ.out⟩
                case measure => simp [intOf]; omega
              | true =>
                go_wp2_with fail
                go_roundw
                case rel => exact ⟨k + 1, by omega, by go_num, by rw [HSU.out]; rfl, HKQ.out⟩
                case measure => simp [intOf]; omega
        · obtain rfl : k = 6 := by omega
          have HV : RowKit.Hid (apO ms fs a c = (N : Int)) := Lib.hid (by rw [HOO.out, HNK.out])
          go_wp2_with fail
          go_ret2
          rw [HEE.out, HV.out]
          exact ⟨rfl, K0.out.trans HKR.out⟩
end Go.Proofs.YtologmoanaccpaaGreatDoor

namespace Go.Proofs.YtologmoanaccpaaGreatDoor
set_option linter.all false
open Go.RowKit Go.Shelf

def tzN (N : Nat) : Nat := ((List.range 5).find? fun v => N.testBit v).getD 0
set_option maxRecDepth 100000 in
set_option maxHeartbeats 3200000 in
theorem tz8_any (N : Nat) (h0 : 0 < N) (h1 : N < 32) (w : World) : Calls Tryz.prog 162 #[.int .u8 (N : Int)] w fun e w' => e = .returned (.int .i64 ((tzN N : Nat) : Int)) ∧ w' = w := by
  have h : N = 1 ∨ N = 2 ∨ N = 3 ∨ N = 4 ∨ N = 5 ∨ N = 6 ∨ N = 7 ∨ N = 8 ∨ N = 9 ∨ N = 10 ∨ N = 11 ∨ N = 12 ∨ N = 13 ∨ N = 14 ∨ N = 15 ∨ N = 16 ∨ N = 17 ∨ N = 18 ∨ N = 19 ∨ N = 20 ∨ N = 21 ∨ N = 22 ∨ N = 23 ∨ N = 24 ∨ N = 25 ∨ N = 26 ∨ N = 27 ∨ N = 28 ∨ N = 29 ∨ N = 30 ∨ N = 31 := by omega
  clear h0 h1
  rcases h with rfl | rfl | rfl | rfl | rfl | rfl | rfl | rfl | rfl | rfl | rfl | rfl | rfl | rfl | rfl | rfl | rfl | rfl | rfl | rfl | rfl | rfl | rfl | rfl | rfl | rfl | rfl | rfl | rfl | rfl | rfl
  all_goals
    go_enter Tryz.func162, Tryz.ntmps162
    go_wp2_with fail
    go_ret
    exact ⟨by first | kernel_rfl | (exact ret_int (by decide +kernel)), rfl⟩
end Go.Proofs.YtologmoanaccpaaGreatDoor

namespace Go.Proofs.YtologmoanaccpaaGreatDoor
set_option linter.all false
open Go.RowKit Go.Shelf

theorem bm_bit {fs : List Fd} (hfo : ∀ f ∈ fs, f.ok) {a c : Sg} {p : Nat} (ha : 0 ≤ a.l.getD p 0 ∧ a.l.getD p 0 ≤ 4) (hc : 0 ≤ c.l.getD p 0 ∧ c.l.getD p 0 ≤ 4) (v : Nat) (hv : v < 5) : bmB fs a c p v = (bothN fs p (a.l.getD p 0).toNat (c.l.getD p 0).toNat).testBit v := by
  unfold bmB bothN
  rw [← may_fit hfo ha.1 (by omega), ← may_fit hfo hc.1 (by omega), fit1_bit _ _ _ _ hv, fit1_bit _ _ _ _ hv, Nat.testBit_and, lkX_lkF fs (by omega), lkX_lkF fs (by omega)]
theorem find_congr {α : Type} {p q : α → Bool} : ∀ {l : List α}, (∀ x ∈ l, p x = q x) → l.find? p = l.find? q
  | [], _ => rfl
  | x :: l, h => by
    rw [List.find?_cons, List.find?_cons, h x (by simp), find_congr fun y hy => h y (by simp [hy])]
theorem cmI_tz {fs : List Fd} (hfo : ∀ f ∈ fs, f.ok) {a c : Sg} {p : Nat} (ha : 0 ≤ a.l.getD p 0 ∧ a.l.getD p 0 ≤ 4) (hc : 0 ≤ c.l.getD p 0 ∧ c.l.getD p 0 ≤ 4) : cmI fs a c p = ((tzN (bothN fs p (a.l.getD p 0).toNat (c.l.getD p 0).toNat) : Nat) : Int) := by
  unfold cmI tzN cmP
  rw [find_congr fun v hv => bm_bit hfo ha hc v (List.mem_range.1 hv)]
theorem tzN_le (N : Nat) : tzN N ≤ 4 := by
  unfold tzN
  cases h : (List.range 5).find? fun v => N.testBit v with
  | none => simp
  | some v =>
    have := List.mem_range.1 (List.mem_of_find?_eq_some h)
    simp
    omega
theorem bothN_lt {fs : List Fd} (h : ∀ f ∈ fs, f.seen ≤ 4) (k g h' : Nat) : bothN fs k g h' < 32 := Nat.lt_of_le_of_lt Nat.and_le_left (lkX_lt h _)
theorem cvL_set (fs : List Fd) (a c : Sg) {k : Nat} (hk : k < 6) : (cvL fs a c k).set k (.int .u8 (cmI fs a c k)) = cvL fs a c (k + 1) := by
  apply List.ext_getElem?
  intro i
  unfold cvL
  rw [List.getElem?_set]
  by_cases e : k = i
  · subst e
    rw [if_pos rfl, if_pos (by simpa using hk), List.getElem?_map, List.getElem?_range hk]
    simp
  · rw [if_neg e, List.getElem?_map, List.getElem?_map]
    rcases Nat.lt_or_ge i 6 with h6 | h6
    · rw [List.getElem?_range h6]
      simp only [Option.map_some]
      by_cases h1 : i < k
      · rw [if_pos h1, if_pos (by omega)]
      · rw [if_neg h1, if_neg (by omega)]
    · rw [List.getElem?_eq_none (by simpa using h6)]; rfl
set_option maxRecDepth 100000 in
set_option maxHeartbeats 12800000 in
theorem alike_any (fs : List Fd) (a c : Sg) (hfo : ∀ f ∈ fs, f.ok) (hf : ∀ f ∈ fs, f.seen ≤ 4) (ha : a.ok) (hc : c.ok) (hac : clearB a = true) (hcc : clearB c = true) (w : World) :
    Calls Tryz.prog 99 #[lkV fs, .agg #[.int .u8 a.s0, .int .u8 a.s1, .int .u8 a.s2, .int .u8 a.s3, .int .u8 a.s4, .int .u8 a.s5], .agg #[.int .u8 c.s0, .int .u8 c.s1, .int .u8 c.s2, .int .u8 c.s3, .int .u8 c.s4, .int .u8 c.s5]] w (CmR w fs a c) := by
  have hi : (Tryz.prog.info? 120).map (·.size) = some 30 := by kernel_rfl
  obtain ⟨W1, hW1⟩ : ∃ W1, W1 = w.alloc (.cells (lkL (lkX fs)).toArray 120) := ⟨_, rfl⟩
  obtain ⟨W2, hW2⟩ : ∃ W2, W2 = W1.alloc (.cells #[.int .u8 a.s0, .int .u8 a.s1, .int .u8 a.s2, .int .u8 a.s3, .int .u8 a.s4, .int .u8 a.s5] 30) := ⟨_, rfl⟩
  obtain ⟨Wt, hWt⟩ : ∃ Wt, Wt = W2.alloc (.cells #[.int .u8 c.s0, .int .u8 c.s1, .int .u8 c.s2, .int .u8 c.s3, .int .u8 c.s4, .int .u8 c.s5] 30) := ⟨_, rfl⟩
  obtain ⟨W0, hW0⟩ : ∃ W0, W0 = Wt.alloc (.cells #[.int .u8 0, .int .u8 0, .int .u8 0, .int .u8 0, .int .u8 0, .int .u8 0] 39) := ⟨_, rfl⟩
  have z1 : W1.heap.size = w.heap.size + 1 := by rw [hW1]; simp
  have z2 : W2.heap.size = w.heap.size + 1 + 1 := by rw [hW2]; simp [z1]
  have z3 : Wt.heap.size = w.heap.size + 1 + 1 + 1 := by rw [hWt]; simp [z2]
  have k1 : Kept w W1 := by rw [hW1]; exact (Kept.refl _).alloc _
  have k2 : Kept W1 W2 := by rw [hW2]; exact (Kept.refl _).alloc _
  have k3 : Kept W2 Wt := by rw [hWt]; exact (Kept.refl _).alloc _
  have k4 : Kept Wt W0 := by rw [hW0]; exact (Kept.refl _).alloc _
  have HB := Lib.hid (show BlkF W0 w.heap.size (lkX fs) by
    have h0 : BlkF W1 w.heap.size (lkX fs) := by rw [hW1]; exact heap_alloc_new w _
    exact h0.kept ((k2.trans k3).trans k4))
  have HR1 := Lib.hid (show RowC W0 (w.heap.size + 1) (sgV a) by rw [← z1]; exact RowC.kept (by rw [hW2]; exact RowC.new W1 (sgV a) 30) (k3.trans k4))
  have HR2 := Lib.hid (show RowC W0 (w.heap.size + 1 + 1) (sgV c) by rw [← z2]; exact RowC.kept (by rw [hWt]; exact RowC.new W2 (sgV c) 30) k4)
  have HRZ := Lib.hid (show RowC W0 (w.heap.size + 1 + 1 + 1) zero6 by rw [← z3, hW0]; exact RowC.new Wt zero6 39)
  have HK := Lib.hid (show Kept w W0 from ((k1.trans k2).trans k3).trans k4)
  have HW := Lib.hid hW0
  have HWt := Lib.hid hWt
  have HW2 := Lib.hid hW2
  have HW1 := Lib.hid hW1
  have HA := Lib.hid (fun p (hp : p < 6) => clear_get ha hac hp)
  have HC := Lib.hid (fun p (hp : p < 6) => clear_get hc hcc hp)
  have HF := Lib.hid hf
  have HFO := Lib.hid hfo
  have HAP := Lib.hid (fun W => apart_any fs a c hf ha hc hac hcc W)
  have HCM := Lib.hid (cm_ap hfo hf ha hc hac hcc)
  have HC1 := Lib.hid (fun p (hp : p < 6) => cm_ap1 hfo hf ha hc hac hcc hp)
  have HRG : RowKit.Hid (∀ W, Kept W0 W → W.rangeAt w.heap.size 0 (lkL (lkX fs))) := Lib.hid (fun W hW j v hv => by
    rw [Nat.zero_add, cell_of_row _ _ _ _ _ _ (HB.out.kept hW)]
    simpa using hv)
  have HRGH := HRG.out W0 (Kept.refl _)
  have HRG0 := Lib.hid HRGH
  obtain ⟨M, hM⟩ : ∃ M, apK fs a c 6 = M := ⟨_, rfl⟩
  rw [hM] at HAP HCM
  have HM := Lib.hid hM
  have hM6 : M ≤ 6 := by rw [← hM]; exact apK_le fs a c 6
  have lw := HB.out.lt
  unfold lkV at HAP ⊢
  clear hW1 hW2 hWt hW0 z1 z2 z3 k1 k2 k3 k4 ha hc hf hac hcc hfo HRGH hM
  go_enter Tryz.func99, Tryz.ntmps99
  go_upto_region 1 with (fail)
  rw [← HW1.out, ← HW2.out, ← HWt.out, ← HW.out]
  have a0 := (HR1.out 0 _ rfl).1
  have a1 := (HR1.out 1 _ rfl).1
  have a2 := (HR1.out 2 _ rfl).1
  have a3 := (HR1.out 3 _ rfl).1
  have a4 := (HR1.out 4 _ rfl).1
  have a5 := (HR1.out 5 _ rfl).1
  have c0 := (HR2.out 0 _ rfl).1
  have c1 := (HR2.out 1 _ rfl).1
  have c2 := (HR2.out 2 _ rfl).1
  have c3 := (HR2.out 3 _ rfl).1
  have c4 := (HR2.out 4 _ rfl).1
  have c5 := (HR2.out 5 _ rfl).1
  have la := cell_lt a0
  have lc := cell_lt c0
  go_wp2_with (first | (refine wpList_load_mid rfl 120 (.tmp 3) rfl w.heap.size 0 rfl (lkL (lkX fs)) _ HRG0.out Tryz.underlying120 rfl (by rw [hi]; simp [lkL_len]) ?_) | fail)
  refine (HAP.out _).mono ?_
  rintro e w1 ⟨rfl, hk1⟩
  have K1 := Lib.hid hk1
  clear hk1 a0 a1 a2 a3 a4 a5 c0 c1 c2 c3 c4 c5 la lc
  by_cases hz : M = 0
  rotate_left
  · have h1 : (0 : Int) < (M : Int) := by omega
    have HB6 : RowKit.Hid (cmB fs a c 6 = false) := Lib.hid (by
      have h := HCM.out
      rw [show (M != 0) = true by simpa using hz] at h
      simpa using h.symm)
    have RZW := Lib.hid (HRZ.out.kept K1.out)
    have HKW := Lib.hid (HK.out.trans K1.out)
    have HS6 : RowKit.Hid (RowC (set6 w1 (w.heap.size + 1 + 1 + 1) sgz) (w.heap.size + 1 + 1 + 1) (sgV sgz) ∧ Kept w (set6 w1 (w.heap.size + 1 + 1 + 1) sgz)) := Lib.hid (set6_ok RZW.out HKW.out (by omega))
    have z0 := (RZW.out 0 _ rfl).1
    have f0 := (RZW.out 0 _ rfl).2
    have z1 := (RZW.out 1 _ rfl).1
    have f1 := (RZW.out 1 _ rfl).2
    have z2 := (RZW.out 2 _ rfl).1
    have f2 := (RZW.out 2 _ rfl).2
    have z3 := (RZW.out 3 _ rfl).1
    have f3 := (RZW.out 3 _ rfl).2
    have z4 := (RZW.out 4 _ rfl).1
    have f4 := (RZW.out 4 _ rfl).2
    have z5 := (RZW.out 5 _ rfl).1
    have f5 := (RZW.out 5 _ rfl).2
    have lz := cell_lt z0
    go_wp2_with fail
    obtain ⟨hs6, hk6⟩ := HS6.out
    unfold set6 sgz at hs6 hk6
    have e0 := (hs6 0 _ rfl).1
    have e1 := (hs6 1 _ rfl).1
    have e2 := (hs6 2 _ rfl).1
    have e3 := (hs6 3 _ rfl).1
    have e4 := (hs6 4 _ rfl).1
    have e5 := (hs6 5 _ rfl).1
    refine bodyPost_ret (v := .tuple #[.agg #[.int .u8 0, .int .u8 0, .int .u8 0, .int .u8 0, .int .u8 0, .int .u8 0], .bool false]) (by simp [results, Tryz.results99, go_sem, e0, e1, e2, e3, e4, e5]) rfl ⟨?_, hk6⟩
    rw [HB6.out]
    rfl
  subst hz
  have HB6 : RowKit.Hid (cmB fs a c 6 = true) := Lib.hid (by simpa using HCM.out)
  have HAB : RowKit.Hid (∀ p, p < 6 → apB fs a c p = false) := Lib.hid (apK_zero.1 HM.out)
  go_upto_region 4 with (fail)
  obtain ⟨W3, hW3⟩ : ∃ W3, W3 = w1 := ⟨_, rfl⟩
  rw [← hW3] at K1 ⊢
  clear hW3
  obtain ⟨W4, hW4⟩ : ∃ W4, W4 = W3.alloc (.cells #[.int .u8 0, .int .u8 0, .int .u8 0, .int .u8 0, .int .u8 0, .int .u8 0] 39) := ⟨_, rfl⟩
  rw [← hW4]
  have k4 : Kept W3 W4 := by rw [hW4]; exact (Kept.refl _).alloc _
  have RV : RowKit.Hid (RowC W4 W3.heap.size (cvL fs a c 0)) := Lib.hid (by rw [cvL_0, hW4]; exact RowC.new W3 (sgV sgz) 39)
  have K4 := Lib.hid (K1.out.trans k4)
  have HZ3 := Lib.hid K1.out.size
  clear hW4 k4
  go_wp2_with fail
  go_loopw [9, 16] (fun _ i wr => ∃ k : Nat, k ≤ 6 ∧ i = .int .i64 k ∧ RowC wr W3.heap.size (cvL fs a c k) ∧ Kept W0 wr) (fun _ i _ => 6 - (intOf i).toNat)
  case atStart => exact ⟨0, by omega, by first | rfl | go_num, RV.out, K4.out⟩
  case round =>
    obtain ⟨k, hk, rfl, hrv, hkr⟩ := hrel
    have HRV := Lib.hid hrv
    have HKR := Lib.hid hkr
    clear hrv hkr
    by_cases hlt : k < 6
    · have hk0 : (0 : Int) ≤ (k : Int) := by omega
      have hk1 : (k : Int) < 6 := by omega
      obtain ⟨x, hx⟩ := sg_six a hlt
      obtain ⟨y, hy⟩ := sg_six c hlt
      have hax := HA.out k hlt
      have hcy := HC.out k hlt
      have hgx : a.l.getD k 0 = x := by rw [List.getD_eq_getElem?_getD, hx]; rfl
      have hgy : c.l.getD k 0 = y := by rw [List.getD_eq_getElem?_getD, hy]; rfl
      have HTZ : RowKit.Hid (cmI fs a c k = ((tzN (bothN fs k (a.l.getD k 0).toNat (c.l.getD k 0).toNat) : Nat) : Int)) := Lib.hid (cmI_tz HFO.out hax hcy)
      have HNZ : RowKit.Hid (bothN fs k (a.l.getD k 0).toNat (c.l.getD k 0).toNat ≠ 0) := Lib.hid (fun e => by
        have := HAB.out k hlt
        unfold apB at this
        rw [e] at this
        cases this)
      rw [hgx, hgy] at HTZ HNZ
      rw [hgx] at hax
      rw [hgy] at hcy
      obtain ⟨hx0, hx4⟩ := hax
      obtain ⟨hy0, hy4⟩ := hcy
      obtain ⟨x, rfl⟩ : ∃ n : Nat, x = (n : Int) := ⟨x.toNat, by omega⟩
      obtain ⟨y, rfl⟩ : ∃ n : Nat, y = (n : Int) := ⟨y.toNat, by omega⟩
      rw [Int.toNat_natCast, Int.toNat_natCast] at HTZ HNZ
      have HBO := Lib.hid (both_any fs k x y HF.out hlt (by omega) (by omega))
      obtain ⟨N, hN⟩ : ∃ N, bothN fs k x y = N := ⟨_, rfl⟩
      have hN32 : N < 32 := by rw [← hN]; exact bothN_lt HF.out _ _ _
      rw [hN] at HBO HTZ HNZ
      have HT8 := Lib.hid (fun W => tz8_any N (by have := HNZ.out; omega) hN32 W)
      have htz := tzN_le N
      obtain ⟨T, hT⟩ : ∃ T, tzN N = T := ⟨_, rfl⟩
      rw [hT] at HT8 htz HTZ
      have hw8 : IntKind.u8.wrap (T : Int) = (T : Int) := by have := htz; simp only [IntKind.wrap_u8]; omega
      have SB : RowKit.Hid (∀ W, Kept W0 W → W.rangeAt w.heap.size 0 (lkL (lkX fs)) ∧ W.cell? ⟨w.heap.size + 1, k, none⟩ = some (.int .u8 (x : Int)) ∧ W.cell? ⟨w.heap.size + 1 + 1, k, none⟩ = some (.int .u8 (y : Int)) ∧ Kept W0 W) := Lib.hid (fun W hW => ⟨HRG.out W hW, (HR1.out.kept hW k _ (sgV_at hx)).1, (HR2.out.kept hW k _ (sgV_at hy)).1, hW⟩)
      have hlen : k < (cvL fs a c k).length := by unfold cvL; simpa using hlt
      obtain ⟨v0, hv0⟩ : ∃ v, (cvL fs a c k)[k]? = some v := ⟨_, List.getElem?_eq_getElem hlen⟩
      have HV0 := Lib.hid hv0
      have HLEN := Lib.hid hlen
      have HSET := Lib.hid (cvL_set fs a c hlt)
      rw [HTZ.out] at HSET
      have kd := (Kept.refl wr).drew
      unfold lkV at HBO
      clear hx hy hgx hgy hN hT hx0 hy0 hx4 hy4 hlen hv0
      go_upto_region 7 with (fail)
      refine wp_region_held_drew (S := fun W => W.rangeAt w.heap.size 0 (lkL (lkX fs)) ∧ W.cell? ⟨w.heap.size + 1, k, none⟩ = some (.int .u8 (x : Int)) ∧ W.cell? ⟨w.heap.size + 1 + 1, k, none⟩ = some (.int .u8 (y : Int)) ∧ Kept W0 W) (by kernel_rfl) (SB.out _ HKR.out.drew) (fun hHeld => ?_)
      refine take_at (i := 1) (d := some 20) (v := .agg (lkL (lkX fs)).toArray) rfl rfl (by kernel_rfl) (by kernel_rfl) (by kernel_rfl) (fun _ _ _ h => h) (yieldsIf_load_mid (by rfl) 120 (.tmp 3) rfl w.heap.size 0 rfl (lkL (lkX fs)) _ (fun W hW => hW.1) Tryz.underlying120 rfl (by rw [hi]; simp [lkL_len])) hHeld ?_
      try simp only [Act.put, List.setIfInBounds_toArray, List.set_cons_zero, List.set_cons_succ]
      refine take_at (i := 0) (d := some 19) (v := ?_) rfl rfl (by kernel_rfl) (by kernel_rfl) (by kernel_rfl) (fun _ _ _ h => h) (Or.inl ⟨by rfl, ?_⟩) hHeld ?_
      rotate_left
      · intro w hSw
        try dsimp only at hSw
        go_simp
        try (with_reducible rfl)
      try simp only [Act.put, List.setIfInBounds_toArray, List.set_cons_zero, List.set_cons_succ]
      refine take_at (i := 2) (d := some 21) (v := ?_) rfl rfl (by kernel_rfl) (by kernel_rfl) (by kernel_rfl) (fun _ _ _ h => h) (Or.inl ⟨by rfl, ?_⟩) hHeld ?_
      rotate_left
      · intro w hSw
        try dsimp only at hSw
        go_simp
        try (with_reducible rfl)
      try simp only [Act.put, List.setIfInBounds_toArray, List.set_cons_zero, List.set_cons_succ]
      refine take_at (i := 3) (d := some 22) (v := ?_) rfl rfl (by kernel_rfl) (by kernel_rfl) (by kernel_rfl) (fun _ _ _ h => h) (Or.inl ⟨by rfl, ?_⟩) hHeld ?_
      rotate_left
      · intro w hSw
        try dsimp only at hSw
        go_simp
        try (with_reducible rfl)
      try simp only [Act.put, List.setIfInBounds_toArray, List.set_cons_zero, List.set_cons_succ]
      refine take_at (i := 4) (d := some 23) (v := ?_) rfl rfl (by kernel_rfl) (by kernel_rfl) (by kernel_rfl) (fun _ _ _ h => h) (Or.inl ⟨by rfl, ?_⟩) hHeld ?_
      rotate_left
      · intro w hSw
        try dsimp only at hSw
        go_simp
        try (with_reducible rfl)
      try simp only [Act.put, List.setIfInBounds_toArray, List.set_cons_zero, List.set_cons_succ]
      refine take_at (i := 5) (d := some 24) (v := ?_) rfl rfl (by kernel_rfl) (by kernel_rfl) (by kernel_rfl) (fun _ _ _ h => h) (Or.inl ⟨by rfl, ?_⟩) hHeld ?_
      rotate_left
      · intro w hSw
        try dsimp only at hSw
        go_simp
        try (with_reducible rfl)
      try simp only [Act.put, List.setIfInBounds_toArray, List.set_cons_zero, List.set_cons_succ]
      refine take_at (i := 6) (d := some 25) (v := ?_) rfl rfl (by kernel_rfl) (by kernel_rfl) (by kernel_rfl) (fun _ _ _ h => h) (Or.inl ⟨by rfl, ?_⟩) hHeld ?_
      rotate_left
      · intro w hSw
        try dsimp only at hSw
        go_simp
        try (with_reducible rfl)
      try simp only [Act.put, List.setIfInBounds_toArray, List.set_cons_zero, List.set_cons_succ]
      refine take_at (i := 7) (d := some 26) (v := ?_) rfl rfl (by kernel_rfl) (by kernel_rfl) (by kernel_rfl) (fun _ _ _ h => h) (Or.inl ⟨by rfl, ?_⟩) hHeld ?_
      rotate_left
      · intro w hSw
        try dsimp only at hSw
        go_simp
        try (with_reducible rfl)
      try simp only [Act.put, List.setIfInBounds_toArray, List.set_cons_zero, List.set_cons_succ]
      refine take_at (i := 8) (d := some 27) (v := ?_) rfl rfl (by kernel_rfl) (by kernel_rfl) (by kernel_rfl) (fun _ _ _ h => h) (Or.inl ⟨by rfl, ?_⟩) hHeld ?_
      rotate_left
      · intro w hSw
        try dsimp only at hSw
        go_simp
        try (with_reducible rfl)
      try simp only [Act.put, List.setIfInBounds_toArray, List.set_cons_zero, List.set_cons_succ]
      refine take_at (i := 12) (d := some 31) (v := ?_) rfl rfl (by kernel_rfl) (by kernel_rfl) (by kernel_rfl) (fun _ _ _ h => h) (Or.inl ⟨by rfl, ?_⟩) hHeld ?_
      rotate_left
      · intro w hSw
        try dsimp only at hSw
        go_simp
        try (with_reducible rfl)
      try simp only [Act.put, List.setIfInBounds_toArray, List.set_cons_zero, List.set_cons_succ]
      refine wpAnyH_ready (rs := [9]) (by kernel_rfl) (by simp) ?_
      refine AllReadyH.cons rfl (fun K hK => ?_) AllReadyH.nil
      rw [if_pos (by rfl)]
      go_simp
      refine (HBO.out _).mono ?_
      rintro e w9 ⟨rfl, hkk⟩
      go_wp2_with fail
      refine hK.out _ _ (SB.out _ (HKR.out.drew.trans hkk)) (fun hHeld => ?_)
      clear hK K
      try simp only [Act.put, List.setIfInBounds_toArray, List.set_cons_zero, List.set_cons_succ]
      refine wpAnyH_ready (rs := [10]) (by kernel_rfl) (by simp) ?_
      refine AllReadyH.cons rfl (fun K hK => ?_) AllReadyH.nil
      rw [if_pos (by rfl)]
      go_simp
      refine (HT8.out _).mono ?_
      rintro e w10 ⟨rfl, rfl⟩
      go_wp2_with fail
      refine hK.out _ _ (SB.out _ (HKR.out.drew.trans hkk)) (fun hHeld => ?_)
      clear hK K
      try simp only [Act.put, List.setIfInBounds_toArray, List.set_cons_zero, List.set_cons_succ]
      refine take_at (i := 11) (d := some 30) (v := ?_) rfl rfl (by kernel_rfl) (by kernel_rfl) (by kernel_rfl) (fun _ _ _ h => h) (Or.inl ⟨by rfl, ?_⟩) hHeld ?_
      rotate_left
      · intro w hSw
        try dsimp only at hSw
        go_simp
        try (with_reducible rfl)
      try simp only [Act.put, List.setIfInBounds_toArray, List.set_cons_zero, List.set_cons_succ]
      refine take_at (i := 13) (d := some 32) (v := ?_) rfl rfl (by kernel_rfl) (by kernel_rfl) (by kernel_rfl) (fun _ _ _ h => h) (Or.inl ⟨by rfl, ?_⟩) hHeld ?_
      rotate_left
      · intro w hSw
        try dsimp only at hSw
        go_simp
        try (with_reducible rfl)
      try simp only [Act.put, List.setIfInBounds_toArray, List.set_cons_zero, List.set_cons_succ]
      have hcell := (HRV.out.kept ((kd.trans hkk))) k v0 HV0.out
      obtain ⟨g1, g2⟩ := hcell
      have lg := cell_lt g1
      refine wpAnyH_ready (rs := [14]) (by kernel_rfl) (by simp) ?_
      refine AllReadyH.cons rfl (fun K hK => ?_) AllReadyH.nil
      rw [if_pos (by rfl)]
      go_simp
      have kz := (HKR.out.drew.trans hkk).setCell (p := ⟨W3.heap.size, k, none⟩) HZ3.out (.int .u8 (T : Int))
      refine hK.out _ _ (SB.out _ kz) (fun hHeld => ?_)
      clear hK K
      try simp only [Act.put, List.setIfInBounds_toArray, List.set_cons_zero, List.set_cons_succ]
      refine wpAnyH_done (by kernel_rfl) ?_ _
      go_wp2
      go_roundw
      case rel => exact ⟨k + 1, by omega, by go_num, by rw [← HSET.out]; exact (HRV.out.kept (kd.trans hkk)).put HLEN.out _, kz⟩
      case measure => simp [intOf]; omega
    · obtain rfl : k = 6 := by omega
      have RZW := Lib.hid (HRZ.out.kept HKR.out)
      have HKW := Lib.hid (HK.out.trans HKR.out)
      rw [cvL_6] at HRV
      obtain ⟨y, hy⟩ : ∃ y, cmS fs a c = y := ⟨_, rfl⟩
      rw [hy] at HRV
      have HY := Lib.hid hy
      clear hy
      have HS6 : RowKit.Hid (RowC (set6 wr (w.heap.size + 1 + 1 + 1) y) (w.heap.size + 1 + 1 + 1) (sgV y) ∧ Kept w (set6 wr (w.heap.size + 1 + 1 + 1) y)) := Lib.hid (set6_ok RZW.out HKW.out (by omega))
      have z0 := (RZW.out 0 _ rfl).1
      have f0 := (RZW.out 0 _ rfl).2
      have z1 := (RZW.out 1 _ rfl).1
      have f1 := (RZW.out 1 _ rfl).2
      have z2 := (RZW.out 2 _ rfl).1
      have f2 := (RZW.out 2 _ rfl).2
      have z3 := (RZW.out 3 _ rfl).1
      have f3 := (RZW.out 3 _ rfl).2
      have z4 := (RZW.out 4 _ rfl).1
      have f4 := (RZW.out 4 _ rfl).2
      have z5 := (RZW.out 5 _ rfl).1
      have f5 := (RZW.out 5 _ rfl).2
      have lz := cell_lt z0
      have v0 := (HRV.out 0 _ rfl).1
      have v1 := (HRV.out 1 _ rfl).1
      have v2 := (HRV.out 2 _ rfl).1
      have v3 := (HRV.out 3 _ rfl).1
      have v4 := (HRV.out 4 _ rfl).1
      have v5 := (HRV.out 5 _ rfl).1
      have lv := cell_lt v0
      go_wp2_with fail
      obtain ⟨hs6, hk6⟩ := HS6.out
      unfold set6 at hs6 hk6
      have e0 := (hs6 0 _ rfl).1
      have e1 := (hs6 1 _ rfl).1
      have e2 := (hs6 2 _ rfl).1
      have e3 := (hs6 3 _ rfl).1
      have e4 := (hs6 4 _ rfl).1
      have e5 := (hs6 5 _ rfl).1
      refine bodyPost_ret (v := .tuple #[.agg #[.int .u8 y.s0, .int .u8 y.s1, .int .u8 y.s2, .int .u8 y.s3, .int .u8 y.s4, .int .u8 y.s5], .bool true]) (by simp [results, Tryz.results99, go_sem, e0, e1, e2, e3, e4, e5]) rfl ⟨?_, hk6⟩
      rw [HB6.out, if_pos rfl, HY.out]
      rfl
end Go.Proofs.YtologmoanaccpaaGreatDoor
