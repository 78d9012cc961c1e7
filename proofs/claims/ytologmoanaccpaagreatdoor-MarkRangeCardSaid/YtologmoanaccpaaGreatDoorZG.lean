/-
  the reference's shows, fits
  the reference's owners, Fits, Owners, Sure
-/
import Derived.Test.YtologmoanaccpaaGreatDoorZA
import Derived.Test.YtologmoanaccpaaGreatDoorYG
import Derived.Test.YtologmoanaccpaaGreatDoorBF
import Derived.Test.YtologmoanaccpaaGreatDoorXZ
import Derived.Deep.DeepCutAuto
namespace Go.Proofs.YtologmoanaccpaaGreatDoor
set_option linter.all false
open Go.RowKit Go.Shelf

def shK (fs : List Fd) (a s : Sg) (k : Nat) : Bool := (List.range k).all fun p => mayB fs p (a.l.getD p 0) (s.l.getD p 0)
theorem shK_succ (fs : List Fd) (a s : Sg) (k : Nat) : shK fs a s (k + 1) = (shK fs a s k && mayB fs k (a.l.getD k 0) (s.l.getD k 0)) := by
  unfold shK
  rw [List.range_succ, List.all_append]
  simp
theorem shK_no {fs : List Fd} {a s : Sg} {k : Nat} (hk : k < 6) (h : mayB fs k (a.l.getD k 0) (s.l.getD k 0) = false) : shK fs a s 6 = false := by
  cases e : shK fs a s 6
  · rfl
  · unfold shK at e
    rw [List.all_eq_true] at e
    rw [e k (List.mem_range.2 hk)] at h
    cases h
theorem shK_fit {fs : List Fd} (hf : ∀ f ∈ fs, f.ok) {a s : Sg} (ha : a.ok) (hs : s.ok) : shK fs a s 6 = fitB fs a s := by
  unfold shK fitB
  rw [Bool.eq_iff_iff, List.all_eq_true, List.all_eq_true]
  have hg : ∀ {t : Sg}, t.ok → ∀ p, p < 6 → 0 ≤ t.l.getD p 0 := fun {t} ht p hp => by
    obtain ⟨x, hx⟩ := sg_six t hp
    rw [List.getD_eq_getElem?_getD, hx]
    exact (Sg.ok_l ht x (List.mem_of_getElem? hx)).1
  constructor
  · intro h p hp
    rw [may_fit hf (hg ha p (List.mem_range.1 hp)) (hg hs p (List.mem_range.1 hp))]
    exact h p hp
  · intro h p hp
    rw [← may_fit hf (hg ha p (List.mem_range.1 hp)) (hg hs p (List.mem_range.1 hp))]
    exact h p hp
set_option maxRecDepth 100000 in
set_option maxHeartbeats 6400000 in
theorem rshows_any (A B : Option Addr) (n c m d : Nat) (ms : List Mk) (fs : List Fd) (s t : Sg) (w : World) (hs : SmA w A n c ms B m d fs) :
    Calls Tryz.prog 158 #[.agg #[.slice A n c, .slice B m d], .agg #[.int .u8 s.s0, .int .u8 s.s1, .int .u8 s.s2, .int .u8 s.s3, .int .u8 s.s4, .int .u8 s.s5], .agg #[.int .u8 t.s0, .int .u8 t.s1, .int .u8 t.s2, .int .u8 t.s3, .int .u8 t.s4, .int .u8 t.s5]] w fun e w' => e = .returned (.bool (shK fs s t 6)) ∧ Kept w w' := by
  obtain ⟨W0, hW0⟩ : ∃ W0, W0 = ((w.alloc (.cells #[.slice A n c, .slice B m d] 25)).alloc (.cells #[.int .u8 s.s0, .int .u8 s.s1, .int .u8 s.s2, .int .u8 s.s3, .int .u8 s.s4, .int .u8 s.s5] 30)).alloc (.cells #[.int .u8 t.s0, .int .u8 t.s1, .int .u8 t.s2, .int .u8 t.s3, .int .u8 t.s4, .int .u8 t.s5] 39) := ⟨_, rfl⟩
  have z1 : (w.alloc (.cells #[.slice A n c, .slice B m d] 25)).heap.size = w.heap.size + 1 := World.size_alloc ..
  have z2 : ((w.alloc (.cells #[.slice A n c, .slice B m d] 25)).alloc (.cells #[.int .u8 s.s0, .int .u8 s.s1, .int .u8 s.s2, .int .u8 s.s3, .int .u8 s.s4, .int .u8 s.s5] 30)).heap.size = w.heap.size + 1 + 1 := by rw [World.size_alloc, z1]
  have K0 : RowKit.Hid (Kept w W0) := Lib.hid (by rw [hW0]; exact (((Kept.refl _).alloc _).alloc _).alloc _)
  have R0 : RowKit.Hid (RowC W0 w.heap.size [.slice A n c, .slice B m d]) := Lib.hid (by rw [hW0]; exact (RowC.new w [.slice A n c, .slice B m d] 25).kept (((Kept.refl _).alloc _).alloc _))
  have RS : RowKit.Hid (RowC W0 (w.heap.size + 1) (sgV s)) := Lib.hid (by rw [hW0]; have h := RowC.new (w.alloc (.cells #[.slice A n c, .slice B m d] 25)) (sgV s) 30; rw [z1] at h; exact h.kept ((Kept.refl _).alloc _))
  have RT : RowKit.Hid (RowC W0 (w.heap.size + 1 + 1) (sgV t)) := Lib.hid (by rw [hW0]; have h := RowC.new ((w.alloc (.cells #[.slice A n c, .slice B m d] 25)).alloc (.cells #[.int .u8 s.s0, .int .u8 s.s1, .int .u8 s.s2, .int .u8 s.s3, .int .u8 s.s4, .int .u8 s.s5] 30)) (sgV t) 39; rw [z2] at h; exact h)
  have HW := Lib.hid hW0
  have HS := Lib.hid (hs.kept K0.out)
  have HMY : RowKit.Hid (∀ (p : Nat) (a v : Int) W, Kept W0 W → Calls Tryz.prog 105 #[.agg #[.slice A n c, .slice B m d], .int .i64 (p : Int), .int .u8 a, .int .u8 v] W fun e w' => e = .returned (.bool (mayB fs p a v)) ∧ Kept W w') := Lib.hid (fun p a v W hW => rmay_any A B n c m d ms fs p a v W (HS.out.kept hW))
  clear hW0 hs z1 z2
  go_enter Tryz.func158, Tryz.ntmps158
  go_upto_region 1 with (fail)
  rw [← HW.out]
  go_wp2_with fail
  go_loopw [7] (fun i wr => ∃ k : Nat, k ≤ 6 ∧ i = .int .i64 k ∧ shK fs s t k = true ∧ Kept W0 wr) (fun i _ => 6 - (intOf i).toNat)
  case atStart => exact ⟨0, by omega, by first | rfl | go_num, rfl, Kept.refl _⟩
  case round =>
    obtain ⟨k, hk, rfl, hcb, hkr⟩ := hrel
    have HCB := Lib.hid hcb
    have HKR := Lib.hid hkr
    clear hcb hkr
    by_cases hlt : k < 6
    · have hi0 : (0 : Int) ≤ (k : Int) := by omega
      have hi1 : (k : Int) < 6 := by omega
      obtain ⟨x, hx⟩ := sg_six s hlt
      obtain ⟨y, hy⟩ := sg_six t hlt
      have HGX : RowKit.Hid (s.l.getD k 0 = x) := Lib.hid (by rw [List.getD_eq_getElem?_getD, hx]; rfl)
      have HGY : RowKit.Hid (t.l.getD k 0 = y) := Lib.hid (by rw [List.getD_eq_getElem?_getD, hy]; rfl)
      obtain ⟨m1, hm1⟩ : ∃ b, mayB fs k x y = b := ⟨_, rfl⟩
      have HM1 : RowKit.Hid (mayB fs k (s.l.getD k 0) (t.l.getD k 0) = m1) := Lib.hid (by rw [HGX.out, HGY.out, hm1])
      have SC : RowKit.Hid (∀ W, Kept wr W → W.cell? ⟨w.heap.size, 0, none⟩ = some (.slice A n c) ∧ W.cell? ⟨w.heap.size, 1, none⟩ = some (.slice B m d) ∧ W.cell? ⟨w.heap.size + 1, k, none⟩ = some (.int .u8 x) ∧ W.cell? ⟨w.heap.size + 1 + 1, k, none⟩ = some (.int .u8 y) ∧ Kept wr W) := Lib.hid (fun W hW => ⟨(R0.out.kept (HKR.out.trans hW) 0 _ rfl).1, (R0.out.kept (HKR.out.trans hW) 1 _ rfl).1, (RS.out.kept (HKR.out.trans hW) k _ (sgV_at hx)).1, (RT.out.kept (HKR.out.trans hW) k _ (sgV_at hy)).1, hW⟩)
      have N1 : RowKit.Hid (∀ W, Kept wr W → Calls Tryz.prog 105 #[.agg #[.slice A n c, .slice B m d], .int .i64 (k : Int), .int .u8 x, .int .u8 y] W fun e w' => e = .returned (.bool m1) ∧ Kept W w') := Lib.hid (fun W hW => by rw [← hm1]; exact HMY.out k x y W (HKR.out.trans hW))
      have q0 := (SC.out _ (Kept.refl _)).1
      have lq := cell_lt q0
      have q1 := (SC.out _ (Kept.refl _)).2.2.1
      have lq1 := cell_lt q1
      have q2 := (SC.out _ (Kept.refl _)).2.2.2.1
      have lq2 := cell_lt q2
      clear q0 q1 q2 hx hy hm1
      go_upto_region 4 with (fail)
      go_cut [22] (fun s22 wx => s22 = .bool (!m1) ∧ Kept wr wx)
      case first =>
        have kd := (Kept.refl wr).drew
        go_region_held3 (fun W => W.cell? ⟨w.heap.size, 0, none⟩ = some (.slice A n c) ∧ W.cell? ⟨w.heap.size, 1, none⟩ = some (.slice B m d) ∧ W.cell? ⟨w.heap.size + 1, k, none⟩ = some (.int .u8 x) ∧ W.cell? ⟨w.heap.size + 1 + 1, k, none⟩ = some (.int .u8 y) ∧ Kept wr W)
          (first
            | (with_reducible exact SC.out _ kd)
            | (with_reducible exact SC.out _ kk1)
            | fail)
          (first
            | (go_at_call 105; refine (N1.out _ kd).mono ?_; rintro e w9 ⟨rfl, hk9⟩; have kk1 : Kept wr w9 := (by with_reducible exact kd.trans hk9))
            | fail)
        all_goals go_wp2
        all_goals go_meet
        all_goals exact ⟨rfl, kk1⟩
      obtain ⟨rfl, hkc⟩ := hcut
      obtain ⟨Wc, hWc⟩ : ∃ Wc, Wc = wc := ⟨_, rfl⟩
      rw [← hWc] at hkc ⊢
      clear hWc
      have HKC := Lib.hid (HKR.out.trans hkc)
      clear hkc
      cases m1 with
      | false =>
        go_wp2_with fail
        go_ret
        exact ⟨ret_bool (shK_no hlt HM1.out).symm, K0.out.trans HKC.out⟩
      | true =>
        go_wp2_with fail
        go_roundw
        case rel => exact ⟨k + 1, by omega, by go_num, by rw [shK_succ, HCB.out, HM1.out]; rfl, HKC.out⟩
        case measure => simp [intOf]; omega
    · obtain rfl : k = 6 := by omega
      go_wp2_with fail
      go_ret
      exact ⟨ret_bool HCB.out.symm, K0.out.trans HKR.out⟩
def fitOf (fs : List Fd) (s : Sg) : Option Mk → Bool
  | some m => shK fs m.sg s 6
  | none => false
def fitR (ms : List Mk) (fs : List Fd) (day : Int) (s : Sg) (o : Int) : Bool := fitOf fs s (mkAt ms day o)
set_option maxRecDepth 100000 in
set_option maxHeartbeats 3200000 in
theorem rfits_any (A B : Option Addr) (n c m d : Nat) (ms : List Mk) (fs : List Fd) (day o : Int) (s : Sg) (w : World) (hs : SmA w A n c ms B m d fs) :
    Calls Tryz.prog 94 #[.agg #[.slice A n c, .slice B m d], .int .i64 day, .agg #[.int .u8 s.s0, .int .u8 s.s1, .int .u8 s.s2, .int .u8 s.s3, .int .u8 s.s4, .int .u8 s.s5], .int .i64 o] w fun e w' => e = .returned (.bool (fitR ms fs day s o)) ∧ Kept w w' := by
  obtain ⟨W0, hW0⟩ : ∃ W0, W0 = (w.alloc (.cells #[.slice A n c, .slice B m d] 25)).alloc (.cells #[.int .u8 s.s0, .int .u8 s.s1, .int .u8 s.s2, .int .u8 s.s3, .int .u8 s.s4, .int .u8 s.s5] 39) := ⟨_, rfl⟩
  have K0 : RowKit.Hid (Kept w W0) := Lib.hid (by rw [hW0]; exact ((Kept.refl _).alloc _).alloc _)
  have R0 : RowKit.Hid (RowC W0 w.heap.size [.slice A n c, .slice B m d]) := Lib.hid (by rw [hW0]; exact (RowC.new w [.slice A n c, .slice B m d] 25).kept ((Kept.refl _).alloc _))
  have RS : RowKit.Hid (RowC W0 (w.heap.size + 1) (sgV s)) := Lib.hid (by rw [hW0]; have h := RowC.new (w.alloc (.cells #[.slice A n c, .slice B m d] 25)) (sgV s) 39; rwa [World.size_alloc] at h)
  have HW := Lib.hid hW0
  have HS := Lib.hid (hs.kept K0.out)
  have HM := Lib.hid (rmark_any A B n c m d ms fs day o W0 HS.out)
  have a0 := (R0.out 0 _ rfl).1
  have a1 := (R0.out 1 _ rfl).1
  have la := cell_lt a0
  obtain ⟨mo, hmk⟩ : ∃ mo, mkAt ms day o = mo := ⟨_, rfl⟩
  have HF : RowKit.Hid (fitR ms fs day s o = fitOf fs s mo) := Lib.hid (by unfold fitR; rw [hmk])
  clear hW0 hs
  go_enter Tryz.func94, Tryz.ntmps94
  go_upto_region 1 with (fail)
  rw [← HW.out]
  go_wp2_with fail
  refine HM.out.mono ?_
  rintro e w1 ⟨he, hk1⟩
  have he' := he
  clear he
  rw [hmk] at he'
  have K1 := Lib.hid hk1
  have R1 := Lib.hid (R0.out.kept hk1)
  have RS1 := Lib.hid (RS.out.kept hk1)
  clear hmk HM hk1 a0 a1 la
  cases mo with
  | none =>
    obtain rfl : e = .returned (.tuple #[.agg #[.int .i64 0, .int .i64 0, .int .i64 0, .int .u8 0, .int .u8 0, .int .u8 0, .int .u8 0, .int .u8 0, .int .u8 0], .bool false]) := he'
    go_wp2_with fail
    go_ret
    exact ⟨ret_bool (by rw [HF.out]; rfl), (K0.out.trans K1.out).alloc _⟩
  | some x =>
    obtain rfl : e = .returned (.tuple #[.agg #[.int .i64 x.own, .int .i64 x.frm, .int .i64 x.unt, .int .u8 x.sg.s0, .int .u8 x.sg.s1, .int .u8 x.sg.s2, .int .u8 x.sg.s3, .int .u8 x.sg.s4, .int .u8 x.sg.s5], .bool true]) := he'
    go_upto_region 2 with (fail)
    obtain ⟨Wa, hWa⟩ : ∃ Wa, Wa = w1.alloc (.cells #[.int .i64 x.own, .int .i64 x.frm, .int .i64 x.unt, .int .u8 x.sg.s0, .int .u8 x.sg.s1, .int .u8 x.sg.s2, .int .u8 x.sg.s3, .int .u8 x.sg.s4, .int .u8 x.sg.s5] 32) := ⟨_, rfl⟩
    have ka : Kept w1 Wa := by rw [hWa]; exact (Kept.refl _).alloc _
    have ra : RowC Wa w1.heap.size (mkC x) := by rw [hWa]; exact RowC.new w1 (mkC x) 32
    rw [← hWa]
    have KA := Lib.hid (K1.out.trans ka)
    have HSH := Lib.hid (rshows_any A B n c m d ms fs x.sg s Wa (HS.out.kept KA.out))
    have r0 := R1.out.kept ka
    have rs := RS1.out.kept ka
    clear hWa ka
    have a0 := (r0 0 _ rfl).1
    have a1 := (r0 1 _ rfl).1
    have la := cell_lt a0
    have s0 := (rs 0 _ rfl).1
    have x0 := (ra 3 _ rfl).1
    have s1 := (rs 1 _ rfl).1
    have x1 := (ra 4 _ rfl).1
    have s2 := (rs 2 _ rfl).1
    have x2 := (ra 5 _ rfl).1
    have s3 := (rs 3 _ rfl).1
    have x3 := (ra 6 _ rfl).1
    have s4 := (rs 4 _ rfl).1
    have x4 := (ra 7 _ rfl).1
    have s5 := (rs 5 _ rfl).1
    have x5 := (ra 8 _ rfl).1
    have ls := cell_lt s0
    have lx := cell_lt x0
    clear r0 rs ra
    obtain ⟨bb, hbb⟩ : ∃ b, shK fs x.sg s 6 = b := ⟨_, rfl⟩
    rw [hbb] at HSH
    have HB := Lib.hid hbb
    clear hbb
    go_wp2_with fail
    refine HSH.out.mono ?_
    rintro e w2 ⟨rfl, hk2⟩
    have K2 := Lib.hid ((K0.out.trans KA.out).trans hk2)
    clear hk2
    go_wp2_with fail
    go_ret
    exact ⟨ret_bool (by rw [HF.out]; exact HB.out.symm), K2.out⟩
theorem fitR_O {ms : List Mk} {fs : List Fd} {day : Int} {s : Sg} {o : Int} (hok : ∀ m ∈ ms, m.ok) (hfo : ∀ f ∈ fs, f.ok) (hs : s.ok) : fitR ms fs day s o = fitO ms fs day s o := by
  unfold fitR fitO
  cases e : mkAt ms day o with
  | none => rfl
  | some x => exact shK_fit hfo (hok x (List.mem_of_find?_eq_some e)).2.2.2 hs
end Go.Proofs.YtologmoanaccpaaGreatDoor

namespace Go.Proofs.YtologmoanaccpaaGreatDoor
set_option linter.all false
open Go.RowKit Go.Shelf

def olR (ms : List Mk) (fs : List Fd) (day : Int) (s : Sg) (k : Nat) : List Int := ((List.range k).filter fun i : Nat => fitR ms fs day s ((i : Int) + 1)).map fun i : Nat => (i : Int) + 1
theorem olR_succ (ms : List Mk) (fs : List Fd) (day : Int) (s : Sg) (k : Nat) : olR ms fs day s (k + 1) = if fitR ms fs day s ((k : Int) + 1) = true then olR ms fs day s k ++ [(k : Int) + 1] else olR ms fs day s k := by
  unfold olR
  rw [List.range_succ, List.filter_append, List.map_append]
  by_cases h : fitR ms fs day s ((k : Int) + 1) = true
  · rw [if_pos h]; simp [h]
  · rw [if_neg h]; simp [h]
theorem olR_len (ms : List Mk) (fs : List Fd) (day : Int) (s : Sg) (k : Nat) : (olR ms fs day s k).length ≤ k := by
  unfold olR
  rw [List.length_map]
  exact Nat.le_trans (List.length_filter_le _ _) (by simp)
theorem flat_inC : ∀ l : List Int, l.flatMap inC = l.map (Value.int .i64)
  | [] => rfl
  | x :: l => by rw [List.flatMap_cons, flat_inC l]; rfl
theorem own_ia {W : World} {B : Nat} {v : Value} {n : Nat} {l : List Int} (h : W.ownsRow B 3 1 v n (l.flatMap inC)) (hn : l.length = n) (hs : n ≤ 1000) : ∃ A c, v = .slice A n c ∧ IntA W A n c l := by
  rcases h.2 with ⟨h1, h0⟩ | ⟨g, cap, cur, h1, hb, hh, h2, h3, _⟩
  · subst h1
    have e0 : l = [] := List.length_eq_zero_iff.1 (by omega)
    subst e0
    exact ⟨none, 0, by rw [h0], by subst h0; exact IntA.nil W⟩
  · subst h1
    have hr := own_rowC h
    rw [flat_inC] at hr
    exact ⟨some ⟨g, 0, none⟩, cap, rfl, ia_row hr hn.symm hs⟩
def OwR (w : World) (xs : List Int) (e : Ending) (w' : World) : Prop := ∃ A n c, e = .returned (.slice A n c) ∧ IntA w' A n c xs ∧ Kept w w'
set_option maxRecDepth 100000 in
set_option maxHeartbeats 3200000 in
theorem rowners_any (A B : Option Addr) (n c m d : Nat) (ms : List Mk) (fs : List Fd) (day : Int) (s : Sg) (w : World) (hs : SmA w A n c ms B m d fs) :
    Calls Tryz.prog 97 #[.agg #[.slice A n c, .slice B m d], .int .i64 day, .agg #[.int .u8 s.s0, .int .u8 s.s1, .int .u8 s.s2, .int .u8 s.s3, .int .u8 s.s4, .int .u8 s.s5]] w (OwR w (olR ms fs day s 40)) := by
  obtain ⟨i0, hi0, hz0, hz1, hz2⟩ := info_parts info3
  obtain ⟨W0, hW0⟩ : ∃ W0, W0 = (w.alloc (.cells #[.slice A n c, .slice B m d] 25)).alloc (.cells #[.int .u8 s.s0, .int .u8 s.s1, .int .u8 s.s2, .int .u8 s.s3, .int .u8 s.s4, .int .u8 s.s5] 39) := ⟨_, rfl⟩
  have K0 : RowKit.Hid (Kept w W0) := Lib.hid (by rw [hW0]; exact ((Kept.refl _).alloc _).alloc _)
  have R0 : RowKit.Hid (RowC W0 w.heap.size [.slice A n c, .slice B m d]) := Lib.hid (by rw [hW0]; exact (RowC.new w [.slice A n c, .slice B m d] 25).kept ((Kept.refl _).alloc _))
  have RS : RowKit.Hid (RowC W0 (w.heap.size + 1) (sgV s)) := Lib.hid (by rw [hW0]; have h := RowC.new (w.alloc (.cells #[.slice A n c, .slice B m d] 25)) (sgV s) 39; rwa [World.size_alloc] at h)
  have HW := Lib.hid hW0
  have HS := Lib.hid (hs.kept K0.out)
  have HFT : RowKit.Hid (∀ (o : Int) W, Kept W0 W → Calls Tryz.prog 94 #[.agg #[.slice A n c, .slice B m d], .int .i64 day, .agg #[.int .u8 s.s0, .int .u8 s.s1, .int .u8 s.s2, .int .u8 s.s3, .int .u8 s.s4, .int .u8 s.s5], .int .i64 o] W fun e w' => e = .returned (.bool (fitR ms fs day s o)) ∧ Kept W w') := Lib.hid (fun o W hW => rfits_any A B n c m d ms fs day o s W (HS.out.kept hW))
  have a0 := (R0.out 0 _ rfl).1
  have a1 := (R0.out 1 _ rfl).1
  have la := cell_lt a0
  clear hW0 hs
  go_enter Tryz.func97, Tryz.ntmps97
  go_upto_region 1 with (fail)
  rw [← HW.out]
  go_wp2_with fail
  go_loopw [7, 8] (fun v i wr => ∃ k : Nat, k ≤ 40 ∧ i = .int .i64 ((k : Int) + 1) ∧ wr.ownsRow W0.heap.size 3 1 v (olR ms fs day s k).length ((olR ms fs day s k).flatMap inC) ∧ Kept W0 wr) (fun _ i _ => 41 - (intOf i).toNat)
  case atStart => exact ⟨0, by omega, by first | rfl | go_num, ⟨by simp [olR], .inl ⟨rfl, by simp [olR]⟩⟩, Kept.refl _⟩
  case round =>
    obtain ⟨k, hk, rfl, ho, hkr⟩ := hrel
    have HO := Lib.hid ho
    have HKR := Lib.hid hkr
    clear ho hkr a0 a1 la
    by_cases hlt : k < 40
    · have a0 := ((R0.out.kept HKR.out) 0 _ rfl).1
      have a1 := ((R0.out.kept HKR.out) 1 _ rfl).1
      have la := cell_lt a0
      have rs := RS.out.kept HKR.out
      have s0 := (rs 0 _ rfl).1
      have s1 := (rs 1 _ rfl).1
      have s2 := (rs 2 _ rfl).1
      have s3 := (rs 3 _ rfl).1
      have s4 := (rs 4 _ rfl).1
      have s5 := (rs 5 _ rfl).1
      have ls := cell_lt s0
      clear rs
      have HF := Lib.hid (HFT.out ((k : Int) + 1) wr HKR.out)
      have hk40 : ((k : Int) + 1) ≤ 40 := by omega
      have HT := Lib.hid (olR_succ ms fs day s k)
      have hlen := olR_len ms fs day s k
      obtain ⟨N, hN⟩ : ∃ N, (olR ms fs day s k).length = N := ⟨_, rfl⟩
      rw [hN] at hlen
      have HN := Lib.hid hN
      obtain ⟨fb, hfb⟩ : ∃ b, fitR ms fs day s ((k : Int) + 1) = b := ⟨_, rfl⟩
      rw [hfb] at HF HT
      clear hN hfb
      go_wp2_with fail
      refine HF.out.mono ?_
      rintro e w2 ⟨rfl, hk2⟩
      have HK2 := Lib.hid hk2
      clear hk2 a0 a1 la s0 s1 s2 s3 s4 s5 ls
      cases fb with
      | false =>
        go_wp2_with fail
        go_roundw
        case rel => exact ⟨k + 1, by omega, by go_num, by rw [HT.out]; exact own_kept HO.out HK2.out, HKR.out.trans HK2.out⟩
        case measure => simp [intOf]; omega
      | true =>
        have HKA := Lib.hid (HKR.out.trans HK2.out)
        have ho := own_kept HO.out HK2.out
        rw [HN.out] at ho
        have HOA := Lib.hid ho
        have HNW := Lib.hid (news_of (W := w2) (cs := inC ((k : Int) + 1)) (t := 3) (m := w2.heap.size) rfl)
        have HA3 : RowKit.Hid (N + 1 ≤ maxLen) := Lib.hid (by unfold maxLen; omega)
        have HA4 : RowKit.Hid ((N + 1) * 8 ≤ 140737488355328) := Lib.hid (by omega)
        have HB1 : RowKit.Hid (W0.heap.size ≤ (w2.alloc (.cells #[.int .i64 ((k : Int) + 1)] 3)).heap.size) := Lib.hid (by have := HKA.out.size; simp; omega)
        clear ho
        go_wp2_with (at_builtin; refine wpList_append_lies _ rfl (.tmp 18) (.tmp 20) 43 rfl W0.heap.size 3 i0 _ 1 8 Tryz.underlying43 hi0 hz0 hz1 hz2 rfl (by decide) _ N _ rfl (own_kept HOA.out ((Kept.refl _).alloc _)) ⟨w2.heap.size, 0, none⟩ 1 1 (inC ((k : Int) + 1)) rfl rfl HNW.out (fun u hu => by simp [inC] at hu; subst hu; rfl) (by decide) HA3.out HA4.out HB1.out _ rfl ?_; intro g cap w6 hown6 hgrow6 hat6 hlt6)
        have HO6 := Lib.hid hown6
        have HK6 := Lib.hid ((HKA.out.alloc _).grown hgrow6 (fun r hr => (HOA.out.lt r hr).1))
        clear hown6 hgrow6 hat6 hlt6
        go_roundw
        case rel => exact ⟨k + 1, by omega, by go_num, by rw [HT.out, if_pos trivial, List.length_append, HN.out, List.flatMap_append, List.flatMap_singleton]; exact HO6.out, HK6.out⟩
        case measure => simp [intOf]; omega
    · obtain rfl : k = 40 := by omega
      obtain ⟨A5, c5, rfl, hia⟩ := own_ia HO.out rfl (Nat.le_trans (olR_len ms fs day s 40) (by omega))
      have HIA := Lib.hid hia
      clear hia
      go_wp2_with fail
      go_ret
      exact ⟨A5, _, c5, rfl, HIA.out, K0.out.trans HKR.out⟩
def ftW (ms : List Mk) (fs : List Fd) (day : Int) (s : Sg) (o : Int) : Bool × Int := if moE ms fs day o ≠ 0 then (false, moE ms fs day o) else if sightB s = true then (fitR ms fs day s o, 0) else (false, 1)
set_option maxRecDepth 100000 in
set_option maxHeartbeats 3200000 in
theorem rFits_any (A B : Option Addr) (n c m d : Nat) (ms : List Mk) (fs : List Fd) (day o : Int) (s : Sg) (hso : s.ok) (w : World) (hs : SmA w A n c ms B m d fs) :
    Calls Tryz.prog 29 #[.agg #[.slice A n c, .slice B m d], .int .i64 day, .agg #[.int .u8 s.s0, .int .u8 s.s1, .int .u8 s.s2, .int .u8 s.s3, .int .u8 s.s4, .int .u8 s.s5], .int .i64 o] w fun e w' => e = .returned (.tuple #[.bool (ftW ms fs day s o).1, .int .i64 (ftW ms fs day s o).2]) ∧ Kept w w' := by
  obtain ⟨W0, hW0⟩ : ∃ W0, W0 = (w.alloc (.cells #[.slice A n c, .slice B m d] 25)).alloc (.cells #[.int .u8 s.s0, .int .u8 s.s1, .int .u8 s.s2, .int .u8 s.s3, .int .u8 s.s4, .int .u8 s.s5] 39) := ⟨_, rfl⟩
  have K0 : RowKit.Hid (Kept w W0) := Lib.hid (by rw [hW0]; exact ((Kept.refl _).alloc _).alloc _)
  have R0 : RowKit.Hid (RowC W0 w.heap.size [.slice A n c, .slice B m d]) := Lib.hid (by rw [hW0]; exact (RowC.new w [.slice A n c, .slice B m d] 25).kept ((Kept.refl _).alloc _))
  have RS : RowKit.Hid (RowC W0 (w.heap.size + 1) (sgV s)) := Lib.hid (by rw [hW0]; have h := RowC.new (w.alloc (.cells #[.slice A n c, .slice B m d] 25)) (sgV s) 39; rwa [World.size_alloc] at h)
  have HW := Lib.hid hW0
  have HS := Lib.hid (hs.kept K0.out)
  have HFT : RowKit.Hid (∀ W, Kept W0 W → Calls Tryz.prog 94 #[.agg #[.slice A n c, .slice B m d], .int .i64 day, .agg #[.int .u8 s.s0, .int .u8 s.s1, .int .u8 s.s2, .int .u8 s.s3, .int .u8 s.s4, .int .u8 s.s5], .int .i64 o] W fun e w' => e = .returned (.bool (fitR ms fs day s o)) ∧ Kept W w') := Lib.hid (fun W hW => rfits_any A B n c m d ms fs day o s W (HS.out.kept hW))
  have HIS : RowKit.Hid (∀ W, Calls Tryz.prog 93 #[.agg #[.int .u8 s.s0, .int .u8 s.s1, .int .u8 s.s2, .int .u8 s.s3, .int .u8 s.s4, .int .u8 s.s5]] W fun e w' => e = .returned (.bool (sightB s)) ∧ Kept W w') := Lib.hid (fun W => risSight_any s hso W)
  obtain ⟨Wb, hWb⟩ : ∃ Wb, Wb = W0.alloc (.cells #[.int .i64 o] 3) := ⟨_, rfl⟩
  have kb : Kept W0 Wb := by rw [hWb]; exact (Kept.refl _).alloc _
  have hib : IntA Wb (some ⟨W0.heap.size, 0, none⟩) 1 1 [o] := ia_row (l := [o]) (by rw [hWb]; exact RowC.new W0 [.int .i64 o] 3) rfl (by omega)
  have HST := Lib.hid (rstart_any A B _ n c m d 1 1 ms fs day [o] Wb (HS.out.kept kb) hib (by omega))
  obtain ⟨E, hE⟩ : ∃ E, moE ms fs day o = E := ⟨_, rfl⟩
  rw [moE_st, hE] at HST
  have HE := Lib.hid hE
  have HWB := Lib.hid hWb
  have KB := Lib.hid kb
  clear hE hWb kb hib
  have a0 := (R0.out 0 _ rfl).1
  have a1 := (R0.out 1 _ rfl).1
  have la := cell_lt a0
  clear hW0 hs
  go_enter Tryz.func29, Tryz.ntmps29
  go_upto_region 1 with (fail)
  rw [← HW.out]
  go_wp2_with fail
  rw [← HWB.out]
  refine HST.out.mono ?_
  rintro e w1 ⟨rfl, hk1⟩
  have K1 := Lib.hid (KB.out.trans hk1)
  have R1 := Lib.hid (R0.out.kept K1.out)
  have RS1 := Lib.hid (RS.out.kept K1.out)
  clear hk1 a0 a1 la
  by_cases h0 : E = 0
  rotate_left
  · have h1 : (E == 0) = false := by simpa using h0
    have HF : RowKit.Hid (ftW ms fs day s o = (false, E)) := Lib.hid (by unfold ftW; rw [HE.out, if_pos h0])
    clear h0
    go_wp2_with fail
    go_ret2
    exact ⟨by rw [HF.out]; rfl, K0.out.trans K1.out⟩
  subst h0
  have s0 := (RS1.out 0 _ rfl).1
  have s1 := (RS1.out 1 _ rfl).1
  have s2 := (RS1.out 2 _ rfl).1
  have s3 := (RS1.out 3 _ rfl).1
  have s4 := (RS1.out 4 _ rfl).1
  have s5 := (RS1.out 5 _ rfl).1
  have ls := cell_lt s0
  obtain ⟨bs, hbs⟩ : ∃ b, sightB s = b := ⟨_, rfl⟩
  rw [hbs] at HIS
  have HBS := Lib.hid hbs
  clear hbs
  go_wp2_with fail
  refine (HIS.out _).mono ?_
  rintro e w2 ⟨rfl, hk2⟩
  have K2 := Lib.hid (K1.out.trans hk2)
  have r2 := R1.out.kept hk2
  have rs2 := RS1.out.kept hk2
  clear hk2 s0 s1 s2 s3 s4 s5 ls
  cases bs with
  | false =>
    have HF : RowKit.Hid (ftW ms fs day s o = (false, 1)) := Lib.hid (by unfold ftW; rw [if_neg (by rw [HE.out]; simp), HBS.out]; rfl)
    go_wp2_with fail
    go_ret2
    exact ⟨by rw [HF.out]; rfl, K0.out.trans K2.out⟩
  | true =>
    have HF : RowKit.Hid (ftW ms fs day s o = (fitR ms fs day s o, 0)) := Lib.hid (by unfold ftW; rw [if_neg (by rw [HE.out]; simp), HBS.out]; rfl)
    have a0 := (r2 0 _ rfl).1
    have a1 := (r2 1 _ rfl).1
    have la := cell_lt a0
    have s0 := (rs2 0 _ rfl).1
    have s1 := (rs2 1 _ rfl).1
    have s2 := (rs2 2 _ rfl).1
    have s3 := (rs2 3 _ rfl).1
    have s4 := (rs2 4 _ rfl).1
    have s5 := (rs2 5 _ rfl).1
    have ls := cell_lt s0
    clear r2 rs2
    obtain ⟨fb, hfb⟩ : ∃ b, fitR ms fs day s o = b := ⟨_, rfl⟩
    rw [hfb] at HFT HF
    clear hfb
    go_wp2_with fail
    refine (HFT.out _ K2.out).mono ?_
    rintro e w3 ⟨rfl, hk3⟩
    have K3 := Lib.hid (K2.out.trans hk3)
    clear hk3
    go_wp2_with fail
    go_ret2
    exact ⟨by rw [HF.out]; rfl, K0.out.trans K3.out⟩
def owW (ms : List Mk) (fs : List Fd) (day : Int) (s : Sg) : List Int × Int := if inE ms fs day ≠ 0 then ([], inE ms fs day) else if sightB s = true then (olR ms fs day s 40, 0) else ([], 1)
def OwW (w : World) (ms : List Mk) (fs : List Fd) (day : Int) (s : Sg) (e : Ending) (w' : World) : Prop := ∃ A n c, e = .returned (.tuple #[.slice A n c, .int .i64 (owW ms fs day s).2]) ∧ IntA w' A n c (owW ms fs day s).1 ∧ Kept w w'
set_option maxRecDepth 100000 in
set_option maxHeartbeats 3200000 in
theorem rOwners_any (A B : Option Addr) (n c m d : Nat) (ms : List Mk) (fs : List Fd) (day : Int) (s : Sg) (hso : s.ok) (w : World) (hs : SmA w A n c ms B m d fs) :
    Calls Tryz.prog 31 #[.agg #[.slice A n c, .slice B m d], .int .i64 day, .agg #[.int .u8 s.s0, .int .u8 s.s1, .int .u8 s.s2, .int .u8 s.s3, .int .u8 s.s4, .int .u8 s.s5]] w (OwW w ms fs day s) := by
  obtain ⟨W0, hW0⟩ : ∃ W0, W0 = (w.alloc (.cells #[.slice A n c, .slice B m d] 25)).alloc (.cells #[.int .u8 s.s0, .int .u8 s.s1, .int .u8 s.s2, .int .u8 s.s3, .int .u8 s.s4, .int .u8 s.s5] 39) := ⟨_, rfl⟩
  have K0 : RowKit.Hid (Kept w W0) := Lib.hid (by rw [hW0]; exact ((Kept.refl _).alloc _).alloc _)
  have R0 : RowKit.Hid (RowC W0 w.heap.size [.slice A n c, .slice B m d]) := Lib.hid (by rw [hW0]; exact (RowC.new w [.slice A n c, .slice B m d] 25).kept ((Kept.refl _).alloc _))
  have RS : RowKit.Hid (RowC W0 (w.heap.size + 1) (sgV s)) := Lib.hid (by rw [hW0]; have h := RowC.new (w.alloc (.cells #[.slice A n c, .slice B m d] 25)) (sgV s) 39; rwa [World.size_alloc] at h)
  have HW := Lib.hid hW0
  have HS := Lib.hid (hs.kept K0.out)
  have HOW : RowKit.Hid (∀ W, Kept W0 W → Calls Tryz.prog 97 #[.agg #[.slice A n c, .slice B m d], .int .i64 day, .agg #[.int .u8 s.s0, .int .u8 s.s1, .int .u8 s.s2, .int .u8 s.s3, .int .u8 s.s4, .int .u8 s.s5]] W (OwR W (olR ms fs day s 40))) := Lib.hid (fun W hW => rowners_any A B n c m d ms fs day s W (HS.out.kept hW))
  have HIS : RowKit.Hid (∀ W, Calls Tryz.prog 93 #[.agg #[.int .u8 s.s0, .int .u8 s.s1, .int .u8 s.s2, .int .u8 s.s3, .int .u8 s.s4, .int .u8 s.s5]] W fun e w' => e = .returned (.bool (sightB s)) ∧ Kept W w') := Lib.hid (fun W => risSight_any s hso W)
  have HST := Lib.hid (rstart_any A B none n c m d 0 0 ms fs day [] W0 HS.out (IntA.nil W0) (by omega))
  obtain ⟨E, hE⟩ : ∃ E, inE ms fs day = E := ⟨_, rfl⟩
  rw [stE_nil, hE] at HST
  have HE := Lib.hid hE
  clear hE
  have a0 := (R0.out 0 _ rfl).1
  have a1 := (R0.out 1 _ rfl).1
  have la := cell_lt a0
  clear hW0 hs
  go_enter Tryz.func31, Tryz.ntmps31
  go_upto_region 1 with (fail)
  rw [← HW.out]
  go_wp2_with fail
  refine HST.out.mono ?_
  rintro e w1 ⟨rfl, hk1⟩
  have K1 := Lib.hid hk1
  have R1 := Lib.hid (R0.out.kept K1.out)
  have RS1 := Lib.hid (RS.out.kept K1.out)
  clear hk1 a0 a1 la
  by_cases h0 : E = 0
  rotate_left
  · have h1 : (E == 0) = false := by simpa using h0
    have HF : RowKit.Hid (owW ms fs day s = ([], E)) := Lib.hid (by unfold owW; rw [HE.out, if_pos h0])
    clear h0
    go_wp2_with fail
    go_ret2
    exact ⟨none, 0, 0, by rw [HF.out]; rfl, by rw [HF.out]; exact IntA.nil _, K0.out.trans K1.out⟩
  subst h0
  have s0 := (RS1.out 0 _ rfl).1
  have s1 := (RS1.out 1 _ rfl).1
  have s2 := (RS1.out 2 _ rfl).1
  have s3 := (RS1.out 3 _ rfl).1
  have s4 := (RS1.out 4 _ rfl).1
  have s5 := (RS1.out 5 _ rfl).1
  have ls := cell_lt s0
  obtain ⟨bs, hbs⟩ : ∃ b, sightB s = b := ⟨_, rfl⟩
  rw [hbs] at HIS
  have HBS := Lib.hid hbs
  clear hbs
  go_wp2_with fail
  refine (HIS.out _).mono ?_
  rintro e w2 ⟨rfl, hk2⟩
  have K2 := Lib.hid (K1.out.trans hk2)
  have r2 := R1.out.kept hk2
  have rs2 := RS1.out.kept hk2
  clear hk2 s0 s1 s2 s3 s4 s5 ls
  cases bs with
  | false =>
    have HF : RowKit.Hid (owW ms fs day s = ([], 1)) := Lib.hid (by unfold owW; rw [if_neg (by rw [HE.out]; simp), HBS.out]; rfl)
    go_wp2_with fail
    go_ret2
    exact ⟨none, 0, 0, by rw [HF.out]; rfl, by rw [HF.out]; exact IntA.nil _, K0.out.trans K2.out⟩
  | true =>
    have HF : RowKit.Hid (owW ms fs day s = (olR ms fs day s 40, 0)) := Lib.hid (by unfold owW; rw [if_neg (by rw [HE.out]; simp), HBS.out]; rfl)
    have a0 := (r2 0 _ rfl).1
    have a1 := (r2 1 _ rfl).1
    have la := cell_lt a0
    have s0 := (rs2 0 _ rfl).1
    have s1 := (rs2 1 _ rfl).1
    have s2 := (rs2 2 _ rfl).1
    have s3 := (rs2 3 _ rfl).1
    have s4 := (rs2 4 _ rfl).1
    have s5 := (rs2 5 _ rfl).1
    have ls := cell_lt s0
    clear r2 rs2
    go_wp2_with fail
    refine (HOW.out _ K2.out).mono ?_
    rintro e w3 ⟨A5, n5, c5, rfl, hia, hk3⟩
    have K3 := Lib.hid (K2.out.trans hk3)
    have HIA := Lib.hid hia
    clear hk3 hia
    go_wp2_with fail
    go_ret2
    exact ⟨A5, n5, c5, by rw [HF.out]; rfl, by rw [HF.out]; exact HIA.out, K0.out.trans K3.out⟩
end Go.Proofs.YtologmoanaccpaaGreatDoor
