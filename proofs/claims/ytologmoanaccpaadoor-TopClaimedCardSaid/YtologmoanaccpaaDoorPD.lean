/-
  the law TopClaimed
  the law TopClaimed: the walk
-/
import Derived.Test.YtologmoanaccpaaDoorPc
import Derived.Test.YtologmoanaccpaaDoorTK
import Derived.Test.YtologmoanaccpaaDoorNe
namespace Go.Proofs.YtologmoanaccpaaDoor
set_option linter.all false
open Go.RowKit Go.Shelf

theorem info54 : (Tryd.prog.info? 54).map (fun i => (i.zero, i.size, i.bytes)) = some (some (.agg #[.int .i64 0, .int .i64 0]), 2, 16) := by kernel_rfl
theorem info42 : (Tryd.prog.info? 42).map (fun i => (i.zero, i.size, i.bytes)) = some (some (.agg #[.int .i64 0, .int .i64 0, .bool false]), 3, 24) := by kernel_rfl
def sureN (ms : List Mk) (fs : List Fd) (day : Int) (found : List Sg) (x : Cl) : Nat := cntN (sureB ms fs day x.own.toNat) found
def perN (ms : List Mk) (fs : List Fd) (day : Int) (found : List Sg) (x : Cl) : Nat := cntN (perB ms fs day x.own.toNat) found
def ownC (ms : List Mk) (fs : List Fd) (day : Int) (found : List Sg) (cls : List Cl) : List Cl := cls.map fun x => ⟨x.own, sureN ms fs day found x⟩
def allI (ms : List Mk) (fs : List Fd) (day : Int) (found : List Sg) (cls : List Cl) : List Tly.Iv := cls.map fun x => ⟨sureN ms fs day found x, sureN ms fs day found x + perN ms fs day found x, true⟩
theorem sureB_eq (ms : List Mk) (fs : List Fd) (day : Int) (o : Nat) (s : Sg) : sureB ms fs day o s = (ownD ms fs day s == 2 ^ o) := by
  unfold sureB
  rw [Bool.eq_iff_iff]
  simp only [beq_iff_eq]
  rw [show ((2 : Int) ^ o) = ((2 ^ o : Nat) : Int) by push_cast; rfl]
  omega
theorem sure_per (ms : List Mk) (fs : List Fd) (day : Int) (o : Nat) : ∀ found : List Sg, cntN (sureB ms fs day o) found + cntN (perB ms fs day o) found = (found.filter fun s => (ownD ms fs day s).testBit o).length
  | [] => rfl
  | s :: l => by
    have ih := sure_per ms fs day o l
    unfold cntN at ih ⊢
    rw [List.filter_cons, List.filter_cons, List.filter_cons]
    unfold perB
    by_cases h : sureB ms fs day o s = true
    · have hb : (ownD ms fs day s).testBit o = true := by
        rw [sureB_eq] at h
        have : ownD ms fs day s = 2 ^ o := by simpa using h
        rw [this, Nat.testBit_two_pow]; simp
      rw [h, hb]
      simp
      unfold perB at ih
      omega
    · have h' : sureB ms fs day o s = false := by simpa using h
      rw [h']
      by_cases hb : (ownD ms fs day s).testBit o = true
      · rw [hb]
        simp
        unfold perB at ih
        omega
      · have hb' : (ownD ms fs day s).testBit o = false := by simpa using hb
        rw [hb']
        simp
        unfold perB at ih
        omega
theorem claimed_math {ms : List Mk} {fs : List Fd} {day : Int} {found : List Sg} {cls : List Cl} (h : chE ms fs day found cls = 0) :
    chE ms fs day found (ownC ms fs day found cls) = 0 ∧ ¬ ShA (fitsN ms fs day found (ownC ms fs day found cls)) (clN (ownC ms fs day found cls)) (wtL (ownC ms fs day found cls)) ∧
    (∀ ow, MetA (fitsN ms fs day found cls) (clN cls) (wtL cls) ow → ∀ x ∈ cls, x.num ≤ ((sureN ms fs day found x + perN ms fs day found x : Nat) : Int)) ∧
    ((cls.map fun x => sureN ms fs day found x).sum ≤ found.length) ∧ found.length ≤ 60 := by
  obtain ⟨e1, e2, e3, e4⟩ := fstE_four h
  obtain ⟨c1, c2, c3⟩ := cl_ok e4
  have hl := (fn_ok e3).1
  have hp : ∀ x ∈ cls, 1 ≤ x.own ∧ x.own ≤ 40 := fun x hx => (claim_bd (c2 x hx)).1
  have hon : (ownC ms fs day found cls).map Cl.own = cls.map Cl.own := by unfold ownC; rw [List.map_map]; rfl
  have hmem : ∀ y ∈ ownC ms fs day found cls, ∃ x ∈ cls, y = ⟨x.own, sureN ms fs day found x⟩ := fun y hy => by
    unfold ownC at hy
    obtain ⟨x, hx, rfl⟩ := List.mem_map.1 hy
    exact ⟨x, hx, rfl⟩
  have hp' : ∀ y ∈ ownC ms fs day found cls, 1 ≤ y.own ∧ y.own ≤ 40 := fun y hy => by obtain ⟨x, hx, rfl⟩ := hmem y hy; exact hp x hx
  have hs60 : ∀ x, sureN ms fs day found x ≤ 60 := fun x => Nat.le_trans (cntN_le _ _) hl
  refine ⟨?_, ?_, fun ow hm x hx => ?_, ?_, hl⟩
  · have h4 : clE (ownC ms fs day found cls) = 0 := by
      unfold clE
      rw [if_neg (by unfold ownC; rw [List.length_map]; omega), if_pos (by
        rw [List.all_eq_true]
        intro y hy
        obtain ⟨x, hx, rfl⟩ := hmem y hy
        unfold claimB
        rw [Bool.and_eq_true, inB_iff, inB_iff]
        have := hp x hx
        have := hs60 x
        dsimp only
        exact ⟨⟨by omega, by omega⟩, by omega, by omega⟩), hon, if_neg (by unfold repB; simp [c3])]
    unfold chE
    rw [e1, e2, e3, h4]
    rfl
  · refine own_met (D := ownD ms fs day) (found := found) (by rw [hon]; exact c3) hp' fun y hy => ?_
    obtain ⟨x, hx, rfl⟩ := hmem y hy
    show ((sureN ms fs day found x : Nat) : Int) = _
    unfold sureN cntN
    rw [show sureB ms fs day x.own.toNat = fun s => (ownD ms fs day s == 2 ^ x.own.toNat) from funext (sureB_eq ms fs day x.own.toNat)]
  · have := claim_le (D := ownD ms fs day) (found := found) c3 hp hm hx
    unfold sureN perN
    rw [sure_per]
    exact this
  · have := sure_sum (ownD ms fs day) found cls (nodup_nat c3 fun x hx => (hp x hx).1)
    refine Nat.le_trans (Nat.le_of_eq ?_) this
    congr 1
    apply List.map_congr_left
    intro x _
    unfold sureN cntN
    rw [show sureB ms fs day x.own.toNat = fun s => (ownD ms fs day s == 2 ^ x.own.toNat) from funext (sureB_eq ms fs day x.own.toNat)]
theorem sum_nat {α : Type} (f : α → Nat) (l : List α) : ((l.map fun x => ((f x : Nat) : Int)).sum) = (((l.map f).sum : Nat) : Int) := by
  induction l with
  | nil => rfl
  | cons x l ih => rw [List.map_cons, List.map_cons, List.sum_cons, List.sum_cons, ih]; omega
theorem sum_bd {α : Type} (f : α → Nat) (B : Nat) : ∀ l : List α, (∀ x ∈ l, f x ≤ B) → (l.map f).sum ≤ l.length * B
  | [], _ => by simp
  | x :: l, h => by
    have h1 := h x (List.mem_cons_self ..)
    have h2 := sum_bd f B l fun y hy => h y (List.mem_cons_of_mem _ hy)
    rw [List.map_cons, List.sum_cons, List.length_cons, Nat.succ_mul]
    omega
theorem sum_mono {α : Type} (f g : α → Nat) : ∀ l : List α, (∀ x, f x ≤ g x) → (l.map f).sum ≤ (l.map g).sum
  | [], _ => by simp
  | x :: l, h => by
    have h1 := h x
    have h2 := sum_mono f g l h
    rw [List.map_cons, List.map_cons, List.sum_cons, List.sum_cons]
    omega
theorem sum_math {ms : List Mk} {fs : List Fd} {day : Int} {found : List Sg} {cls : List Cl} (h : chE ms fs day found cls = 0) :
    (Tly.sumX (allI ms fs day found cls)).2 = 0 ∧ (Tly.sumX (allI ms fs day found cls)).1.2.2 = true ∧ (Tly.sumX (allI ms fs day found cls)).1.1 ≤ (found.length : Int) := by
  obtain ⟨e1, e2, e3, e4⟩ := fstE_four h
  obtain ⟨c1, c2, c3⟩ := cl_ok e4
  obtain ⟨_, _, _, hsum, hl⟩ := claimed_math h
  have hs60 : ∀ x, sureN ms fs day found x ≤ 60 := fun x => Nat.le_trans (cntN_le _ _) hl
  have hp60 : ∀ x, perN ms fs day found x ≤ 60 := fun x => Nat.le_trans (cntN_le _ _) hl
  have hlo : Tly.ivLo (allI ms fs day found cls) = (((cls.map fun x => sureN ms fs day found x).sum : Nat) : Int) := by
    unfold Tly.ivLo allI
    rw [List.map_map, ← sum_nat]
    rfl
  have hhi : Tly.ivHi (allI ms fs day found cls) = (((cls.map fun x => sureN ms fs day found x + perN ms fs day found x).sum : Nat) : Int) := by
    unfold Tly.ivHi allI
    rw [List.map_map, ← sum_nat]
    congr 1
  have hbd := sum_bd (fun x => sureN ms fs day found x + perN ms fs day found x) 120 cls (fun x _ => by have := hs60 x; have := hp60 x; omega)
  have hle : (cls.map fun x => sureN ms fs day found x).sum ≤ (cls.map fun x => sureN ms fs day found x + perN ms fs day found x).sum := by
    exact sum_mono _ _ cls fun x => by omega
  have hok : Tly.ivOk (allI ms fs day found cls) = true := by
    unfold Tly.ivOk allI
    rw [List.all_eq_true]
    intro y hy
    obtain ⟨x, hx, rfl⟩ := List.mem_map.1 hy
    have := hs60 x
    have := hp60 x
    unfold Tly.validB
    simp [inB]
    right
    omega
  have hso : Tly.ivSo (allI ms fs day found cls) = true := by
    unfold Tly.ivSo allI
    rw [List.all_eq_true]
    intro y hy
    obtain ⟨x, hx, rfl⟩ := List.mem_map.1 hy
    rfl
  have hb2 : cls.length * 120 ≤ 1200 := by omega
  unfold Tly.sumX
  rw [if_neg (by unfold allI; rw [List.length_map]; omega), if_pos hok, if_pos hso, if_neg (by rw [hhi]; omega), hlo, hhi]
  unfold Tly.spI Tly.spL Tly.spH Tly.spS
  dsimp only
  rw [if_pos (by omega)]
  refine ⟨rfl, by simp; omega, by omega⟩
end Go.Proofs.YtologmoanaccpaaDoor

namespace Go.Proofs.YtologmoanaccpaaDoor
set_option linter.all false
open Go.RowKit Go.Shelf

set_option maxRecDepth 100000 in
set_option maxHeartbeats 6400000 in
theorem claimed_any (A B C D : Option Addr) (n c m d p q u v : Nat) (ms : List Mk) (fs : List Fd) (day : Int) (found : List Sg) (cls : List Cl) (w : World) (hs : SmA w A n c ms B m d fs) (hfo : SlA sgV 6 Sg.ok w C p q found) (hcl : SlA clC 2 Cl.ok w D u v cls) (hE : EnvT w) :
    Calls Tryd.prog 4 #[.agg #[.slice A n c, .slice B m d], .int .i64 day, .slice C p q, .slice D u v] w fun e w' => e = .returned (.bool true) ∧ Kept w w' := by
  obtain ⟨W0, hW0⟩ : ∃ W0, W0 = w.alloc (.cells #[.slice A n c, .slice B m d] 25) := ⟨_, rfl⟩
  have K0 : RowKit.Hid (Kept w W0) := Lib.hid (by rw [hW0]; exact (Kept.refl _).alloc _)
  have R0 : RowKit.Hid (RowC W0 w.heap.size [.slice A n c, .slice B m d]) := Lib.hid (by rw [hW0]; exact RowC.new w [.slice A n c, .slice B m d] 25)
  have HW := Lib.hid hW0
  have HS := Lib.hid (hs.kept K0.out)
  have HFO := Lib.hid (hfo.kept K0.out)
  have HCL := Lib.hid (hcl.kept K0.out)
  have HE := Lib.hid (hE.kept K0.out)
  have hnc := hs.1.2.1
  have hcm := hs.1.2.2.1
  have hmd := hs.2.2.1
  have hdm := hs.2.2.2.1
  have hpq := hfo.2.1
  have hqm := hfo.2.2.1
  have huv := hcl.2.1
  have hvm := hcl.2.2.1
  have HTL : RowKit.Hid (∀ W, Calls Tryd.prog 5 #[] W fun e w' => e = .returned (.bool true) ∧ Kept W w') := Lib.hid told_any
  obtain ⟨i0, hi0, hz0, hz1, hz2⟩ := info_parts info54
  obtain ⟨i1, hi1, hy0, hy1, hy2⟩ := info_parts info42
  have a0 := (R0.out 0 _ rfl).1
  have a1 := (R0.out 1 _ rfl).1
  have la := cell_lt a0
  clear hW0 hs hfo hcl hE
  have HBAD : n ≤ 40 ∧ m ≤ 20 ∧ p ≤ 20 ∧ u ≤ 8 ∨ 40 < n ∨ (n ≤ 40 ∧ 20 < m) ∨ (n ≤ 40 ∧ m ≤ 20 ∧ 20 < p) ∨ (n ≤ 40 ∧ m ≤ 20 ∧ p ≤ 20 ∧ 8 < u) := by omega
  rcases HBAD with ⟨g1, g2, g3, g4⟩ | HBAD
  rotate_left
  · rcases HBAD with g1 | ⟨g1, g2⟩ | ⟨g1, g2, g3⟩ | ⟨g1, g2, g3, g4⟩
    · go_enter Tryd.func4, Tryd.ntmps4
      go_upto_region 1 with (fail)
      rw [← HW.out]
      go_wp2_with fail
      refine (HTL.out _).mono ?_
      rintro e w1 ⟨rfl, hk1⟩
      have HK1 := Lib.hid hk1
      clear hk1
      go_wp2
      go_ret
      exact ⟨rfl, K0.out.trans HK1.out⟩
    · go_enter Tryd.func4, Tryd.ntmps4
      go_upto_region 1 with (fail)
      rw [← HW.out]
      go_wp2_with fail
      refine (HTL.out _).mono ?_
      rintro e w1 ⟨rfl, hk1⟩
      have HK1 := Lib.hid hk1
      clear hk1
      go_wp2
      go_ret
      exact ⟨rfl, K0.out.trans HK1.out⟩
    · go_enter Tryd.func4, Tryd.ntmps4
      go_upto_region 1 with (fail)
      rw [← HW.out]
      go_wp2_with fail
      refine (HTL.out _).mono ?_
      rintro e w1 ⟨rfl, hk1⟩
      have HK1 := Lib.hid hk1
      clear hk1
      go_wp2
      go_ret
      exact ⟨rfl, K0.out.trans HK1.out⟩
    · go_enter Tryd.func4, Tryd.ntmps4
      go_upto_region 1 with (fail)
      rw [← HW.out]
      go_wp2_with fail
      refine (HTL.out _).mono ?_
      rintro e w1 ⟨rfl, hk1⟩
      have HK1 := Lib.hid hk1
      clear hk1
      go_wp2
      go_ret
      exact ⟨rfl, K0.out.trans HK1.out⟩
  · have HAS : RowKit.Hid (∀ (A' : Option Addr) (u' v' : Nat) (cl' : List Cl) (W : World), Kept W0 W → SlA clC 2 Cl.ok W A' u' v' cl' → Calls Tryd.prog 11 #[.agg #[.slice A n c, .slice B m d], .int .i64 day, .slice C p q, .slice A' u' v'] W fun e w' =>
        ((chE ms fs day found cl' ≠ 0 ∧ e = .returned (.tuple #[.slice none 0 0, .bool false, .int .i64 (chE ms fs day found cl')])) ∨
         (chE ms fs day found cl' = 0 ∧ ∃ X nx cx ib, e = .returned (.tuple #[.slice X nx cx, .bool ib, .int .i64 0]) ∧ (ib = true → ∃ ow, MetA (fitsN ms fs day found cl') (clN cl') (wtL cl') ow) ∧ (ib = false → ShA (fitsN ms fs day found cl') (clN cl') (wtL cl')))) ∧ Kept W w') := Lib.hid (fun A' u' v' cl' W hW hcl' => by
      refine (assign_any A B C A' n c m d p q u' v' ms fs day found cl' W (HS.out.kept hW) (HFO.out.kept hW) hcl' (HE.out.kept hW)).mono ?_
      rintro e w' ⟨⟨h0, rfl⟩ | ⟨h0, ⟨hb, ow, rfl, _, hf, _⟩ | ⟨rfl, hsh⟩⟩, hk⟩
      · exact ⟨.inl ⟨h0, rfl⟩, hk⟩
      · exact ⟨.inr ⟨h0, _, _, _, true, rfl, fun _ => ⟨ow, hf.1⟩, fun h => by cases h⟩, hk⟩
      · exact ⟨.inr ⟨h0, _, _, _, false, rfl, (fun h => by cases h), fun _ => hsh⟩, hk⟩)
    go_enter Tryd.func4, Tryd.ntmps4
    go_upto_region 1 with (fail)
    rw [← HW.out]
    go_wp2_with fail
    refine (HAS.out D u v cls _ (Kept.refl _) HCL.out).mono ?_
    rintro e w1 ⟨⟨h0, rfl⟩ | ⟨h0, X, nx, cx, ib, rfl, hib, _⟩, hk1⟩
    · have HK1 := Lib.hid hk1
      have hne : (chE ms fs day found cls != 0) = true := by simpa using h0
      generalize chE ms fs day found cls = E at hne
      clear hk1 h0 a0 a1 la
      go_wp2_with fail
      refine (HTL.out _).mono ?_
      rintro e wt ⟨rfl, hkt⟩
      have HKT := Lib.hid hkt
      clear hkt
      go_wp2
      go_ret
      exact ⟨rfl, K0.out.trans ((HK1.out).trans HKT.out)⟩
    · have HK1 := Lib.hid hk1
      obtain ⟨m1, m2, m3, m4, m5⟩ := claimed_math h0
      have HM1 := Lib.hid m1
      have HM2 := Lib.hid m2
      have HIB : RowKit.Hid (ib = true → ∀ x ∈ cls, x.num ≤ ((sureN ms fs day found x + perN ms fs day found x : Nat) : Int)) := Lib.hid (fun h => by obtain ⟨ow, hm⟩ := hib h; exact m3 ow hm)
      have HSM := Lib.hid (sum_math h0)
      obtain ⟨e1, e2, e3, e4⟩ := fstE_four h0
      have HCO := Lib.hid (cl_ok e4)
      have HRG : RowKit.Hid (∀ x ∈ cls, ∀ W, Kept W0 W → Calls Tryd.prog 6 #[.agg #[.slice A n c, .slice B m d], .int .i64 day, .slice C p q, .int .i64 x.own] W fun e w' => e = .returned (.tuple #[.int .i64 ((sureN ms fs day found x : Nat) : Int), .int .i64 ((perN ms fs day found x : Nat) : Int), .int .i64 0]) ∧ Kept W w') := Lib.hid (fun x hx W hW => by
        refine (range_any A B C n c m d p q ms fs day x.own found W (HS.out.kept hW) (HFO.out.kept hW)).mono ?_
        have hb := (claim_bd (HCO.out.2.1 x hx)).1
        have hr0 : rgE ms fs day found x.own = 0 := by
          unfold rgE
          rw [e1, e2, e3, inB_iff.2 hb]
          rfl
        rintro e w' ⟨⟨h1, _⟩ | ⟨h1, rfl⟩, hk⟩
        · exact absurd hr0 h1
        · exact ⟨rfl, hk⟩)
      have hs60 : ∀ x, sureN ms fs day found x ≤ 60 := fun x => Nat.le_trans (cntN_le _ _) m5
      have hp60 : ∀ x, perN ms fs day found x ≤ 60 := fun x => Nat.le_trans (cntN_le _ _) m5
      have HS60 := Lib.hid hs60
      have HP60 := Lib.hid hp60
      have HR1 := Lib.hid (R0.out.kept hk1)
      clear h0 hib m1 m2 m3 m4 m5 e1 e2 e3 e4 hs60 hp60 a0 a1 la hk1
      go_wp2_with fail
      go_loopw [12, 13, 14] (fun v12 v13 i wr => ∃ k : Nat, k ≤ u ∧ i = .int .i64 k ∧ wr.ownsRow w1.heap.size 54 2 v12 k (((ownC ms fs day found cls).take k).flatMap clC) ∧ wr.ownsRow w1.heap.size 42 3 v13 k (((allI ms fs day found cls).take k).flatMap Tly.ivCells) ∧ Apart v12 v13 ∧ Kept w1 wr) (fun _ _ i _ => u - (intOf i).toNat)
      case atStart => exact ⟨0, by omega, by first | rfl | go_num, World.ownsRow_nil _ _ _ _, World.ownsRow_nil _ _ _ _, (fun g hg => by simp [Value.ownBlock] at hg), Kept.refl _⟩
      case round =>
        obtain ⟨k, hk, rfl, hr12, hr13, hap, hkr⟩ := hrel
        have H12 := Lib.hid hr12
        have H13 := Lib.hid hr13
        have HAP := Lib.hid hap
        have HKR := Lib.hid hkr
        clear hr12 hr13 hap hkr
        by_cases hlt : k < u
        · obtain ⟨x, hx⟩ : ∃ x, cls[k]? = some x := ⟨_, List.getElem?_eq_getElem (by rw [HCL.out.1]; exact hlt)⟩
          obtain ⟨b, off, hA, ht⟩ := HCL.out.2.2.2.2 (by omega)
          subst hA
          have kk0 : Kept W0 wr := HK1.out.trans HKR.out
          have CX : RowKit.Hid (∀ W, Kept W0 W → W.cell? ⟨b, off + k * 2, none⟩ = some (.int .i64 x.own) ∧ W.cell? ⟨b, off + k * 2 + 1, none⟩ = some (.int .i64 x.num)) := Lib.hid (fun W hW => by
            have h0 := ht k x hx 0 _ rfl
            have h1 := ht k x hx 1 _ rfl
            rw [Nat.add_zero] at h0
            exact ⟨(hW.cells _ _ (cell_lt h0)).trans h0, (hW.cells _ _ (cell_lt h1)).trans h1⟩)
          have hxm := List.mem_of_getElem? hx
          have HR := Lib.hid (HRG.out x hxm)
          have hIB := HIB.out
          have hS60 := HS60.out x
          have hP60 := HP60.out x
          have HT1 : RowKit.Hid (((ownC ms fs day found cls).take (k + 1)).flatMap clC = ((ownC ms fs day found cls).take k).flatMap clC ++ clC ⟨x.own, sureN ms fs day found x⟩) := Lib.hid (by
            have h : (ownC ms fs day found cls)[k]? = some ⟨x.own, sureN ms fs day found x⟩ := by unfold ownC; rw [List.getElem?_map, hx]; rfl
            rw [take_snoc' h]; simp)
          have HT2 : RowKit.Hid (((allI ms fs day found cls).take (k + 1)).flatMap Tly.ivCells = ((allI ms fs day found cls).take k).flatMap Tly.ivCells ++ Tly.ivCells ⟨sureN ms fs day found x, sureN ms fs day found x + perN ms fs day found x, true⟩) := Lib.hid (by
            have h : (allI ms fs day found cls)[k]? = some ⟨sureN ms fs day found x, sureN ms fs day found x + perN ms fs day found x, true⟩ := by unfold allI; rw [List.getElem?_map, hx]; rfl
            rw [take_snoc' h]; simp)
          have hIBx := fun h => hIB h x hxm
          generalize sureN ms fs day found x = S at HR hS60 HT1 HT2 hIBx
          generalize perN ms fs day found x = P at HR hP60 HT2 hIBx
          have HIX := Lib.hid hIBx
          have HC0 := Lib.hid (HR1.out.kept HKR.out)
          have KK0 := Lib.hid kk0
          clear hx ht hxm hIB hIBx kk0
          have hrz := HKR.out.size
          go_upto_region 11 with (fail)
          go_cut [15, 16, 17] from 56 to 108 (fun a b c wx => a = .int .i64 (S : Int) ∧ b = .int .i64 (P : Int) ∧ c = .int .i64 0 ∧ Kept wr wx)
          case first =>
            have q0 := (HC0.out 0 _ rfl).1
            have q1 := (HC0.out 1 _ rfl).1
            have q2 := (CX.out _ KK0.out).1
            have l1 := cell_lt q0
            have l2 := cell_lt q2
            have SB : RowKit.Hid (∀ W, Kept wr W → W.cell? ⟨w.heap.size, 0, none⟩ = some (.slice A n c) ∧ W.cell? ⟨w.heap.size, 1, none⟩ = some (.slice B m d) ∧ W.cell? ⟨b, off + k * 2, none⟩ = some (.int .i64 x.own) ∧ Kept wr W) := Lib.hid (fun W hW => ⟨(HC0.out.kept hW 0 _ rfl).1, (HC0.out.kept hW 1 _ rfl).1, (CX.out _ (KK0.out.trans hW)).1, hW⟩)
            have kd := (Kept.refl wr).drew
            have HRD := Lib.hid (HR.out _ (KK0.out.trans kd))
            go_region_held3 (fun W => W.cell? ⟨w.heap.size, 0, none⟩ = some (.slice A n c) ∧ W.cell? ⟨w.heap.size, 1, none⟩ = some (.slice B m d) ∧ W.cell? ⟨b, off + k * 2, none⟩ = some (.int .i64 x.own) ∧ Kept wr W)
              (first | (with_reducible exact SB.out _ kd) | (with_reducible exact SB.out _ kk5) | fail)
              (first | (go_at_call 6; refine HRD.out.mono ?_; rintro e w5 ⟨rfl, hk5⟩; have kk5 : Kept wr w5 := (by with_reducible exact kd.trans hk5)) | fail)
            all_goals go_wp2
            all_goals go_meet
            all_goals exact ⟨rfl, rfl, rfl, by assumption⟩
          case rest =>
            obtain ⟨rfl, rfl, rfl, hkc⟩ := hcut
            have HKC := Lib.hid hkc
            have q2 := (CX.out _ (KK0.out.trans hkc)).1
            have q3 := (CX.out _ (KK0.out.trans hkc)).2
            have l2 := cell_lt q2
            have hwc := hkc.size
            clear hkc
            obtain ⟨xo, xn⟩ := x
            dsimp only at q2 q3
            obtain ⟨Wa, hWa⟩ : ∃ Wa, Wa = wc.alloc (.cells #[.int .i64 xo, .int .i64 (S : Int)] 54) := ⟨_, rfl⟩
            have ka : Kept wc Wa := by rw [hWa]; exact (Kept.refl _).alloc _
            have HOA := Lib.hid (own_kept H12.out (HKC.out.trans ka))
            have HOB := Lib.hid (own_kept H13.out (HKC.out.trans ka))
            have HN1 := Lib.hid (news_of (W := wc) (cs := [.int .i64 xo, .int .i64 (S : Int)]) (t := 54) (m := wc.heap.size) rfl)
            have HN2 : RowKit.Hid (∀ W : World, ∀ j y, (Tly.ivCells ⟨S, (S : Int) + (P : Int), true⟩)[j]? = some y → (W.alloc (.cells #[.int .i64 (S : Int), .int .i64 ((S : Int) + (P : Int)), .bool true] 42)).cell? ((⟨W.heap.size, 0, none⟩ : Addr).add j) = some y) := Lib.hid (fun W => news_of (W := W) (cs := [.int .i64 (S : Int), .int .i64 ((S : Int) + (P : Int)), .bool true]) (t := 42) (m := W.heap.size) rfl)
            have HA3 : RowKit.Hid (k + 1 ≤ maxLen) := Lib.hid (by unfold maxLen; omega)
            have HA4 : RowKit.Hid ((k + 1) * 16 ≤ 140737488355328) := Lib.hid (by omega)
            have HA5 : RowKit.Hid ((k + 1) * 24 ≤ 140737488355328) := Lib.hid (by omega)
            have HB1 : RowKit.Hid (w1.heap.size ≤ Wa.heap.size) := Lib.hid (by have := ka.size; omega)
            have HKA := Lib.hid ((HKR.out.trans HKC.out).trans ka)
            rw [hWa] at HOA HOB HB1 HKA
            have hsp : IntKind.i64.wrap ((S : Int) + (P : Int)) = (S : Int) + (P : Int) := IntWalk.i64_in _ (by omega)
            have HV1 : RowKit.Hid (∀ y ∈ ([.int .i64 xo, .int .i64 (S : Int)] : List Value), y.oneCell' = true) := Lib.hid (fun y hy => by simp at hy; rcases hy with h | h <;> subst h <;> rfl)
            have HV2 : RowKit.Hid (∀ y ∈ Tly.ivCells ⟨S, (S : Int) + (P : Int), true⟩, y.oneCell' = true) := Lib.hid (fun y hy => by simp [Tly.ivCells] at hy; rcases hy with h | h | h <;> subst h <;> rfl)
            have HKX := Lib.hid (HKR.out.trans HKC.out)
            clear hWa ka
            cases ib
            · go_wp2_with (first
                | (at_builtin; refine wpList_append_lies _ rfl (.tmp 91) (.tmp 99) 49 rfl w1.heap.size 54 i0 _ 2 16 Tryd.underlying49 hi0 hz0 hz1 hz2 rfl (by decide) _ k _ rfl HOA.out ⟨wc.heap.size, 0, none⟩ 1 1 [.int .i64 xo, .int .i64 (S : Int)] rfl rfl HN1.out HV1.out (by decide) HA3.out HA4.out HB1.out _ rfl ?_; intro g cap w6 hown6 hgrow6 hat6 hlt6
                   have HO6 := Lib.hid hown6
                   have HC6 := Lib.hid (own_far HOB.out hgrow6 HAP.out.symm)
                   have HK6 := Lib.hid ((HKA.out).grown hgrow6 (fun r hr => (HOA.out.lt r hr).1))
                   have HAP6 := Lib.hid (Apart.next (n := k + 1) (c := cap) HAP.out (fun q hq => own_lt HOB.out hq) hat6)
                   have HB2 : RowKit.Hid (w1.heap.size ≤ (w6.alloc (.cells #[.int .i64 (S : Int), .int .i64 ((S : Int) + (P : Int)), .bool true] 42)).heap.size) := Lib.hid (by have := HK6.out.size; simp; omega)
                   clear hown6 hgrow6 hat6 hlt6)
                | (at_builtin; refine wpList_append_lies _ rfl (.tmp 101) (.tmp 107) 52 rfl w1.heap.size 42 i1 _ 3 24 Tryd.underlying52 hi1 hy0 hy1 hy2 rfl (by decide) _ k _ rfl (own_kept HC6.out ((Kept.refl _).alloc _)) ⟨w6.heap.size, 0, none⟩ 1 1 (Tly.ivCells ⟨S, (S : Int) + (P : Int), true⟩) rfl rfl (HN2.out w6) HV2.out (by decide) HA3.out HA5.out HB2.out _ rfl ?_; intro g2 cap2 w7 hown7 hgrow7 hat7 hlt7
                   have HO7 := Lib.hid hown7
                   have HC7 := Lib.hid (own_far (own_kept HO6.out ((Kept.refl _).alloc _)) hgrow7 HAP6.out)
                   have HK7 := Lib.hid ((HK6.out.alloc _).grown hgrow7 (fun r hr => (HC6.out.lt r hr).1))
                   have HAP7 := Lib.hid (Apart.next (n := k + 1) (c := cap2) HAP6.out.symm (fun q hq => own_lt (own_kept HO6.out ((Kept.refl _).alloc _)) hq) hat7)
                   clear hown7 hgrow7 hat7 hlt7)
                | fail)
              go_roundw
              case rel =>
                refine ⟨k + 1, by omega, by go_num, ?_, ?_, HAP7.out.symm, HK7.out⟩
                · rw [HT1.out]; exact HC7.out
                · rw [HT2.out]; exact HO7.out
              case measure => simp [intOf]; omega
            · have hnum := HIX.out (Eq.refl true)
              dsimp only at hnum
              have hnum2 : xn ≤ (S : Int) + (P : Int) := by omega
              clear hnum
              go_wp2_with (first
                | (at_builtin; refine wpList_append_lies _ rfl (.tmp 91) (.tmp 99) 49 rfl w1.heap.size 54 i0 _ 2 16 Tryd.underlying49 hi0 hz0 hz1 hz2 rfl (by decide) _ k _ rfl HOA.out ⟨wc.heap.size, 0, none⟩ 1 1 [.int .i64 xo, .int .i64 (S : Int)] rfl rfl HN1.out HV1.out (by decide) HA3.out HA4.out HB1.out _ rfl ?_; intro g cap w6 hown6 hgrow6 hat6 hlt6
                   have HO6 := Lib.hid hown6
                   have HC6 := Lib.hid (own_far HOB.out hgrow6 HAP.out.symm)
                   have HK6 := Lib.hid ((HKA.out).grown hgrow6 (fun r hr => (HOA.out.lt r hr).1))
                   have HAP6 := Lib.hid (Apart.next (n := k + 1) (c := cap) HAP.out (fun q hq => own_lt HOB.out hq) hat6)
                   have HB2 : RowKit.Hid (w1.heap.size ≤ (w6.alloc (.cells #[.int .i64 (S : Int), .int .i64 ((S : Int) + (P : Int)), .bool true] 42)).heap.size) := Lib.hid (by have := HK6.out.size; simp; omega)
                   clear hown6 hgrow6 hat6 hlt6)
                | (at_builtin; refine wpList_append_lies _ rfl (.tmp 101) (.tmp 107) 52 rfl w1.heap.size 42 i1 _ 3 24 Tryd.underlying52 hi1 hy0 hy1 hy2 rfl (by decide) _ k _ rfl (own_kept HC6.out ((Kept.refl _).alloc _)) ⟨w6.heap.size, 0, none⟩ 1 1 (Tly.ivCells ⟨S, (S : Int) + (P : Int), true⟩) rfl rfl (HN2.out w6) HV2.out (by decide) HA3.out HA5.out HB2.out _ rfl ?_; intro g2 cap2 w7 hown7 hgrow7 hat7 hlt7
                   have HO7 := Lib.hid hown7
                   have HC7 := Lib.hid (own_far (own_kept HO6.out ((Kept.refl _).alloc _)) hgrow7 HAP6.out)
                   have HK7 := Lib.hid ((HK6.out.alloc _).grown hgrow7 (fun r hr => (HC6.out.lt r hr).1))
                   have HAP7 := Lib.hid (Apart.next (n := k + 1) (c := cap2) HAP6.out.symm (fun q hq => own_lt (own_kept HO6.out ((Kept.refl _).alloc _)) hq) hat7)
                   clear hown7 hgrow7 hat7 hlt7)
                | fail)
              go_roundw
              case rel =>
                refine ⟨k + 1, by omega, by go_num, ?_, ?_, HAP7.out.symm, HK7.out⟩
                · rw [HT1.out]; exact HC7.out
                · rw [HT2.out]; exact HO7.out
              case measure => simp [intOf]; omega
        · obtain rfl : k = u := by omega
          have hT1 : (ownC ms fs day found cls).take k = ownC ms fs day found cls := List.take_of_length_le (by unfold ownC; rw [List.length_map, HCL.out.1]; exact Nat.le_refl _)
          have hT2 : (allI ms fs day found cls).take k = allI ms fs day found cls := List.take_of_length_le (by unfold allI; rw [List.length_map, HCL.out.1]; exact Nat.le_refl _)
          have o12 := H12.out
          have o13 := H13.out
          rw [hT1] at o12
          rw [hT2] at o13
          have hokc : ∀ y ∈ ownC ms fs day found cls, y.ok := fun y hy => by
            unfold ownC at hy
            obtain ⟨x, hx, rfl⟩ := List.mem_map.1 hy
            have h1 := (claim_bd (HCO.out.2.1 x hx)).1
            have h2 := HS60.out x
            unfold Cl.ok i64
            dsimp only
            omega
          obtain ⟨A1, c1, rfl, hs1⟩ := own_sla (enc := clC) (xs := ownC ms fs day found cls) (ok := Cl.ok) (fun _ => rfl) o12 (by unfold ownC; rw [List.length_map]; exact HCL.out.1) hokc
          obtain ⟨A2, c2, rfl⟩ := own_slice o13
          have hs2 : Tly.SliK 3 Tly.ivCells wr A2 k c2 (allI ms fs day found cls) := Tly.own_sliK (cl := Tly.ivCells) (k := 3) (fun _ => rfl) (by decide) o13
          have HS1 := Lib.hid hs1
          have HS2 := Lib.hid hs2
          have KK0 := Lib.hid (HK1.out.trans HKR.out)
          have HC0 := Lib.hid (HR1.out.kept HKR.out)
          have q0 := (HC0.out 0 _ rfl).1
          have q1 := (HC0.out 1 _ rfl).1
          have l1 := cell_lt q0
          clear o12 o13 hT1 hT2 hokc hs1 hs2
          go_wp2_with fail
          refine (HAS.out A1 k c1 (ownC ms fs day found cls) _ KK0.out HS1.out).mono ?_
          rintro e w5 ⟨⟨h0, _⟩ | ⟨_, X2, nx2, cx2, ib2, rfl, _, hno⟩, hk5⟩
          · exact absurd HM1.out h0
          have hib2 : ib2 = true := by
            cases ib2
            · exact absurd (hno rfl) HM2.out
            · rfl
          subst hib2
          have HK5 := Lib.hid hk5
          have HSU := Lib.hid (Tly.sum_any A2 k c2 (allI ms fs day found cls) w5 (HS2.out.kept hk5) (by omega))
          have hsm := HSM.out
          obtain ⟨⟨⟨lo, hi, so⟩, er⟩, hsx⟩ : ∃ y, Tly.sumX (allI ms fs day found cls) = y := ⟨_, rfl⟩
          rw [hsx] at hsm HSU
          dsimp only at hsm
          obtain ⟨rfl, rfl, hlo⟩ := hsm
          have hfl : found.length = p := HFO.out.1
          rw [hfl] at hlo
          clear hno hk5 hsx hfl q0 q1 l1
          go_wp2_with fail
          refine HSU.out.mono ?_
          rintro e w6 ⟨rfl, hk6⟩
          have HK6 := Lib.hid (KK0.out.trans (HK5.out.trans hk6))
          clear hk6
          go_wp2_with fail
          refine (HTL.out _).mono ?_
          rintro e w7 ⟨rfl, hk7⟩
          have RS := Lib.hid ((RowC.new w6 [.int .i64 lo, .int .i64 hi, .bool true] 42).kept hk7)
          have HK7 := Lib.hid ((HK6.out.alloc _).trans hk7)
          have t0 := (RS.out 0 _ rfl).1
          have t2 := (RS.out 2 _ rfl).1
          have lt := cell_lt t0
          clear hk7
          by_cases hkz : k = 0
          · subst hkz
            go_wp2
            go_ret
            exact ⟨rfl, K0.out.trans HK7.out⟩
          · have hkn : ((k : Int) == 0) = false := by simp; omega
            go_wp2
            go_ret
            exact ⟨rfl, K0.out.trans HK7.out⟩
end Go.Proofs.YtologmoanaccpaaDoor
