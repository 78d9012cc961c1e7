/-
  the reference's met 116
  the reference's less 118: a copy of the claims with one beast less
  the reference's Meets 52
  the reference's Meets is the code's
-/
import Derived.Test.YtologmoanaccpaaGreatDoorUF
namespace Go.Proofs.YtologmoanaccpaaGreatDoor
set_option linter.all false
open Go.RowKit Go.Shelf

def metR (ms : List Mk) (fs : List Fd) (day : Int) (found : List Sg) (cls : List Cl) : Bool := (List.range (2 ^ cls.length)).all fun k => !shR ms fs day found cls k
theorem metR_no {ms : List Mk} {fs : List Fd} {day : Int} {found : List Sg} {cls : List Cl} {N k : Nat} (hN : N = 2 ^ cls.length) (hk : k < N) (h : shR ms fs day found cls k = true) : metR ms fs day found cls = false := by
  unfold metR
  rw [List.all_eq_false]
  exact ⟨k, List.mem_range.2 (by omega), by rw [h]; simp⟩
theorem metR_yes {ms : List Mk} {fs : List Fd} {day : Int} {found : List Sg} {cls : List Cl} {N : Nat} (hN : N = 2 ^ cls.length) (h : ∀ k, k < N → shR ms fs day found cls k = false) : metR ms fs day found cls = true := by
  unfold metR
  rw [List.all_eq_true]
  intro k hk
  rw [h k (by rw [List.mem_range] at hk; omega)]
  rfl
set_option maxRecDepth 100000 in
set_option maxHeartbeats 3200000 in
theorem rmet_any (A B C D : Option Addr) (n c m d p q u v : Nat) (ms : List Mk) (fs : List Fd) (day : Int) (found : List Sg) (cls : List Cl) (hu10 : u ≤ 10) (hp60 : p ≤ 60) (hnum : ∀ c ∈ cls, 0 ≤ c.num ∧ c.num ≤ 60) (w : World) (hs : SmA w A n c ms B m d fs) (hfo : SlA sgV 6 Sg.ok w C p q found) (hcl : SlA clC 2 Cl.ok w D u v cls) :
    Calls Tryz.prog 116 #[.agg #[.slice A n c, .slice B m d], .int .i64 day, .slice C p q, .slice D u v] w fun e w' => e = .returned (.bool (metR ms fs day found cls)) ∧ Kept w w' := by
  obtain ⟨W0, hW0⟩ : ∃ W0, W0 = w.alloc (.cells #[.slice A n c, .slice B m d] 25) := ⟨_, rfl⟩
  have K0 : RowKit.Hid (Kept w W0) := Lib.hid (by rw [hW0]; exact (Kept.refl _).alloc _)
  have R0 : RowKit.Hid (RowC W0 w.heap.size [.slice A n c, .slice B m d]) := Lib.hid (by rw [hW0]; exact RowC.new w [.slice A n c, .slice B m d] 25)
  have HW := Lib.hid hW0
  have HS := Lib.hid (hs.kept K0.out)
  have HFO := Lib.hid (hfo.kept K0.out)
  have HCL := Lib.hid (hcl.kept K0.out)
  have HCN := Lib.hid hcl.1
  have hpc := hfo.2.1
  have hpm := hfo.2.2.1
  have huc := hcl.2.1
  have hum := hcl.2.2.1
  obtain ⟨N, hN⟩ : ∃ N : Nat, N = 2 ^ u := ⟨_, rfl⟩
  have hNl : N ≤ 1024 := by rw [hN]; exact Nat.pow_le_pow_right (n := 2) (by omega) (show u ≤ 10 from hu10)
  have HNN : RowKit.Hid (N = 2 ^ cls.length) := Lib.hid (by rw [HCN.out]; exact hN)
  have HSE : RowKit.Hid (∀ W, Calls Tryz.prog 121 #[.int .i64 (u : Int)] W fun e w' => e = .returned (.int .i64 (N : Int)) ∧ w' = W) := Lib.hid (fun W => by rw [hN]; exact sets_any u (by omega) W)
  have HSH : RowKit.Hid (∀ (k : Nat) W, k < 9223372036854775808 → Kept W0 W → Calls Tryz.prog 123 #[.agg #[.slice A n c, .slice B m d], .int .i64 day, .slice C p q, .slice D u v, .int .i64 (k : Int)] W fun e w' => e = .returned (.bool (shR ms fs day found cls k)) ∧ Kept W w') := Lib.hid (fun k W hk hW => rshort_any A B n c m d ms fs day C p q found D u v cls k hk hu10 hp60 hnum W (HS.out.kept hW) (HFO.out.kept hW) (HCL.out.kept hW))
  have a0 := (R0.out 0 _ rfl).1
  have a1 := (R0.out 1 _ rfl).1
  have la := cell_lt a0
  clear hW0 hs hfo hcl hN hnum
  go_enter Tryz.func116, Tryz.ntmps116
  go_upto_region 1 with (fail)
  rw [← HW.out]
  clear a0 a1 la
  go_wp2_with fail
  go_loopw [9] (fun i wr => ∃ k : Nat, k ≤ N ∧ i = .int .i64 k ∧ (∀ j, j < k → shR ms fs day found cls j = false) ∧ Kept W0 wr) (fun i _ => N - (intOf i).toNat)
  case atStart => exact ⟨0, by omega, by first | rfl | go_num, fun j hj => by omega, Kept.refl _⟩
  case round =>
    obtain ⟨k, hk, rfl, ho, hkr⟩ := hrel
    have HO := Lib.hid ho
    have HKR := Lib.hid hkr
    clear ho hkr
    by_cases hlt : k < N
    · have hi1 : (k : Int) < (N : Int) := by omega
      obtain ⟨sb, hsb⟩ : ∃ b, shR ms fs day found cls k = b := ⟨_, rfl⟩
      have HQ := Lib.hid (HSH.out k wr (by omega) HKR.out)
      rw [hsb] at HQ
      have HB := Lib.hid hsb
      have a0 := ((R0.out.kept HKR.out) 0 _ rfl).1
      have a1 := ((R0.out.kept HKR.out) 1 _ rfl).1
      have la := cell_lt a0
      clear hsb
      go_wp2_with fail
      refine (HSE.out _).mono ?_
      rintro e w2 ⟨rfl, rfl⟩
      go_wp2_with fail
      refine HQ.out.mono ?_
      rintro e w3 ⟨rfl, hk3⟩
      have K3 := Lib.hid (HKR.out.trans hk3)
      clear hk3 a0 a1 la
      cases sb with
      | true =>
        have HV := Lib.hid (metR_no HNN.out hlt HB.out)
        go_wp2_with fail
        go_ret
        exact ⟨ret_bool HV.out.symm, K0.out.trans K3.out⟩
      | false =>
        go_wp2_with fail
        go_roundw
        case rel => exact ⟨k + 1, by omega, by go_num, fun j hj => (by
          by_cases hjk : j < k
          · exact HO.out j hjk
          · obtain rfl : j = k := by omega
            exact HB.out), K3.out⟩
        case measure => simp [intOf]; omega
    · obtain rfl : k = N := by omega
      have HV := Lib.hid (metR_yes HNN.out HO.out)
      go_wp2_with fail
      refine (HSE.out _).mono ?_
      rintro e w2 ⟨rfl, rfl⟩
      go_wp2_with fail
      go_ret
      exact ⟨ret_bool HV.out.symm, K0.out.trans HKR.out⟩
end Go.Proofs.YtologmoanaccpaaGreatDoor

namespace Go.Proofs.YtologmoanaccpaaGreatDoor
set_option linter.all false
open Go.RowKit Go.Shelf

theorem info94x : (Tryz.prog.info? 94).map (fun i => (i.zero, i.size, i.bytes)) = some (some (.agg #[.int .i64 0, .int .i64 0]), 2, 16) := by kernel_rfl
def lsC (cls : List Cl) (k : Nat) : List Cl := match cls[k]? with | some x => cls.set k ⟨x.own, x.num - 1⟩ | none => cls
def LsP (w : World) (cls : List Cl) (k : Nat) (e : Ending) (w' : World) : Prop := ∃ A c, e = .returned (.slice A cls.length c) ∧ SlA clC 2 Cl.ok w' A cls.length c (lsC cls k) ∧ Kept w w' ∧ ∀ b off, A = some ⟨b, off, none⟩ → w.heap.size ≤ b
theorem clC_two (x : Cl) : (clC x).length = 2 := rfl
theorem clC_at {cls : List Cl} {j : Nat} {u : Value} (h : (cls.flatMap clC)[j]? = some u) : ∃ i x t, j = i * 2 + t ∧ cls[i]? = some x ∧ (clC x)[t]? = some u := by
  have hl : (cls.flatMap clC).length = cls.length * 2 := by
    clear h
    induction cls with
    | nil => rfl
    | cons a l ih => rw [List.flatMap_cons, List.length_append, ih, clC_two, List.length_cons]; omega
  have hj := (List.getElem?_eq_some_iff.1 h).1
  rw [hl] at hj
  have hi : j / 2 < cls.length := by omega
  obtain ⟨x, hx⟩ : ∃ x, cls[j / 2]? = some x := ⟨_, List.getElem?_eq_getElem hi⟩
  have ht : j % 2 < (clC x).length := by rw [clC_two]; omega
  obtain ⟨y, hy⟩ : ∃ y, (clC x)[j % 2]? = some y := ⟨_, List.getElem?_eq_getElem ht⟩
  have := flat_at clC_two cls (j / 2) x (j % 2) y hx hy
  rw [show j / 2 * 2 + j % 2 = j by omega, h] at this
  cases this
  exact ⟨j / 2, x, j % 2, by omega, hx, hy⟩
theorem clC_flen (cls : List Cl) : (cls.flatMap clC).length = cls.length * 2 := by
  induction cls with
  | nil => rfl
  | cons a l ih => rw [List.flatMap_cons, List.length_append, ih, clC_two, List.length_cons]; omega
set_option maxRecDepth 100000 in
set_option maxHeartbeats 3200000 in
theorem rless_any (D : Option Addr) (u v : Nat) (cls : List Cl) (k : Nat) (x : Cl) (w : World) (hcl : SlA clC 2 Cl.ok w D u v cls) (hu : u ≤ 1000) (hx : cls[k]? = some x) (hpos : 0 < x.num) :
    Calls Tryz.prog 118 #[.slice D u v, .int .i64 (k : Int)] w (LsP w cls k) := by
  obtain ⟨i0, hi0, hz0, hz1, hz2⟩ := info_parts info94x
  have HX := Lib.hid hx
  have HCN := Lib.hid hcl.1
  have HC := Lib.hid hcl
  have hkl : k < u := by rw [← hcl.1]; exact (List.getElem?_eq_some_iff.1 hx).1
  have hnum := (hcl.2.2.2.1 x (List.mem_of_getElem? hx)).2
  have HN : RowKit.Hid (0 < u → ∃ a, D = some a ∧ ∀ j y, (cls.flatMap clC)[j]? = some y → (w.alloc (.cells #[] 94)).cell? (a.add j) = some y) := Lib.hid (fun hn => by
    obtain ⟨b, off, e, ht⟩ := HC.out.2.2.2.2 hn
    refine ⟨_, e, fun j y hy => ?_⟩
    obtain ⟨i, z, t, rfl, h1, h2⟩ := clC_at hy
    have := ht i z h1 t y h2
    rw [addr_add, ← Nat.add_assoc]
    exact (((Kept.refl w).alloc (.cells #[] 94)).cells _ _ (cell_lt this)).trans this)
  have HL : RowKit.Hid ((cls.flatMap clC).length = u * 2) := Lib.hid (by rw [clC_flen, HCN.out])
  have HO : RowKit.Hid (∀ y ∈ cls.flatMap clC, y.oneCell' = true) := Lib.hid (fun y hy => by
    obtain ⟨z, _, h1⟩ := List.mem_flatMap.1 hy
    simp [clC] at h1
    rcases h1 with h1 | h1 <;> subst h1 <;> rfl)
  clear hcl hx
  go_enter Tryz.func118, Tryz.ntmps118
  go_wp2_with (at_builtin; refine wpList_copy w _ rfl (.tmp 6) (.tmp 7) 70 rfl 94 i0 _ 2 16 Tryz.underlying70 hi0 hz0 hz1 hz2 rfl (by decide) rfl rfl _ u v (cls.flatMap clC) rfl HL.out HN.out HO.out (by unfold maxLen; omega) (by omega) ?_; intro B d w6 hown hkk)
  obtain ⟨g, cap, rfl, hr, hg, hud, hd⟩ : ∃ g cap, B = some ⟨g, 0, none⟩ ∧ RowC w6 g (cls.flatMap clC) ∧ w.heap.size ≤ g ∧ u ≤ d ∧ d ≤ 9223372036854775807 := by
    rcases hown.2 with ⟨h1, h0⟩ | ⟨g, cap, cur, h1, hb, hh, h2, h3, _⟩
    · omega
    · cases h1
      exact ⟨g, 0, rfl, own_rowC hown, hb, h2, by unfold maxLen at h3; omega⟩
  clear hi0 hz0 hz1 hz2
  have h1 := hr (k * 2 + 1) (.int .i64 x.num) (flat_at clC_two cls k x 1 _ HX.out rfl)
  obtain ⟨c1, f1⟩ := h1
  have lc := cell_lt c1
  have HR := Lib.hid hr
  have HG := Lib.hid hg
  have HK := Lib.hid hkk
  have hi0 : (0 : Int) ≤ (k : Int) := by omega
  have hi1 : (k : Int) < (u : Int) := by omega
  have hw1 : IntKind.i64.wrap (x.num - 1) = x.num - 1 := IntWalk.i64_in _ (by unfold i64 at hnum; omega)
  have HPO := Lib.hid hpos
  clear hr hg hkk hown hpos
  have hix : ∀ w, (Instr.indexAt 70 (.slice (some ⟨g, 0, none⟩) u d) (.int .i64 (k : Int))).run Tryz.prog w = .ok (.pointer (some ⟨g, k * 2, none⟩)) w := fun w => by
    go_simp
  go_wp2
  rw [hix]
  go_wp2
  go_ret
  have hcx : lsC cls k = cls.set k ⟨x.own, x.num - 1⟩ := by unfold lsC; rw [HX.out]
  have hput := HR.out.put (j := k * 2 + 1) (by rw [clC_flen, HCN.out]; omega) (.int .i64 (x.num - 1))
  have hflat : (cls.flatMap clC).set (k * 2 + 1) (.int .i64 (x.num - 1)) = (lsC cls k).flatMap clC := by
    rw [hcx]
    apply List.ext_getElem?
    intro j
    cases e : ((cls.set k ⟨x.own, x.num - 1⟩).flatMap clC)[j]? with
    | none =>
      rw [List.getElem?_eq_none_iff] at e ⊢
      rw [List.length_set]
      rw [clC_flen] at e ⊢
      simpa using e
    | some y =>
      obtain ⟨i, z, t, rfl, h1, h2⟩ := clC_at e
      have ht : t < 2 := (List.getElem?_eq_some_iff.1 h2).1
      by_cases hik : k = i
      · subst hik
        rw [List.getElem?_set_self (by rw [HCN.out]; exact hkl)] at h1
        cases h1
        by_cases ht1 : t = 1
        · subst ht1
          rw [List.getElem?_set_self (by rw [clC_flen, HCN.out]; omega)]
          exact h2
        · obtain rfl : t = 0 := by omega
          rw [List.getElem?_set_ne (by omega)]
          rw [flat_at clC_two cls k x 0 _ HX.out rfl]
          exact h2
      · rw [List.getElem?_set_ne hik] at h1
        rw [List.getElem?_set_ne (by omega)]
        exact flat_at clC_two cls i z t y h1 h2
  rw [hflat] at hput
  refine ⟨some ⟨g, 0, none⟩, d, by rw [HCN.out]; rfl, ⟨?_, by rw [HCN.out]; exact hud, hd, ?_, fun _ => ⟨g, 0, rfl, fun i z hz j y hy => ?_⟩⟩, HK.out.setCell (p := ⟨g, k * 2 + 1, none⟩) HG.out _, fun b off e => by cases e; exact HG.out⟩
  · rw [hcx, List.length_set]
  · intro z hz
    rw [hcx] at hz
    rcases List.mem_or_eq_of_mem_set hz with h | h
    · exact HC.out.2.2.2.1 z h
    · subst h
      have := HC.out.2.2.2.1 x (List.mem_of_getElem? HX.out)
      exact ⟨this.1, by have := this.2; have hpo := HPO.out; unfold i64 at this ⊢; dsimp only; omega⟩
  · rw [Nat.zero_add]
    exact (hput _ _ (flat_at clC_two _ i z j y hz hy)).1
end Go.Proofs.YtologmoanaccpaaGreatDoor

namespace Go.Proofs.YtologmoanaccpaaGreatDoor
set_option linter.all false
open Go.RowKit Go.Shelf

def mt1 (ms : List Mk) (fs : List Fd) (day : Int) (found : List Sg) (cls : List Cl) (ows : List Int) (i : Nat) : Bool := match ows[i]?, found[i]? with | some o, some s => (o == 0) || ((cmX cls o).isSome && fitR ms fs day s o) | _, _ => true
def cnO (ows : List Int) (o : Int) (k : Nat) : Nat := (ows.take k).countP fun x => x == o
theorem cnO_succ {ows : List Int} {o x : Int} {k : Nat} (h : ows[k]? = some x) : cnO ows o (k + 1) = cnO ows o k + if (x == o) = true then 1 else 0 := by
  unfold cnO
  rw [take_snoc' h, List.countP_append, List.countP_singleton]
theorem cnO_le (ows : List Int) (o : Int) (k : Nat) : cnO ows o k ≤ k := by
  unfold cnO
  exact Nat.le_trans List.countP_le_length (by rw [List.length_take]; exact Nat.min_le_left _ _)
def mt2 (cls : List Cl) (ows : List Int) (k : Nat) : Bool := match cls[k]? with | some c => ((cnO ows c.own ows.length : Nat) : Int) == c.num | none => true
def meR (ms : List Mk) (fs : List Fd) (day : Int) (found : List Sg) (cls : List Cl) (ows : List Int) : Bool := decide (ows.length = found.length) && ((List.range ows.length).all (mt1 ms fs day found cls ows) && (List.range cls.length).all (mt2 cls ows))
theorem meR_len {ms : List Mk} {fs : List Fd} {day : Int} {found : List Sg} {cls : List Cl} {ows : List Int} (h : ows.length ≠ found.length) : meR ms fs day found cls ows = false := by
  unfold meR
  rw [decide_eq_false h]; rfl
theorem meR_no1 {ms : List Mk} {fs : List Fd} {day : Int} {found : List Sg} {cls : List Cl} {ows : List Int} {i : Nat} (hi : i < ows.length) (h : mt1 ms fs day found cls ows i = false) : meR ms fs day found cls ows = false := by
  unfold meR
  have : (List.range ows.length).all (mt1 ms fs day found cls ows) = false := by
    rw [List.all_eq_false]
    exact ⟨i, List.mem_range.2 hi, by rw [h]; simp⟩
  rw [this]; simp
theorem meR_no2 {ms : List Mk} {fs : List Fd} {day : Int} {found : List Sg} {cls : List Cl} {ows : List Int} {i : Nat} (hi : i < cls.length) (h : mt2 cls ows i = false) : meR ms fs day found cls ows = false := by
  unfold meR
  have : (List.range cls.length).all (mt2 cls ows) = false := by
    rw [List.all_eq_false]
    exact ⟨i, List.mem_range.2 hi, by rw [h]; simp⟩
  rw [this]; simp
theorem meR_yes {ms : List Mk} {fs : List Fd} {day : Int} {found : List Sg} {cls : List Cl} {ows : List Int} (h0 : ows.length = found.length) (h1 : ∀ i, i < ows.length → mt1 ms fs day found cls ows i = true) (h2 : ∀ i, i < cls.length → mt2 cls ows i = true) : meR ms fs day found cls ows = true := by
  unfold meR
  rw [decide_eq_true h0, Bool.true_and, Bool.and_eq_true, List.all_eq_true, List.all_eq_true]
  exact ⟨fun i hi => h1 i (List.mem_range.1 hi), fun i hi => h2 i (List.mem_range.1 hi)⟩
def MrP (w : World) (ms : List Mk) (fs : List Fd) (day : Int) (found : List Sg) (cls : List Cl) (ows : List Int) (e : Ending) (w' : World) : Prop :=
  ((chE ms fs day found cls ≠ 0 ∧ e = .returned (.tuple #[.bool false, .int .i64 (chE ms fs day found cls)])) ∨
   (chE ms fs day found cls = 0 ∧ e = .returned (.tuple #[.bool (meR ms fs day found cls ows), .int .i64 0]))) ∧ Kept w w'
theorem MrP.of {w : World} {ms : List Mk} {fs : List Fd} {day : Int} {found : List Sg} {cls : List Cl} {ows : List Int} {e : Ending} {w' : World} (b : Bool) (h0 : chE ms fs day found cls = 0) (he : e = .returned (.tuple #[.bool b, .int .i64 0])) (hb : meR ms fs day found cls ows = b) (hk : Kept w w') : MrP w ms fs day found cls ows e w' :=
  ⟨.inr ⟨h0, by rw [hb]; exact he⟩, hk⟩
theorem MrP.no {w : World} {ms : List Mk} {fs : List Fd} {day : Int} {found : List Sg} {cls : List Cl} {ows : List Int} {e : Ending} {w' : World} (E : Int) (h : chE ms fs day found cls = E) (h0 : E ≠ 0) (he : e = .returned (.tuple #[.bool false, .int .i64 E])) (hk : Kept w w') : MrP w ms fs day found cls ows e w' :=
  ⟨.inl ⟨by rw [h]; exact h0, by rw [h]; exact he⟩, hk⟩
set_option maxRecDepth 100000 in
set_option maxHeartbeats 12800000 in
theorem rmeets_any (A B C D G : Option Addr) (n c m d p q u v x y : Nat) (ms : List Mk) (fs : List Fd) (day : Int) (found : List Sg) (cls : List Cl) (ows : List Int) (w : World) (hs : SmA w A n c ms B m d fs) (hfo : SlA sgV 6 Sg.ok w C p q found) (hcl : SlA clC 2 Cl.ok w D u v cls) (how : IntA w G x y ows) (hx1000 : x ≤ 1000) :
    Calls Tryz.prog 52 #[.agg #[.slice A n c, .slice B m d], .int .i64 day, .slice C p q, .slice D u v, .slice G x y] w (MrP w ms fs day found cls ows) := by
  obtain ⟨W0, hW0⟩ : ∃ W0, W0 = w.alloc (.cells #[.slice A n c, .slice B m d] 25) := ⟨_, rfl⟩
  have K0 : RowKit.Hid (Kept w W0) := Lib.hid (by rw [hW0]; exact (Kept.refl _).alloc _)
  have R0 : RowKit.Hid (RowC W0 w.heap.size [.slice A n c, .slice B m d]) := Lib.hid (by rw [hW0]; exact RowC.new w [.slice A n c, .slice B m d] 25)
  have HW := Lib.hid hW0
  have HS := Lib.hid (hs.kept K0.out)
  have HFO := Lib.hid (hfo.kept K0.out)
  have HCL := Lib.hid (hcl.kept K0.out)
  have HOW := Lib.hid (how.kept K0.out)
  have HFN := Lib.hid hfo.1
  have HCN := Lib.hid hcl.1
  have HON := Lib.hid how.1
  obtain ⟨E, hE⟩ : ∃ E, chE ms fs day found cls = E := ⟨_, rfl⟩
  have HBG : RowKit.Hid (∀ W, Kept W0 W → Calls Tryz.prog 109 #[.agg #[.slice A n c, .slice B m d], .int .i64 day, .slice none 0 0, .slice C p q, .slice D u v] W fun e w' => e = .returned (.int .i64 E) ∧ Kept W w') := Lib.hid (fun W hW => by rw [← hE]; have h := rbegin_any A B C D none n c m d p q u v 0 0 ms fs day [] found cls W (HS.out.kept hW) (IntA.nil W) (by omega) (HFO.out.kept hW) (HCL.out.kept hW); rw [bgE_nil] at h; exact h)
  have HE := Lib.hid hE
  have HCM : RowKit.Hid (∀ (o : Int) W, Kept W0 W → Calls Tryz.prog 117 #[.slice D u v, .int .i64 o] W fun e w' => e = .returned (.int .i64 (cmV cls o)) ∧ w' = W) := Lib.hid (fun o W hW => claimed_any D u v cls o W (HCL.out.kept hW))
  have HFT : RowKit.Hid (∀ (s : Sg) (o : Int) W, Kept W0 W → Calls Tryz.prog 94 #[.agg #[.slice A n c, .slice B m d], .int .i64 day, .agg #[.int .u8 s.s0, .int .u8 s.s1, .int .u8 s.s2, .int .u8 s.s3, .int .u8 s.s4, .int .u8 s.s5], .int .i64 o] W fun e w' => e = .returned (.bool (fitR ms fs day s o)) ∧ Kept W w') := Lib.hid (fun s o W hW => rfits_any A B n c m d ms fs day o s W (HS.out.kept hW))
  clear hE
  have hpc := hfo.2.1
  have hpm := hfo.2.2.1
  have huc := hcl.2.1
  have hum := hcl.2.2.1
  have a0 := (R0.out 0 _ rfl).1
  have a1 := (R0.out 1 _ rfl).1
  have la := cell_lt a0
  clear hW0 hs hfo hcl how
  go_enter Tryz.func52, Tryz.ntmps52
  go_upto_region 1 with (fail)
  rw [← HW.out]
  go_wp2_with fail
  refine (HBG.out _ (Kept.refl _)).mono ?_
  rintro e w1 ⟨rfl, hk1⟩
  have K1 := Lib.hid hk1
  clear hk1 a0 a1 la
  by_cases h0 : E = 0
  rotate_left
  · have h1 : (E != 0) = true := by simpa using h0
    have H0 := Lib.hid h0
    clear h0
    go_wp2_with fail
    go_ret2
    exact MrP.no E HE.out H0.out (by rfl) (K0.out.trans K1.out)
  subst h0
  by_cases hxp : x = p
  rotate_left
  · have h1 : ((x : Int) != (p : Int)) = true := by simp; omega
    have HF : RowKit.Hid (meR ms fs day found cls ows = false) := Lib.hid (meR_len (by rw [HON.out, HFN.out]; exact hxp))
    go_wp2_with fail
    go_ret2
    exact MrP.of false HE.out (by rfl) HF.out (K0.out.trans K1.out)
  subst hxp
  have HEQ : RowKit.Hid (ows.length = found.length) := Lib.hid (by rw [HON.out, HFN.out])
  have h1 : ((x : Int) != (x : Int)) = false := by simp
  go_wp2_with fail
  go_loopw [13] (fun i wr => ∃ k : Nat, k ≤ x ∧ i = .int .i64 k ∧ (∀ j, j < k → mt1 ms fs day found cls ows j = true) ∧ Kept W0 wr) (fun i _ => x - (intOf i).toNat)
  case atStart => exact ⟨0, by omega, by first | rfl | go_num, fun j hj => by omega, K1.out⟩
  case round =>
    obtain ⟨i, hi, rfl, ho, hkr⟩ := hrel
    have HO := Lib.hid ho
    have HKR := Lib.hid hkr
    clear ho hkr
    by_cases hlt : i < x
    · obtain ⟨o, hoo⟩ : ∃ o, ows[i]? = some o := ⟨_, List.getElem?_eq_getElem (by rw [HON.out]; exact hlt)⟩
      obtain ⟨s, hss⟩ : ∃ s, found[i]? = some s := ⟨_, List.getElem?_eq_getElem (by rw [HFN.out]; exact hlt)⟩
      obtain ⟨ob, oo, hG, hto⟩ := HOW.out.2.2.2 (by omega)
      obtain ⟨fb, fo, hC, htf⟩ := HFO.out.2.2.2.2 (by omega)
      subst hG hC
      have hoc : W0.cell? ⟨ob, oo + i, none⟩ = some (.int .i64 o) := hto i o hoo
      have HOC := Lib.hid hoc
      have HSC : RowKit.Hid (∀ (j : Nat) (v : Value), (sgV s)[j]? = some v → W0.cell? ⟨fb, fo + i * 6 + j, none⟩ = some v) := Lib.hid (fun j v hv => htf i s hss j v hv)
      have HM1 : RowKit.Hid (mt1 ms fs day found cls ows i = ((o == 0) || ((cmX cls o).isSome && fitR ms fs day s o))) := Lib.hid (by unfold mt1; rw [hoo, hss])
      have HNO : RowKit.Hid (mt1 ms fs day found cls ows i = false → meR ms fs day found cls ows = false) := Lib.hid (fun h => meR_no1 (by rw [HON.out]; exact hlt) h)
      have HYES : RowKit.Hid (mt1 ms fs day found cls ows i = true → ∀ j, j < i + 1 → mt1 ms fs day found cls ows j = true) := Lib.hid (fun h j hj => by
        by_cases hji : j < i
        · exact HO.out j hji
        · obtain rfl : j = i := by omega
          exact h)
      obtain ⟨tb, htb⟩ : ∃ b, fitR ms fs day s o = b := ⟨_, rfl⟩
      have HT : RowKit.Hid (∀ W, Kept wr W → Calls Tryz.prog 94 #[.agg #[.slice A n c, .slice B m d], .int .i64 day, .agg #[.int .u8 s.s0, .int .u8 s.s1, .int .u8 s.s2, .int .u8 s.s3, .int .u8 s.s4, .int .u8 s.s5], .int .i64 o] W fun e w' => e = .returned (.bool tb) ∧ Kept W w') := Lib.hid (fun W hW => by rw [← htb]; exact HFT.out s o W (HKR.out.trans hW))
      rw [htb] at HM1
      obtain ⟨r, hr⟩ : ∃ r, cmX cls o = r := ⟨_, rfl⟩
      have HC0 := Lib.hid (fun W hW => HCM.out o W (HKR.out.trans hW))
      clear htb hoc hto htf hoo hss
      have hi0 : (0 : Int) ≤ (i : Int) := by omega
      have hi1 : (i : Int) < (x : Int) := by omega
      go_upto_region 9 with (fail)
      have SC : RowKit.Hid (∀ W, Kept wr W → W.cell? ⟨w.heap.size, 0, none⟩ = some (.slice A n c) ∧ W.cell? ⟨w.heap.size, 1, none⟩ = some (.slice B m d) ∧ W.cell? ⟨ob, oo + i, none⟩ = some (.int .i64 o) ∧ W.cell? ⟨fb, fo + i * 6, none⟩ = some (.int .u8 s.s0) ∧ W.cell? ⟨fb, fo + i * 6 + 1, none⟩ = some (.int .u8 s.s1) ∧ W.cell? ⟨fb, fo + i * 6 + 2, none⟩ = some (.int .u8 s.s2) ∧ W.cell? ⟨fb, fo + i * 6 + 3, none⟩ = some (.int .u8 s.s3) ∧ W.cell? ⟨fb, fo + i * 6 + 4, none⟩ = some (.int .u8 s.s4) ∧ W.cell? ⟨fb, fo + i * 6 + 5, none⟩ = some (.int .u8 s.s5) ∧ Kept wr W) := Lib.hid (fun W hW => by
        have hK := HKR.out.trans hW
        refine ⟨(R0.out.kept hK 0 _ rfl).1, (R0.out.kept hK 1 _ rfl).1, (hK.cells _ _ (cell_lt HOC.out)).trans HOC.out, ?c0, ?c1, ?c2, ?c3, ?c4, ?c5, hW⟩
        case c0 =>
          have := HSC.out 0 _ rfl
          exact (hK.cells _ _ (cell_lt this)).trans this
        case c1 =>
          have := HSC.out 1 _ rfl
          exact (hK.cells _ _ (cell_lt this)).trans this
        case c2 =>
          have := HSC.out 2 _ rfl
          exact (hK.cells _ _ (cell_lt this)).trans this
        case c3 =>
          have := HSC.out 3 _ rfl
          exact (hK.cells _ _ (cell_lt this)).trans this
        case c4 =>
          have := HSC.out 4 _ rfl
          exact (hK.cells _ _ (cell_lt this)).trans this
        case c5 =>
          have := HSC.out 5 _ rfl
          exact (hK.cells _ _ (cell_lt this)).trans this
        )
      have q0 := (SC.out _ (Kept.refl _)).1
      have lq := cell_lt q0
      have q1 := (SC.out _ (Kept.refl _)).2.2.1
      have lq1 := cell_lt q1
      have q2 := (SC.out _ (Kept.refl _)).2.2.2.1
      have lq2 := cell_lt q2
      clear q0 q1 q2
      have kd := (Kept.refl wr).drew
      go_cut [63] (fun s63 wx => s63 = .bool (!mt1 ms fs day found cls ows i) ∧ Kept wr wx)
      case first =>
        by_cases hz : o = 0
        · have hzb : (o != 0) = false := by simpa using hz
          have HR1 : RowKit.Hid (mt1 ms fs day found cls ows i = true) := Lib.hid (by rw [HM1.out, show (o == 0) = true by simpa using hz]; rfl)
          clear hz hr
          refine wp_region_held_drew (S := fun W => W.cell? ⟨w.heap.size, 0, none⟩ = some (.slice A n c) ∧ W.cell? ⟨w.heap.size, 1, none⟩ = some (.slice B m d) ∧ W.cell? ⟨ob, oo + i, none⟩ = some (.int .i64 o) ∧ W.cell? ⟨fb, fo + i * 6, none⟩ = some (.int .u8 s.s0) ∧ W.cell? ⟨fb, fo + i * 6 + 1, none⟩ = some (.int .u8 s.s1) ∧ W.cell? ⟨fb, fo + i * 6 + 2, none⟩ = some (.int .u8 s.s2) ∧ W.cell? ⟨fb, fo + i * 6 + 3, none⟩ = some (.int .u8 s.s3) ∧ W.cell? ⟨fb, fo + i * 6 + 4, none⟩ = some (.int .u8 s.s4) ∧ W.cell? ⟨fb, fo + i * 6 + 5, none⟩ = some (.int .u8 s.s5) ∧ Kept wr W) (by kernel_rfl) (SC.out _ kd) (fun hHeld => ?_)
          refine take_at (i := 0) (d := some 36) (v := ?_) rfl rfl (by kernel_rfl) (by kernel_rfl) (by kernel_rfl) (fun _ _ _ h => h) (Or.inl ⟨by rfl, ?_⟩) hHeld ?_
          rotate_left
          · intro w hSw
            try dsimp only at hSw
            go_simp
            try (with_reducible rfl)
          try simp only [Act.put, List.setIfInBounds_toArray, List.set_cons_zero, List.set_cons_succ]
          refine take_at (i := 1) (d := some 37) (v := ?_) rfl rfl (by kernel_rfl) (by kernel_rfl) (by kernel_rfl) (fun _ _ _ h => h) (Or.inl ⟨by rfl, ?_⟩) hHeld ?_
          rotate_left
          · intro w hSw
            try dsimp only at hSw
            go_simp
            try (with_reducible rfl)
          try simp only [Act.put, List.setIfInBounds_toArray, List.set_cons_zero, List.set_cons_succ]
          refine take_at (i := 2) (d := some 38) (v := ?_) rfl rfl (by kernel_rfl) (by kernel_rfl) (by kernel_rfl) (fun _ _ _ h => h) (Or.inl ⟨by rfl, ?_⟩) hHeld ?_
          rotate_left
          · intro w hSw
            try dsimp only at hSw
            go_simp
            try (with_reducible rfl)
          try simp only [Act.put, List.setIfInBounds_toArray, List.set_cons_zero, List.set_cons_succ]
          refine take_at (i := 3) (d := some 39) (v := ?_) rfl rfl (by kernel_rfl) (by kernel_rfl) (by kernel_rfl) (fun _ _ _ h => h) (Or.inl ⟨by rfl, ?_⟩) hHeld ?_
          rotate_left
          · intro w hSw
            try dsimp only at hSw
            go_simp
            try (with_reducible rfl)
          try simp only [Act.put, List.setIfInBounds_toArray, List.set_cons_zero, List.set_cons_succ]
          refine take_at (i := 4) (d := some 40) (v := ?_) rfl rfl (by kernel_rfl) (by kernel_rfl) (by kernel_rfl) (fun _ _ _ h => h) (Or.inl ⟨by rfl, ?_⟩) hHeld ?_
          rotate_left
          · intro w hSw
            try dsimp only at hSw
            go_simp
            try (with_reducible rfl)
          try simp only [Act.put, List.setIfInBounds_toArray, List.set_cons_zero, List.set_cons_succ]
          refine take_at (i := 5) (d := some 41) (v := ?_) rfl rfl (by kernel_rfl) (by kernel_rfl) (by kernel_rfl) (fun _ _ _ h => h) (Or.inl ⟨by rfl, ?_⟩) hHeld ?_
          rotate_left
          · intro w hSw
            try dsimp only at hSw
            go_simp
            try (with_reducible rfl)
          try simp only [Act.put, List.setIfInBounds_toArray, List.set_cons_zero, List.set_cons_succ]
          refine take_at (i := 6) (d := some 42) (v := undef) rfl rfl (by kernel_rfl) (by kernel_rfl) (by kernel_rfl) (fun _ _ _ h => h) (Or.inr ⟨by rfl, rfl⟩) hHeld ?_
          try simp only [Act.put, List.setIfInBounds_toArray, List.set_cons_zero, List.set_cons_succ]
          refine take_at (i := 7) (d := some 43) (v := undef) rfl rfl (by kernel_rfl) (by kernel_rfl) (by kernel_rfl) (fun _ _ _ h => h) (Or.inr ⟨by rfl, rfl⟩) hHeld ?_
          try simp only [Act.put, List.setIfInBounds_toArray, List.set_cons_zero, List.set_cons_succ]
          refine take_at (i := 8) (d := some 44) (v := undef) rfl rfl (by kernel_rfl) (by kernel_rfl) (by kernel_rfl) (fun _ _ _ h => h) (Or.inr ⟨by rfl, rfl⟩) hHeld ?_
          try simp only [Act.put, List.setIfInBounds_toArray, List.set_cons_zero, List.set_cons_succ]
          refine take_at (i := 9) (d := some 45) (v := undef) rfl rfl (by kernel_rfl) (by kernel_rfl) (by kernel_rfl) (fun _ _ _ h => h) (Or.inr ⟨by rfl, rfl⟩) hHeld ?_
          try simp only [Act.put, List.setIfInBounds_toArray, List.set_cons_zero, List.set_cons_succ]
          refine take_at (i := 10) (d := some 46) (v := undef) rfl rfl (by kernel_rfl) (by kernel_rfl) (by kernel_rfl) (fun _ _ _ h => h) (Or.inr ⟨by rfl, rfl⟩) hHeld ?_
          try simp only [Act.put, List.setIfInBounds_toArray, List.set_cons_zero, List.set_cons_succ]
          refine take_at (i := 11) (d := some 47) (v := undef) rfl rfl (by kernel_rfl) (by kernel_rfl) (by kernel_rfl) (fun _ _ _ h => h) (Or.inr ⟨by rfl, rfl⟩) hHeld ?_
          try simp only [Act.put, List.setIfInBounds_toArray, List.set_cons_zero, List.set_cons_succ]
          refine take_at (i := 12) (d := some 48) (v := undef) rfl rfl (by kernel_rfl) (by kernel_rfl) (by kernel_rfl) (fun _ _ _ h => h) (Or.inr ⟨by rfl, rfl⟩) hHeld ?_
          try simp only [Act.put, List.setIfInBounds_toArray, List.set_cons_zero, List.set_cons_succ]
          refine take_at (i := 13) (d := some 49) (v := undef) rfl rfl (by kernel_rfl) (by kernel_rfl) (by kernel_rfl) (fun _ _ _ h => h) (Or.inr ⟨by rfl, rfl⟩) hHeld ?_
          try simp only [Act.put, List.setIfInBounds_toArray, List.set_cons_zero, List.set_cons_succ]
          refine take_at (i := 14) (d := some 50) (v := undef) rfl rfl (by kernel_rfl) (by kernel_rfl) (by kernel_rfl) (fun _ _ _ h => h) (Or.inr ⟨by rfl, rfl⟩) hHeld ?_
          try simp only [Act.put, List.setIfInBounds_toArray, List.set_cons_zero, List.set_cons_succ]
          refine take_at (i := 15) (d := some 51) (v := undef) rfl rfl (by kernel_rfl) (by kernel_rfl) (by kernel_rfl) (fun _ _ _ h => h) (Or.inr ⟨by rfl, rfl⟩) hHeld ?_
          try simp only [Act.put, List.setIfInBounds_toArray, List.set_cons_zero, List.set_cons_succ]
          refine take_at (i := 16) (d := some 52) (v := undef) rfl rfl (by kernel_rfl) (by kernel_rfl) (by kernel_rfl) (fun _ _ _ h => h) (Or.inr ⟨by rfl, rfl⟩) hHeld ?_
          try simp only [Act.put, List.setIfInBounds_toArray, List.set_cons_zero, List.set_cons_succ]
          refine take_at (i := 17) (d := some 53) (v := undef) rfl rfl (by kernel_rfl) (by kernel_rfl) (by kernel_rfl) (fun _ _ _ h => h) (Or.inr ⟨by rfl, rfl⟩) hHeld ?_
          try simp only [Act.put, List.setIfInBounds_toArray, List.set_cons_zero, List.set_cons_succ]
          refine take_at (i := 18) (d := some 54) (v := undef) rfl rfl (by kernel_rfl) (by kernel_rfl) (by kernel_rfl) (fun _ _ _ h => h) (Or.inr ⟨by rfl, rfl⟩) hHeld ?_
          try simp only [Act.put, List.setIfInBounds_toArray, List.set_cons_zero, List.set_cons_succ]
          refine take_at (i := 19) (d := some 55) (v := undef) rfl rfl (by kernel_rfl) (by kernel_rfl) (by kernel_rfl) (fun _ _ _ h => h) (Or.inr ⟨by rfl, rfl⟩) hHeld ?_
          try simp only [Act.put, List.setIfInBounds_toArray, List.set_cons_zero, List.set_cons_succ]
          refine take_at (i := 20) (d := some 56) (v := undef) rfl rfl (by kernel_rfl) (by kernel_rfl) (by kernel_rfl) (fun _ _ _ h => h) (Or.inr ⟨by rfl, rfl⟩) hHeld ?_
          try simp only [Act.put, List.setIfInBounds_toArray, List.set_cons_zero, List.set_cons_succ]
          refine take_at (i := 21) (d := some 57) (v := undef) rfl rfl (by kernel_rfl) (by kernel_rfl) (by kernel_rfl) (fun _ _ _ h => h) (Or.inr ⟨by rfl, rfl⟩) hHeld ?_
          try simp only [Act.put, List.setIfInBounds_toArray, List.set_cons_zero, List.set_cons_succ]
          refine take_at (i := 22) (d := some 58) (v := undef) rfl rfl (by kernel_rfl) (by kernel_rfl) (by kernel_rfl) (fun _ _ _ h => h) (Or.inr ⟨by rfl, rfl⟩) hHeld ?_
          try simp only [Act.put, List.setIfInBounds_toArray, List.set_cons_zero, List.set_cons_succ]
          refine take_at (i := 23) (d := some 59) (v := undef) rfl rfl (by kernel_rfl) (by kernel_rfl) (by kernel_rfl) (fun _ _ _ h => h) (Or.inr ⟨by rfl, rfl⟩) hHeld ?_
          try simp only [Act.put, List.setIfInBounds_toArray, List.set_cons_zero, List.set_cons_succ]
          refine take_at (i := 24) (d := some 60) (v := undef) rfl rfl (by kernel_rfl) (by kernel_rfl) (by kernel_rfl) (fun _ _ _ h => h) (Or.inr ⟨by rfl, rfl⟩) hHeld ?_
          try simp only [Act.put, List.setIfInBounds_toArray, List.set_cons_zero, List.set_cons_succ]
          refine take_at (i := 25) (d := some 61) (v := undef) rfl rfl (by kernel_rfl) (by kernel_rfl) (by kernel_rfl) (fun _ _ _ h => h) (Or.inr ⟨by rfl, rfl⟩) hHeld ?_
          try simp only [Act.put, List.setIfInBounds_toArray, List.set_cons_zero, List.set_cons_succ]
          refine take_at (i := 26) (d := some 62) (v := undef) rfl rfl (by kernel_rfl) (by kernel_rfl) (by kernel_rfl) (fun _ _ _ h => h) (Or.inr ⟨by rfl, rfl⟩) hHeld ?_
          try simp only [Act.put, List.setIfInBounds_toArray, List.set_cons_zero, List.set_cons_succ]
          refine take_at (i := 27) (d := some 63) (v := ?_) rfl rfl (by kernel_rfl) (by kernel_rfl) (by kernel_rfl) (fun _ _ _ h => h) (Or.inl ⟨by rfl, ?_⟩) hHeld ?_
          rotate_left
          · intro w hSw
            try dsimp only at hSw
            go_simp
            try (with_reducible rfl)
          try simp only [Act.put, List.setIfInBounds_toArray, List.set_cons_zero, List.set_cons_succ]
          refine wpAnyH_done (by kernel_rfl) ?_ _
          go_wp2
          go_meet
          exact ⟨by rw [HR1.out]; first | rfl | simp [hzb], kd⟩
        · have hzb : (o != 0) = true := by simpa using hz
          have hze : (o == 0) = false := by simpa using hz
          rw [hze, Bool.false_or] at HM1
          clear hz hze
          cases r with
          | none =>
            have HC : RowKit.Hid (∀ W, Kept wr W → Calls Tryz.prog 117 #[.slice D u v, .int .i64 o] W fun e w' => e = .returned (.int .i64 (-1)) ∧ w' = W) := Lib.hid (fun W hW => by have := HC0.out W hW; unfold cmV at this; rw [hr] at this; exact this)
            have HR1 : RowKit.Hid (mt1 ms fs day found cls ows i = false) := Lib.hid (by rw [HM1.out, hr]; rfl)
            clear hr
            refine wp_region_held_drew (S := fun W => W.cell? ⟨w.heap.size, 0, none⟩ = some (.slice A n c) ∧ W.cell? ⟨w.heap.size, 1, none⟩ = some (.slice B m d) ∧ W.cell? ⟨ob, oo + i, none⟩ = some (.int .i64 o) ∧ W.cell? ⟨fb, fo + i * 6, none⟩ = some (.int .u8 s.s0) ∧ W.cell? ⟨fb, fo + i * 6 + 1, none⟩ = some (.int .u8 s.s1) ∧ W.cell? ⟨fb, fo + i * 6 + 2, none⟩ = some (.int .u8 s.s2) ∧ W.cell? ⟨fb, fo + i * 6 + 3, none⟩ = some (.int .u8 s.s3) ∧ W.cell? ⟨fb, fo + i * 6 + 4, none⟩ = some (.int .u8 s.s4) ∧ W.cell? ⟨fb, fo + i * 6 + 5, none⟩ = some (.int .u8 s.s5) ∧ Kept wr W) (by kernel_rfl) (SC.out _ kd) (fun hHeld => ?_)
            refine take_at (i := 0) (d := some 36) (v := ?_) rfl rfl (by kernel_rfl) (by kernel_rfl) (by kernel_rfl) (fun _ _ _ h => h) (Or.inl ⟨by rfl, ?_⟩) hHeld ?_
            rotate_left
            · intro w hSw
              try dsimp only at hSw
              go_simp
              try (with_reducible rfl)
            try simp only [Act.put, List.setIfInBounds_toArray, List.set_cons_zero, List.set_cons_succ]
            refine take_at (i := 1) (d := some 37) (v := ?_) rfl rfl (by kernel_rfl) (by kernel_rfl) (by kernel_rfl) (fun _ _ _ h => h) (Or.inl ⟨by rfl, ?_⟩) hHeld ?_
            rotate_left
            · intro w hSw
              try dsimp only at hSw
              go_simp
              try (with_reducible rfl)
            try simp only [Act.put, List.setIfInBounds_toArray, List.set_cons_zero, List.set_cons_succ]
            refine take_at (i := 2) (d := some 38) (v := ?_) rfl rfl (by kernel_rfl) (by kernel_rfl) (by kernel_rfl) (fun _ _ _ h => h) (Or.inl ⟨by rfl, ?_⟩) hHeld ?_
            rotate_left
            · intro w hSw
              try dsimp only at hSw
              go_simp
              try (with_reducible rfl)
            try simp only [Act.put, List.setIfInBounds_toArray, List.set_cons_zero, List.set_cons_succ]
            refine take_at (i := 3) (d := some 39) (v := ?_) rfl rfl (by kernel_rfl) (by kernel_rfl) (by kernel_rfl) (fun _ _ _ h => h) (Or.inl ⟨by rfl, ?_⟩) hHeld ?_
            rotate_left
            · intro w hSw
              try dsimp only at hSw
              go_simp
              try (with_reducible rfl)
            try simp only [Act.put, List.setIfInBounds_toArray, List.set_cons_zero, List.set_cons_succ]
            refine take_at (i := 4) (d := some 40) (v := ?_) rfl rfl (by kernel_rfl) (by kernel_rfl) (by kernel_rfl) (fun _ _ _ h => h) (Or.inl ⟨by rfl, ?_⟩) hHeld ?_
            rotate_left
            · intro w hSw
              try dsimp only at hSw
              go_simp
              try (with_reducible rfl)
            try simp only [Act.put, List.setIfInBounds_toArray, List.set_cons_zero, List.set_cons_succ]
            refine take_at (i := 5) (d := some 41) (v := ?_) rfl rfl (by kernel_rfl) (by kernel_rfl) (by kernel_rfl) (fun _ _ _ h => h) (Or.inl ⟨by rfl, ?_⟩) hHeld ?_
            rotate_left
            · intro w hSw
              try dsimp only at hSw
              go_simp
              try (with_reducible rfl)
            try simp only [Act.put, List.setIfInBounds_toArray, List.set_cons_zero, List.set_cons_succ]
            refine take_at (i := 6) (d := some 42) (v := ?_) rfl rfl (by kernel_rfl) (by kernel_rfl) (by kernel_rfl) (fun _ _ _ h => h) (Or.inl ⟨by rfl, ?_⟩) hHeld ?_
            rotate_left
            · intro w hSw
              try dsimp only at hSw
              go_simp
              try (with_reducible rfl)
            try simp only [Act.put, List.setIfInBounds_toArray, List.set_cons_zero, List.set_cons_succ]
            refine take_at (i := 7) (d := some 43) (v := ?_) rfl rfl (by kernel_rfl) (by kernel_rfl) (by kernel_rfl) (fun _ _ _ h => h) (Or.inl ⟨by rfl, ?_⟩) hHeld ?_
            rotate_left
            · intro w hSw
              try dsimp only at hSw
              go_simp
              try (with_reducible rfl)
            try simp only [Act.put, List.setIfInBounds_toArray, List.set_cons_zero, List.set_cons_succ]
            refine take_at (i := 8) (d := some 44) (v := ?_) rfl rfl (by kernel_rfl) (by kernel_rfl) (by kernel_rfl) (fun _ _ _ h => h) (Or.inl ⟨by rfl, ?_⟩) hHeld ?_
            rotate_left
            · intro w hSw
              try dsimp only at hSw
              go_simp
              try (with_reducible rfl)
            try simp only [Act.put, List.setIfInBounds_toArray, List.set_cons_zero, List.set_cons_succ]
            refine take_at (i := 9) (d := some 45) (v := ?_) rfl rfl (by kernel_rfl) (by kernel_rfl) (by kernel_rfl) (fun _ _ _ h => h) (Or.inl ⟨by rfl, ?_⟩) hHeld ?_
            rotate_left
            · intro w hSw
              try dsimp only at hSw
              go_simp
              try (with_reducible rfl)
            try simp only [Act.put, List.setIfInBounds_toArray, List.set_cons_zero, List.set_cons_succ]
            refine take_at (i := 10) (d := some 46) (v := ?_) rfl rfl (by kernel_rfl) (by kernel_rfl) (by kernel_rfl) (fun _ _ _ h => h) (Or.inl ⟨by rfl, ?_⟩) hHeld ?_
            rotate_left
            · intro w hSw
              try dsimp only at hSw
              go_simp
              try (with_reducible rfl)
            try simp only [Act.put, List.setIfInBounds_toArray, List.set_cons_zero, List.set_cons_succ]
            refine wpAnyH_ready (rs := [11]) (by kernel_rfl) (by simp) ?_
            refine AllReadyH.cons rfl (fun K hK => ?_) AllReadyH.nil
            rw [if_pos (by rfl)]
            go_simp
            refine (HC.out _ kd).mono ?_
            rintro e w9 ⟨rfl, rfl⟩
            go_wp2_with fail
            refine hK.out _ _ (SC.out _ kd) (fun hHeld => ?_)
            clear hK K
            try simp only [Act.put, List.setIfInBounds_toArray, List.set_cons_zero, List.set_cons_succ]
            refine take_at (i := 12) (d := some 48) (v := ?_) rfl rfl (by kernel_rfl) (by kernel_rfl) (by kernel_rfl) (fun _ _ _ h => h) (Or.inl ⟨by rfl, ?_⟩) hHeld ?_
            rotate_left
            · intro w hSw
              try dsimp only at hSw
              go_simp
              try (with_reducible rfl)
            try simp only [Act.put, List.setIfInBounds_toArray, List.set_cons_zero, List.set_cons_succ]
            refine take_at (i := 13) (d := some 49) (v := ?_) rfl rfl (by kernel_rfl) (by kernel_rfl) (by kernel_rfl) (fun _ _ _ h => h) (Or.inl ⟨by rfl, ?_⟩) hHeld ?_
            rotate_left
            · intro w hSw
              try dsimp only at hSw
              go_simp
              try (with_reducible rfl)
            try simp only [Act.put, List.setIfInBounds_toArray, List.set_cons_zero, List.set_cons_succ]
            refine take_at (i := 14) (d := some 50) (v := undef) rfl rfl (by kernel_rfl) (by kernel_rfl) (by kernel_rfl) (fun _ _ _ h => h) (Or.inr ⟨by rfl, rfl⟩) hHeld ?_
            try simp only [Act.put, List.setIfInBounds_toArray, List.set_cons_zero, List.set_cons_succ]
            refine take_at (i := 15) (d := some 51) (v := undef) rfl rfl (by kernel_rfl) (by kernel_rfl) (by kernel_rfl) (fun _ _ _ h => h) (Or.inr ⟨by rfl, rfl⟩) hHeld ?_
            try simp only [Act.put, List.setIfInBounds_toArray, List.set_cons_zero, List.set_cons_succ]
            refine take_at (i := 16) (d := some 52) (v := undef) rfl rfl (by kernel_rfl) (by kernel_rfl) (by kernel_rfl) (fun _ _ _ h => h) (Or.inr ⟨by rfl, rfl⟩) hHeld ?_
            try simp only [Act.put, List.setIfInBounds_toArray, List.set_cons_zero, List.set_cons_succ]
            refine take_at (i := 17) (d := some 53) (v := undef) rfl rfl (by kernel_rfl) (by kernel_rfl) (by kernel_rfl) (fun _ _ _ h => h) (Or.inr ⟨by rfl, rfl⟩) hHeld ?_
            try simp only [Act.put, List.setIfInBounds_toArray, List.set_cons_zero, List.set_cons_succ]
            refine take_at (i := 18) (d := some 54) (v := undef) rfl rfl (by kernel_rfl) (by kernel_rfl) (by kernel_rfl) (fun _ _ _ h => h) (Or.inr ⟨by rfl, rfl⟩) hHeld ?_
            try simp only [Act.put, List.setIfInBounds_toArray, List.set_cons_zero, List.set_cons_succ]
            refine take_at (i := 19) (d := some 55) (v := undef) rfl rfl (by kernel_rfl) (by kernel_rfl) (by kernel_rfl) (fun _ _ _ h => h) (Or.inr ⟨by rfl, rfl⟩) hHeld ?_
            try simp only [Act.put, List.setIfInBounds_toArray, List.set_cons_zero, List.set_cons_succ]
            refine take_at (i := 20) (d := some 56) (v := undef) rfl rfl (by kernel_rfl) (by kernel_rfl) (by kernel_rfl) (fun _ _ _ h => h) (Or.inr ⟨by rfl, rfl⟩) hHeld ?_
            try simp only [Act.put, List.setIfInBounds_toArray, List.set_cons_zero, List.set_cons_succ]
            refine take_at (i := 21) (d := some 57) (v := undef) rfl rfl (by kernel_rfl) (by kernel_rfl) (by kernel_rfl) (fun _ _ _ h => h) (Or.inr ⟨by rfl, rfl⟩) hHeld ?_
            try simp only [Act.put, List.setIfInBounds_toArray, List.set_cons_zero, List.set_cons_succ]
            refine take_at (i := 22) (d := some 58) (v := undef) rfl rfl (by kernel_rfl) (by kernel_rfl) (by kernel_rfl) (fun _ _ _ h => h) (Or.inr ⟨by rfl, rfl⟩) hHeld ?_
            try simp only [Act.put, List.setIfInBounds_toArray, List.set_cons_zero, List.set_cons_succ]
            refine take_at (i := 23) (d := some 59) (v := undef) rfl rfl (by kernel_rfl) (by kernel_rfl) (by kernel_rfl) (fun _ _ _ h => h) (Or.inr ⟨by rfl, rfl⟩) hHeld ?_
            try simp only [Act.put, List.setIfInBounds_toArray, List.set_cons_zero, List.set_cons_succ]
            refine take_at (i := 24) (d := some 60) (v := undef) rfl rfl (by kernel_rfl) (by kernel_rfl) (by kernel_rfl) (fun _ _ _ h => h) (Or.inr ⟨by rfl, rfl⟩) hHeld ?_
            try simp only [Act.put, List.setIfInBounds_toArray, List.set_cons_zero, List.set_cons_succ]
            refine take_at (i := 25) (d := some 61) (v := undef) rfl rfl (by kernel_rfl) (by kernel_rfl) (by kernel_rfl) (fun _ _ _ h => h) (Or.inr ⟨by rfl, rfl⟩) hHeld ?_
            try simp only [Act.put, List.setIfInBounds_toArray, List.set_cons_zero, List.set_cons_succ]
            refine take_at (i := 26) (d := some 62) (v := ?_) rfl rfl (by kernel_rfl) (by kernel_rfl) (by kernel_rfl) (fun _ _ _ h => h) (Or.inl ⟨by rfl, ?_⟩) hHeld ?_
            rotate_left
            · intro w hSw
              try dsimp only at hSw
              go_simp
              try (with_reducible rfl)
            try simp only [Act.put, List.setIfInBounds_toArray, List.set_cons_zero, List.set_cons_succ]
            refine take_at (i := 27) (d := some 63) (v := ?_) rfl rfl (by kernel_rfl) (by kernel_rfl) (by kernel_rfl) (fun _ _ _ h => h) (Or.inl ⟨by rfl, ?_⟩) hHeld ?_
            rotate_left
            · intro w hSw
              try dsimp only at hSw
              go_simp
              try (with_reducible rfl)
            try simp only [Act.put, List.setIfInBounds_toArray, List.set_cons_zero, List.set_cons_succ]
            refine wpAnyH_done (by kernel_rfl) ?_ _
            go_wp2
            go_meet
            exact ⟨by rw [HR1.out]; first | rfl | simp [hzb], kd⟩
          | some z =>
            have HC : RowKit.Hid (∀ W, Kept wr W → Calls Tryz.prog 117 #[.slice D u v, .int .i64 o] W fun e w' => e = .returned (.int .i64 (z : Int)) ∧ w' = W) := Lib.hid (fun W hW => by have := HC0.out W hW; unfold cmV at this; rw [hr] at this; exact this)
            have HR1 : RowKit.Hid (mt1 ms fs day found cls ows i = tb) := Lib.hid (by rw [HM1.out, hr]; rfl)
            have hz0 : (0 : Int) ≤ (z : Int) := by omega
            have hzl : decide ((z : Int) < 0) = false := by simp
            clear hr
            go_region_held3 (fun W => W.cell? ⟨w.heap.size, 0, none⟩ = some (.slice A n c) ∧ W.cell? ⟨w.heap.size, 1, none⟩ = some (.slice B m d) ∧ W.cell? ⟨ob, oo + i, none⟩ = some (.int .i64 o) ∧ W.cell? ⟨fb, fo + i * 6, none⟩ = some (.int .u8 s.s0) ∧ W.cell? ⟨fb, fo + i * 6 + 1, none⟩ = some (.int .u8 s.s1) ∧ W.cell? ⟨fb, fo + i * 6 + 2, none⟩ = some (.int .u8 s.s2) ∧ W.cell? ⟨fb, fo + i * 6 + 3, none⟩ = some (.int .u8 s.s3) ∧ W.cell? ⟨fb, fo + i * 6 + 4, none⟩ = some (.int .u8 s.s4) ∧ W.cell? ⟨fb, fo + i * 6 + 5, none⟩ = some (.int .u8 s.s5) ∧ Kept wr W)
              (first
                | (with_reducible exact SC.out _ kd)
                | (with_reducible exact SC.out _ kk2)
                | fail)
              (first
                | (go_at_call 117; with_reducible refine (HC.out _ kd).mono ?_; rintro e w9 ⟨rfl, rfl⟩)
                | (go_at_call 94; with_reducible refine (HT.out _ kd).mono ?_; rintro e w10 ⟨rfl, hk10⟩; have kk2 : Kept wr w10 := (by with_reducible exact kd.trans hk10))
                | fail)
            all_goals go_wp2
            all_goals go_meet
            all_goals exact ⟨by rw [HR1.out], kk2⟩
      case rest =>
        obtain ⟨rfl, hkc⟩ := hcut
        have HKC := Lib.hid (HKR.out.trans hkc)
        clear hkc hr
        cases hb : mt1 ms fs day found cls ows i with
        | true =>
          have HY := Lib.hid (HYES.out hb)
          rw [Bool.not_true]
          clear hb
          go_wp2_with fail
          go_roundw
          case rel => exact ⟨i + 1, by omega, by go_num, HY.out, HKC.out⟩
          case measure => simp [intOf]; omega
        | false =>
          have HF := Lib.hid (HNO.out hb)
          rw [Bool.not_false]
          clear hb
          go_wp2_with fail
          go_ret2
          exact MrP.of false HE.out (by rfl) HF.out (K0.out.trans HKC.out)
    · obtain rfl : i = x := by omega
      obtain ⟨Wk, hWk⟩ : ∃ Wk, Wk = wr := ⟨_, rfl⟩
      rw [← hWk] at HKR ⊢
      clear hWk
      go_wp2_with fail
      go_loopw [14, 15, 16] (fun k _ _ wr => ∃ k' : Nat, k' ≤ u ∧ k = .int .i64 k' ∧ (∀ j, j < k' → mt2 cls ows j = true) ∧ Kept W0 wr) (fun k _ _ _ => u - (intOf k).toNat)
      case atStart => exact ⟨0, by omega, by first | rfl | go_num, fun j hj => by omega, HKR.out⟩
      case round =>
        obtain ⟨k, hk, rfl, ho2, hkr⟩ := hrel
        have HO2 := Lib.hid ho2
        have HKK := Lib.hid hkr
        clear ho2 hkr
        by_cases hlt2 : k < u
        · obtain ⟨z, hz⟩ : ∃ z, cls[k]? = some z := ⟨_, List.getElem?_eq_getElem (by rw [HCN.out]; exact hlt2)⟩
          obtain ⟨cb, co, hD, htc⟩ := HCL.out.2.2.2.2 (by omega)
          subst hD
          have HZ0 : RowKit.Hid (W0.cell? ⟨cb, co + k * 2, none⟩ = some (.int .i64 z.own)) := Lib.hid (by have := htc k z hz 0 _ rfl; rwa [Nat.add_zero] at this)
          have HZ1 : RowKit.Hid (W0.cell? ⟨cb, co + k * 2 + 1, none⟩ = some (.int .i64 z.num)) := Lib.hid (htc k z hz 1 _ rfl)
          have HM2 : RowKit.Hid (mt2 cls ows k = (((cnO ows z.own i : Nat) : Int) == z.num)) := Lib.hid (by unfold mt2; rw [hz, HON.out])
          have HNO2 : RowKit.Hid (mt2 cls ows k = false → meR ms fs day found cls ows = false) := Lib.hid (fun h => meR_no2 (by rw [HCN.out]; exact hlt2) h)
          have HYES2 : RowKit.Hid (mt2 cls ows k = true → ∀ j, j < k + 1 → mt2 cls ows j = true) := Lib.hid (fun h j hj => by
            by_cases hji : j < k
            · exact HO2.out j hji
            · obtain rfl : j = k := by omega
              exact h)
          clear hz htc
          have hk0 : (0 : Int) ≤ (k : Int) := by omega
          have hk1 : (k : Int) < (u : Int) := by omega
          obtain ⟨Wk, hWk⟩ : ∃ Wk, Wk = wr := ⟨_, rfl⟩
          rw [← hWk] at HKK ⊢
          clear hWk
          go_wp2_with fail
          go_loopw [15, 16] (fun s j wr => ∃ j' S : Nat, j' ≤ i ∧ j = .int .i64 j' ∧ s = .int .i64 (S : Int) ∧ S ≤ j' ∧ S = cnO ows z.own j' ∧ Kept W0 wr) (fun _ j _ => i - (intOf j).toNat)
          case atStart => exact ⟨0, 0, by omega, by first | rfl | go_num, by first | rfl | go_num, by omega, by simp [cnO], HKK.out⟩
          case round =>
            obtain ⟨j, T, hj, rfl, rfl, hTj, hT, hkr⟩ := hrel
            have HT2 := Lib.hid hT
            have HKJ := Lib.hid hkr
            clear hT hkr
            have c2 := (HKJ.out.cells _ _ (cell_lt HZ0.out)).trans HZ0.out
            have c3 := (HKJ.out.cells _ _ (cell_lt HZ1.out)).trans HZ1.out
            have lc2 := cell_lt c2
            by_cases hlt3 : j < i
            · obtain ⟨o, hoo⟩ : ∃ o, ows[j]? = some o := ⟨_, List.getElem?_eq_getElem (by rw [HON.out]; exact hlt3)⟩
              obtain ⟨ob, oo, hG, hto⟩ := (HOW.out.kept HKJ.out).2.2.2 (by omega)
              subst hG
              have c4 := hto j o hoo
              have lc4 := cell_lt c4
              have HCS := Lib.hid (cnO_succ (o := z.own) hoo)
              rw [← HT2.out] at HCS
              have hj0 : (0 : Int) ≤ (j : Int) := by omega
              have hj1 : (j : Int) < (i : Int) := by omega
              clear hoo hto
              obtain ⟨bb, hbb⟩ : ∃ b, (o == z.own) = b := ⟨_, rfl⟩
              rw [hbb] at HCS
              cases bb with
              | true =>
                go_wp2_with fail
                go_quiet (fail)
                go_wp2_with fail
                go_roundw
                case rel => exact ⟨j + 1, T + 1, by omega, by go_num, by first | rfl | go_num, by omega, by rw [HCS.out]; simp, by first | exact HKJ.out.drewN _ | exact HKJ.out.drew | exact HKJ.out⟩
                case measure => simp [intOf]; omega
              | false =>
                go_wp2_with fail
                go_quiet (fail)
                go_wp2_with fail
                go_roundw
                case rel => exact ⟨j + 1, T, by omega, by go_num, rfl, by omega, by rw [HCS.out]; simp, by first | exact HKJ.out.drewN _ | exact HKJ.out.drew | exact HKJ.out⟩
                case measure => simp [intOf]; omega
            · obtain rfl : j = i := by omega
              rw [← HT2.out] at HM2
              obtain ⟨bb, hbb⟩ : ∃ b, ((T : Int) == z.num) = b := ⟨_, rfl⟩
              rw [hbb] at HM2
              cases bb with
              | true =>
                have h2 : ((T : Int) != z.num) = false := by rw [bne, hbb]; rfl
                have HY := Lib.hid (HYES2.out HM2.out)
                go_wp2_with fail
                go_roundw
                case rel => exact ⟨k + 1, by omega, by go_num, HY.out, HKJ.out⟩
                case measure => simp [intOf]; omega
              | false =>
                have h2 : ((T : Int) != z.num) = true := by rw [bne, hbb]; rfl
                have HF := Lib.hid (HNO2.out HM2.out)
                go_wp2_with fail
                go_ret2
                exact MrP.of false HE.out (by rfl) HF.out (K0.out.trans HKJ.out)
        · obtain rfl : k = u := by omega
          have HF : RowKit.Hid (meR ms fs day found cls ows = true) := Lib.hid (meR_yes HEQ.out (fun j hj => HO.out j (by rw [HON.out] at hj; exact hj)) (fun j hj => HO2.out j (by rw [HCN.out] at hj; exact hj)))
          go_wp2_with fail
          go_ret2
          exact MrP.of true HE.out (by rfl) HF.out (K0.out.trans HKK.out)
end Go.Proofs.YtologmoanaccpaaGreatDoor

namespace Go.Proofs.YtologmoanaccpaaGreatDoor
set_option linter.all false
open Go.RowKit Go.Shelf

theorem cnO_all (ows : List Int) (o : Int) : cnO ows o ows.length = ows.count o := by
  unfold cnO
  rw [List.take_length]
  rfl
theorem wc_own {cls : List Cl} (hc : ∀ c ∈ cls, claimB c = true) (hn : (cls.map Cl.own).Nodup) {c : Cl} (hm : c ∈ cls) : wc (clN cls) (wtL cls) c.own.toNat = c.num := by
  unfold wc
  rw [if_pos (by rw [clN_bit, List.any_eq_true]; exact ⟨c, hm, by simp⟩)]
  exact wtL_at hn (fun x hx => (claim_bd (hc x hx)).1) hm
theorem me_met {ms : List Mk} {fs : List Fd} {day : Int} {found : List Sg} {cls : List Cl} {ows : List Int} (g : GoodS ms fs found cls) : meR ms fs day found cls ows = true ↔ MetA (fitsN ms fs day found cls) (clN cls) (wtL cls) ows := by
  unfold meR MetA SkV
  rw [Bool.and_eq_true, Bool.and_eq_true, decide_eq_true_eq, List.all_eq_true, List.all_eq_true, show (fitsN ms fs day found cls).length = found.length by simp [fitsN]]
  have hfit : ∀ (b : Nat) (s : Sg), found[b]? = some s → (fitsN ms fs day found cls)[b]? = some (ownD ms fs day s &&& clN cls) := fun b s hs => by unfold fitsN; rw [List.getElem?_map, hs]; rfl
  have hbit : ∀ (c : Cl) (s : Sg), c ∈ cls → s ∈ found → (ownD ms fs day s &&& clN cls).testBit c.own.toNat = fitR ms fs day s c.own := fun c s hc hs => by
    have hb := (claim_bd (g.hc c hc)).1
    rw [Nat.testBit_and, ownD_bit g.hcl g.hmk, clN_bit, show (cls.any fun x => decide (x.own.toNat = c.own.toNat)) = true from List.any_eq_true.2 ⟨c, hc, by simp⟩, Bool.and_true, ← fitR_O g.hok g.hfo (g.hs s hs), show ((c.own.toNat : Nat) : Int) = c.own by omega]
  constructor
  · rintro ⟨hl, h1, h2⟩
    have hone : ∀ (b : Nat) (x : Int), ows[b]? = some x → x ≠ 0 → ∃ c ∈ cls, c.own = x ∧ ∃ f, (fitsN ms fs day found cls)[b]? = some f ∧ f.testBit x.toNat = true := fun b x hb hx => by
      have hbl := (List.getElem?_eq_some_iff.1 hb).1
      obtain ⟨s, hs⟩ : ∃ s, found[b]? = some s := ⟨_, List.getElem?_eq_getElem (by omega)⟩
      have h3 := h1 b (List.mem_range.2 hbl)
      unfold mt1 at h3
      rw [hb, hs] at h3
      simp only at h3
      rw [show (x == 0) = false by simpa using hx, Bool.false_or, Bool.and_eq_true] at h3
      obtain ⟨k, hk⟩ := Option.isSome_iff_exists.1 h3.1
      obtain ⟨c, hc, he⟩ := cmX_get hk
      have hm := List.mem_of_getElem? hc
      refine ⟨c, hm, he, _, hfit b s hs, ?_⟩
      rw [← he, hbit c s hm (List.mem_of_getElem? hs), he]
      exact h3.2
    refine ⟨⟨hl, fun b x hb hx => ?_⟩, fun o ho1 ho2 => ?_⟩
    · obtain ⟨c, hc, he, h4⟩ := hone b x hb hx
      have := (claim_bd (g.hc c hc)).1
      exact ⟨by omega, by omega, h4⟩
    · by_cases hcl : ∃ c ∈ cls, c.own = (o : Int)
      · obtain ⟨c, hc, he⟩ := hcl
        obtain ⟨k, hk⟩ := List.getElem?_of_mem hc
        have h3 := h2 k (List.mem_range.2 (List.getElem?_eq_some_iff.1 hk).1)
        unfold mt2 at h3
        rw [hk] at h3
        simp only at h3
        rw [beq_iff_eq, cnO_all] at h3
        have h4 := wc_own g.hc g.hn hc
        rw [he] at h3
        rw [he, Int.toNat_natCast] at h4
        rw [h4, h3]
      · have h4 : wc (clN cls) (wtL cls) o = 0 := by
          unfold wc
          split
          · exact wtL_none fun x hx e => hcl ⟨x, hx, by have := (claim_bd (g.hc x hx)).1; omega⟩
          · rfl
        rw [h4]
        have : ows.count (o : Int) = 0 := by
          rw [List.count_eq_zero]
          intro hm
          obtain ⟨b, hb⟩ := List.getElem?_of_mem hm
          obtain ⟨c, hc, he, _⟩ := hone b _ hb (by omega)
          exact hcl ⟨c, hc, he⟩
        omega
  · rintro ⟨⟨hl, h1⟩, h2⟩
    refine ⟨hl, fun i hi => ?_, fun k hk => ?_⟩
    · rw [List.mem_range] at hi
      obtain ⟨o, ho⟩ : ∃ o, ows[i]? = some o := ⟨_, List.getElem?_eq_getElem hi⟩
      obtain ⟨s, hs⟩ : ∃ s, found[i]? = some s := ⟨_, List.getElem?_eq_getElem (by omega)⟩
      unfold mt1
      rw [ho, hs]
      simp only
      by_cases hz : o = 0
      · rw [hz]; rfl
      · obtain ⟨h3, h4, f, hf, hb⟩ := h1 i o ho hz
        rw [hfit i s hs] at hf
        cases hf
        have h5 := hb
        rw [Nat.testBit_and, Bool.and_eq_true, clN_bit, List.any_eq_true] at h5
        obtain ⟨c, hc, he⟩ := h5.2
        have he : c.own.toNat = o.toNat := by simpa using he
        have hco := own_cl g.hc hc (x := o) (by omega) he
        obtain ⟨k, hk⟩ := List.getElem?_of_mem hc
        have h6 := hbit c s hc (List.mem_of_getElem? hs)
        rw [hco] at h6
        have h7 := cmX_own g.hn hk
        rw [hco] at h7
        rw [h7, ← h6, hb]
        simp
    · rw [List.mem_range] at hk
      have hkk : cls[k]? = some cls[k] := List.getElem?_eq_getElem hk
      have hm := List.mem_of_getElem? hkk
      have hb := (claim_bd (g.hc _ hm)).1
      unfold mt2
      rw [hkk]
      simp only
      rw [beq_iff_eq, cnO_all]
      have h3 := h2 cls[k].own.toNat (by omega) (by omega)
      rw [wc_own g.hc g.hn hm, show ((cls[k].own.toNat : Nat) : Int) = cls[k].own by omega] at h3
      exact h3
end Go.Proofs.YtologmoanaccpaaGreatDoor
