/-
  'Kept w w'': all that lay in w lies in w' as it lay; new blocks and draws may have come.
  Plain mathematics of fractions: no Go in sight.
  The walks of the fractions' small functions.
  valid, and what stands on it.
  plus, minus, times.
  times.
  reckon: a calculation that may panic.
  Norm, combine, Add, Sub, Mul.
  Norm, Add, Sub, Mul.
-/
import Derived.Test.YtcjpecdnenemaaaGreatDoorProg
import Derived.Below
import Derived.WalkSmall
import Derived.WalkKit
import Derived.Lib.Hide
import Derived.Deep.QuietTactic
import Derived.BigQuiet
import Derived.WalkLawsBesides
import Derived.Outline
import Derived.Deep.RegionWith
import Derived.IntWalk
import Derived.RegionDies
import Derived.Defers
import Derived.Recover
import Derived.Tactics2
import Derived.Shelf.Abstract
namespace Go.Proofs.YtcjpecdnenemaaaGreatDoor
set_option linter.unusedVariables false
open Go.RowKit

def Kept (w w' : World) : Prop := Below w.heap.size w w'

theorem Kept.below {w w' : World} (h : Kept w w') : Below w.heap.size w w' := h
theorem Kept.refl (w : World) : Kept w w := Below.refl _ _
theorem Kept.alloc {w w1 : World} (h : Kept w w1) (o : Obj) : Kept w (w1.alloc o) := Below.alloc h h.size o
theorem Kept.drew {w w1 : World} (h : Kept w w1) : Kept w w1.drew := Below.drew h
theorem Kept.drewN {w w1 : World} (h : Kept w w1) (n : Nat) : Kept w (w1.drewN n) := below_drewN h n
theorem Kept.trans {a b c : World} (h : Kept a b) (k : Kept b c) : Kept a c := Below.trans h (Below.mono k h.size)
theorem Kept.setCell {w w1 : World} (h : Kept w w1) {p : Addr} (hp : w.heap.size ≤ p.block) (u : Value) : Kept w (w1.setCell p u) := Below.setCell h hp u
theorem Kept.grown {w w1 w2 : World} {row : Option Nat} (h : Kept w w1) (hg : w1.grownBy w2 row) (hr : ∀ k, row = some k → w.heap.size ≤ k) : Kept w w2 := Below.grown h hg h.size hr
theorem Kept.of_quiet {w w1 : World} (h : ∃ n, w.drewN n = w1) : Kept w w1 := by obtain ⟨n, rfl⟩ := h; exact (Kept.refl w).drewN n
theorem Kept.size {w w' : World} (h : Kept w w') : w.heap.size ≤ w'.heap.size := Below.size h
theorem Kept.cells {w w' : World} (h : Kept w w') : ∀ b o, b < w.heap.size → w'.cell? ⟨b, o, none⟩ = w.cell? ⟨b, o, none⟩ := fun b o hb => Below.cell h (p := ⟨b, o, none⟩) hb
theorem Kept.frozens {w w' : World} (h : Kept w w') : ∀ b o, b < w.heap.size → w'.frozen? ⟨b, o, none⟩ = w.frozen? ⟨b, o, none⟩ := fun b o hb => Below.frozen h (p := ⟨b, o, none⟩) hb
theorem Kept.facts {w w' : World} (h : Kept w w') : (∀ b o, b < w.heap.size → w'.cell? ⟨b, o, none⟩ = w.cell? ⟨b, o, none⟩) ∧ (∀ b o, b < w.heap.size → w'.frozen? ⟨b, o, none⟩ = w.frozen? ⟨b, o, none⟩) ∧ w.heap.size ≤ w'.heap.size := ⟨h.cells, h.frozens, h.size⟩
theorem Kept.block {w w' : World} (h : Kept w w') : ∀ k, k < w.heap.size → w'.heap[k]? = w.heap[k]? := Below.block h

theorem cell_lt {w : World} {b o : Nat} {v : Value} (h : w.cell? ⟨b, o, none⟩ = some v) : b < w.heap.size := by
  rcases Nat.lt_or_ge b w.heap.size with hlt | hge
  · exact hlt
  · simp [World.cell?, Array.getElem?_eq_none hge] at h
theorem ret_bool {a b : Bool} (h : a = b) : Ending.returned (.bool a) = Ending.returned (.bool b) := by rw [h]
theorem ret_int {k : IntKind} {a b : Int} (h : a = b) : Ending.returned (.int k a) = .returned (.int k b) := by rw [h]
theorem quiet_any {P : Program} {f : FuncId} {args : Array Value} {w : World} {n : Nat} {v : Value} (h : ∀ W : World, Calls P f args W fun e w' => e = .returned v ∧ ∃ m, W.drewN m = w') :
    Calls P f args (w.drewN n) fun e w'' => e = .returned v ∧ ∃ m, w'' = w.drewN m :=
  (h _).mono fun _ _ ⟨he, m, hm⟩ => ⟨he, n + m, by rw [← hm, World.drewN_drewN]⟩
theorem quiet_any0 {P : Program} {f : FuncId} {args : Array Value} {w : World} {v : Value} (h : ∀ W : World, Calls P f args W fun e w' => e = .returned v ∧ ∃ m, W.drewN m = w') :
    Calls P f args w fun e w'' => e = .returned v ∧ ∃ m, w'' = w.drewN m :=
  (h _).mono fun _ _ ⟨he, m, hm⟩ => ⟨he, m, hm.symm⟩
end Go.Proofs.YtcjpecdnenemaaaGreatDoor

namespace Go.Proofs.YtcjpecdnenemaaaGreatDoor

def inB (n lo hi : Int) : Bool := decide (lo ≤ n) && decide (n ≤ hi)
def gcdI (a b : Int) : Int := (Int.gcd a b : Nat)
def vld (n d : Int) : Bool := inB d 1 1000000 && inB n (-1000000000000) 1000000000000 && (gcdI n d == 1)

theorem inB_iff {n lo hi : Int} : inB n lo hi = true ↔ lo ≤ n ∧ n ≤ hi := by simp [inB]
theorem gcdI_nonneg (a b : Int) : 0 ≤ gcdI a b := by unfold gcdI; omega
theorem gcdI_zero (a : Int) : gcdI a 0 = max a (-a) := by
  unfold gcdI; rw [Int.gcd_zero_right]; omega
theorem gcdI_step (a b : Int) : gcdI b (a.tmod b) = gcdI a b := by
  unfold gcdI
  congr 1
  rw [Int.gcd_eq_natAbs_gcd_natAbs, Int.gcd_eq_natAbs_gcd_natAbs, Int.natAbs_tmod, Nat.gcd_comm, ← Nat.gcd_rec, Nat.gcd_comm]
theorem tmod_lt {a b : Int} (hb : b ≠ 0) : (a.tmod b).natAbs < b.natAbs := by
  rw [Int.natAbs_tmod]; exact Nat.mod_lt _ (by omega)
theorem vld_iff {n d : Int} : vld n d = true ↔ (1 ≤ d ∧ d ≤ 1000000) ∧ (-1000000000000 ≤ n ∧ n ≤ 1000000000000) ∧ gcdI n d = 1 := by
  simp [vld, inB, and_assoc]
end Go.Proofs.YtcjpecdnenemaaaGreatDoor

namespace Go.Proofs.YtcjpecdnenemaaaGreatDoor
set_option linter.unusedVariables false
open Go.RowKit

theorem within_any (n lo hi : Int) (w : World) :
    Calls Tryz.prog 82 #[.int .i64 n, .int .i64 lo, .int .i64 hi] w fun e w' => e = .returned (.bool (inB n lo hi)) ∧ w = w' := by
  by_cases h1 : lo ≤ n
  · by_cases h2 : n ≤ hi
    · go_enter Tryz.func82, Tryz.ntmps82
      go_wp2
      go_ret
      exact ⟨ret_bool (by rw [Bool.eq_iff_iff, inB_iff]; simp; omega), rfl⟩
    · go_enter Tryz.func82, Tryz.ntmps82
      go_wp2
      go_ret
      exact ⟨ret_bool (by rw [Bool.eq_iff_iff, inB_iff]; simp; omega), rfl⟩
  · go_enter Tryz.func82, Tryz.ntmps82
    go_wp2
    go_ret
    exact ⟨ret_bool (by rw [Bool.eq_iff_iff, inB_iff]; simp; omega), rfl⟩

theorem distance_any (n : Int) (h0 : -9223372036854775808 < n) (h1 : n ≤ 9223372036854775807) (w : World) :
    Calls Tryz.prog 148 #[.int .i64 n] w fun e w' => e = .returned (.int .i64 (max n (-n))) ∧ w = w' := by
  go_enter Tryz.func148, Tryz.ntmps148
  go_wp2
  all_goals
    go_ret
    exact ⟨ret_int (by omega), rfl⟩

theorem gcdI_bd {a b : Int} (h : b ≠ 0) : 1 ≤ gcdI a b := by
  unfold gcdI
  have : 0 < Int.gcd a b := Nat.pos_of_ne_zero (fun e => h (Int.gcd_eq_zero_iff.1 e).2)
  omega

theorem divisor_any (a b : Int) (h0 : -9223372036854775808 < a) (h1 : a ≤ 9223372036854775807) (h2 : -9223372036854775808 < b) (h3 : b ≤ 9223372036854775807) (w : World) :
    Calls Tryz.prog 144 #[.int .i64 a, .int .i64 b] w fun e w' => e = .returned (.int .i64 (gcdI a b)) ∧ ∃ n, w.drewN n = w' := by
  go_enter Tryz.func144, Tryz.ntmps144
  go_wp2
  go_loopw [0, 1] (fun u v wr => ∃ x y : Int, u = .int .i64 x ∧ v = .int .i64 y ∧ -9223372036854775808 < x ∧ x ≤ 9223372036854775807 ∧ -9223372036854775808 < y ∧ y ≤ 9223372036854775807 ∧ gcdI x y = gcdI a b ∧ ∃ n, w.drewN n = wr) (fun _ v _ => (intOf v).natAbs)
  case atStart => exact ⟨a, b, rfl, rfl, h0, h1, h2, h3, rfl, 0, rfl⟩
  case round =>
    obtain ⟨x, y, rfl, rfl, g0, g1, g2, g3, hg, n, rfl⟩ := hrel
    have Hg := Lib.hid hg
    clear hg
    by_cases hy : y = 0
    · subst hy
      go_wp2_with (go_at_call 148; refine (distance_any _ (by omega) (by omega) _).mono ?_; rintro e w' ⟨rfl, rfl⟩)
      go_ret
      exact ⟨ret_int (by rw [← Hg.out, gcdI_zero]), n, rfl⟩
    · have hy' : (y == 0) = false := by simp [hy]
      have hy2 : (y != 0) = true := by simp [hy]
      have hlt := tmod_lt (a := x) hy
      have Hs := Lib.hid ((gcdI_step x y).trans Hg.out)
      have hw : wrap64 (x.tmod y) = x.tmod y := by unfold wrap64; omega
      go_wp2
      go_region
      go_roundw
      case rel =>
        refine ⟨_, _, _, _, _, _, _, _, ?_, rfl⟩
        exact ⟨y, x.tmod y, rfl, by first | rfl | rw [hw], by omega, by omega, by omega, by omega, Hs.out, n + 1, rfl⟩
      case measure => simpa [intOf, hw] using hlt
end Go.Proofs.YtcjpecdnenemaaaGreatDoor

namespace Go.Proofs.YtcjpecdnenemaaaGreatDoor
set_option linter.unusedVariables false
open Go.RowKit

theorem valid_any (n d : Int) (w : World) :
    Calls Tryz.prog 88 #[.agg #[.int .i64 n, .int .i64 d]] w fun e w' => e = .returned (.bool (vld n d)) ∧ Kept w w' := by
  by_cases h1 : inB d 1 1000000 = true
  · by_cases h2 : inB n (-1000000000000) 1000000000000 = true
    · have b1 := inB_iff.1 h1
      have b2 := inB_iff.1 h2
      obtain ⟨b1l, b1h⟩ := b1
      obtain ⟨b2l, b2h⟩ := b2
      go_enter Tryz.func88, Tryz.ntmps88
      go_wp2_with (first | (go_at_call 82; refine (within_any _ _ _ _).mono ?_; rintro e w' ⟨rfl, rfl⟩) | (go_at_call 144; refine (divisor_any _ _ (by omega) (by omega) (by omega) (by omega) _).mono ?_; rintro e w' ⟨rfl, n, rfl⟩))
      go_ret
      exact ⟨ret_bool (by simp [vld, h1, h2]), ((Kept.refl _).alloc _).drewN _⟩
    · have h2' : inB n (-1000000000000) 1000000000000 = false := by simpa using h2
      go_enter Tryz.func88, Tryz.ntmps88
      go_wp2_with (first | (go_at_call 82; refine (within_any _ _ _ _).mono ?_; rintro e w' ⟨rfl, rfl⟩))
      go_ret
      exact ⟨ret_bool (by simp [vld, h2']), (Kept.refl _).alloc _⟩
  · have h1' : inB d 1 1000000 = false := by simpa using h1
    go_enter Tryz.func88, Tryz.ntmps88
    go_wp2_with (first | (go_at_call 82; refine (within_any _ _ _ _).mono ?_; rintro e w' ⟨rfl, rfl⟩))
    go_ret
    exact ⟨ret_bool (by simp [vld, h1']), (Kept.refl _).alloc _⟩

/-- num / den in lowest terms, if that is in range -/
def lowF (n d : Int) : Option (Int × Int) :=
  let g := if d < 0 then -gcdI n d else gcdI n d
  if vld (n.tdiv g) (d.tdiv g) then some (n.tdiv g, d.tdiv g) else none
def limPanic : List PanicEntry := [{ v := .iface 24 (.int .i64 2), recovered := false }]
theorem tdiv_bd (a b : Int) (h : -9223372036854775808 < a) (h1 : a ≤ 9223372036854775807) : -9223372036854775808 < a.tdiv b ∧ a.tdiv b ≤ 9223372036854775807 := by
  have h2 : (a.tdiv b).natAbs ≤ a.natAbs := by rw [Int.natAbs_tdiv]; exact Nat.div_le_self _ _
  omega

theorem gcdI_le {a b : Int} (h : b ≠ 0) : gcdI a b ≤ b.natAbs := by
  unfold gcdI
  have : Int.gcd a b ∣ b.natAbs := Int.gcd_dvd_natAbs_right a b
  have := Nat.le_of_dvd (by omega) this
  omega
theorem lowF_some {n d x y : Int} (h : lowF n d = some (x, y)) : vld x y = true ∧ n.tdiv (if d < 0 then -gcdI n d else gcdI n d) = x ∧ d.tdiv (if d < 0 then -gcdI n d else gcdI n d) = y := by
  unfold lowF at h
  generalize (if d < 0 then -gcdI n d else gcdI n d) = g at h ⊢
  by_cases hv : vld (n.tdiv g) (d.tdiv g) = true
  · simp only [hv, if_true, Option.some.injEq, Prod.mk.injEq] at h
    obtain ⟨rfl, rfl⟩ := h
    exact ⟨hv, rfl, rfl⟩
  · simp [hv] at h

theorem lowest_some (n d x y : Int) (h0 : -9223372036854775808 < n) (h1 : n ≤ 9223372036854775807) (h2 : -9223372036854775808 < d) (h3 : d ≤ 9223372036854775807) (hd : d ≠ 0)
    (hr : lowF n d = some (x, y)) (w : World) :
    Calls Tryz.prog 85 #[.int .i64 n, .int .i64 d] w fun e w' => e = .returned (.agg #[.int .i64 x, .int .i64 y]) ∧ Kept w w' := by
  have hg := gcdI_bd (a := n) hd
  have hg2 := gcdI_le (a := n) hd
  obtain ⟨hv, hx, hy⟩ := lowF_some hr
  clear hr
  by_cases hneg : d < 0
  · rw [if_pos hneg] at hx hy
    have bx := tdiv_bd n (-gcdI n d) h0 h1
    have bY := tdiv_bd d (-gcdI n d) h2 h3
    rw [hx] at bx
    rw [hy] at bY
    have hne : ¬ (-gcdI n d = 0) := by omega
    obtain ⟨bx1, bx2⟩ := bx
    obtain ⟨by1, by2⟩ := bY
    go_enter Tryz.func85, Tryz.ntmps85
    go_wp2_with (first | (go_at_call 144; refine (divisor_any _ _ (by omega) (by omega) (by omega) (by omega) _).mono ?_; rintro e w' ⟨rfl, m, rfl⟩))
    go_region
    go_wp2_with (first | (go_at_call 88; refine (valid_any _ _ _).mono ?_; rintro e w1 ⟨rfl, hk⟩; obtain ⟨hc1, hf1, hz1⟩ := hk.facts))
    have e0 : w1.cell? ⟨w.heap.size, 0, none⟩ = some (.int .i64 0) := by rw [hc1 _ _ (by simp; omega)]; simp [go_sem]
    have e1 : w1.cell? ⟨w.heap.size, 1, none⟩ = some (.int .i64 0) := by rw [hc1 _ _ (by simp; omega)]; simp [go_sem]
    refine bodyPost_ret (v := .agg #[.int .i64 x, .int .i64 y]) (by simp [results, Tryz.results85, go_sem, e0, e1]) rfl ⟨rfl, ?_⟩
    exact (((((Kept.refl _).alloc _).drewN _).alloc _).trans hk |>.setCell (by simp) _).setCell (by simp) _
  · rw [if_neg hneg] at hx hy
    have bx := tdiv_bd n (gcdI n d) h0 h1
    have bY := tdiv_bd d (gcdI n d) h2 h3
    rw [hx] at bx
    rw [hy] at bY
    have hne : ¬ (gcdI n d = 0) := by omega
    obtain ⟨bx1, bx2⟩ := bx
    obtain ⟨by1, by2⟩ := bY
    have hy2 : d / gcdI n d = y := by rw [← hy, Int.tdiv_eq_ediv_of_nonneg (by omega)]
    go_enter Tryz.func85, Tryz.ntmps85
    go_wp2_with (first | (go_at_call 144; refine (divisor_any _ _ (by omega) (by omega) (by omega) (by omega) _).mono ?_; rintro e w' ⟨rfl, m, rfl⟩))
    go_region
    go_wp2_with (first | (go_at_call 88; refine (valid_any _ _ _).mono ?_; rintro e w1 ⟨rfl, hk⟩; obtain ⟨hc1, hf1, hz1⟩ := hk.facts))
    have e0 : w1.cell? ⟨w.heap.size, 0, none⟩ = some (.int .i64 0) := by rw [hc1 _ _ (by simp; omega)]; simp [go_sem]
    have e1 : w1.cell? ⟨w.heap.size, 1, none⟩ = some (.int .i64 0) := by rw [hc1 _ _ (by simp; omega)]; simp [go_sem]
    refine bodyPost_ret (v := .agg #[.int .i64 x, .int .i64 y]) (by simp [results, Tryz.results85, go_sem, e0, e1]) rfl ⟨rfl, ?_⟩
    exact (((((Kept.refl _).alloc _).drewN _).alloc _).trans hk |>.setCell (by simp) _).setCell (by simp) _

theorem lowF_none {n d : Int} (h : lowF n d = none) : vld (n.tdiv (if d < 0 then -gcdI n d else gcdI n d)) (d.tdiv (if d < 0 then -gcdI n d else gcdI n d)) = false := by
  unfold lowF at h
  generalize (if d < 0 then -gcdI n d else gcdI n d) = g at h ⊢
  by_cases hv : vld (n.tdiv g) (d.tdiv g) = true
  · simp [hv] at h
  · simpa using hv
theorem lowest_none (n d : Int) (h0 : -9223372036854775808 < n) (h1 : n ≤ 9223372036854775807) (h2 : -9223372036854775808 < d) (h3 : d ≤ 9223372036854775807) (hd : d ≠ 0)
    (hr : lowF n d = none) (w : World) :
    Calls Tryz.prog 85 #[.int .i64 n, .int .i64 d] w fun e w' => e = .panicked limPanic ∧ Kept w w' := by
  have hg := gcdI_bd (a := n) hd
  have hg2 := gcdI_le (a := n) hd
  have hv := lowF_none hr
  clear hr
  by_cases hneg : d < 0
  · rw [if_pos hneg] at hv
    have bx := tdiv_bd n (-gcdI n d) h0 h1
    have bY := tdiv_bd d (-gcdI n d) h2 h3
    generalize hx : n.tdiv (-gcdI n d) = x at *
    generalize hy : d.tdiv (-gcdI n d) = y at *
    have hne : ¬ (-gcdI n d = 0) := by omega
    obtain ⟨bx1, bx2⟩ := bx
    obtain ⟨by1, by2⟩ := bY
    go_enter Tryz.func85, Tryz.ntmps85
    go_wp2_with (first | (go_at_call 144; refine (divisor_any _ _ (by omega) (by omega) (by omega) (by omega) _).mono ?_; rintro e w' ⟨rfl, m, rfl⟩))
    go_region
    go_wp2_with (first | (go_at_call 88; refine (valid_any _ _ _).mono ?_; rintro e w1 ⟨rfl, hk⟩; obtain ⟨hc1, hf1, hz1⟩ := hk.facts))
    refine ⟨rfl, rfl, ?_⟩
    exact ((((Kept.refl _).alloc _).drewN _).alloc _).trans hk
  · rw [if_neg hneg] at hv
    have bx := tdiv_bd n (gcdI n d) h0 h1
    have bY := tdiv_bd d (gcdI n d) h2 h3
    have hy2 : d / gcdI n d = d.tdiv (gcdI n d) := by rw [Int.tdiv_eq_ediv_of_nonneg (by omega)]
    generalize hx : n.tdiv (gcdI n d) = x at *
    generalize hy : d.tdiv (gcdI n d) = y at *
    have hne : ¬ (gcdI n d = 0) := by omega
    obtain ⟨bx1, bx2⟩ := bx
    obtain ⟨by1, by2⟩ := bY
    go_enter Tryz.func85, Tryz.ntmps85
    go_wp2_with (first | (go_at_call 144; refine (divisor_any _ _ (by omega) (by omega) (by omega) (by omega) _).mono ?_; rintro e w' ⟨rfl, m, rfl⟩))
    go_region
    go_wp2_with (first | (go_at_call 88; refine (valid_any _ _ _).mono ?_; rintro e w1 ⟨rfl, hk⟩; obtain ⟨hc1, hf1, hz1⟩ := hk.facts))
    refine ⟨rfl, rfl, ?_⟩
    exact ((((Kept.refl _).alloc _).drewN _).alloc _).trans hk
end Go.Proofs.YtcjpecdnenemaaaGreatDoor

namespace Go.Proofs.YtcjpecdnenemaaaGreatDoor
set_option linter.unusedVariables false
open Go.RowKit

/-- in the bounds of a valid fraction -/
def Bd (n d : Int) : Prop := (1 ≤ d ∧ d ≤ 1000000) ∧ (-1000000000000 ≤ n ∧ n ≤ 1000000000000)
theorem vld_bd {n d : Int} (h : vld n d = true) : Bd n d := ⟨(vld_iff.1 h).1, (vld_iff.1 h).2.1⟩
theorem mul_bd {n d : Int} (A B : Int) (h : -A ≤ n) (h1 : n ≤ A) (k : 0 ≤ d) (k1 : d ≤ B) (hA : 0 ≤ A) : -(A * B) ≤ n * d ∧ n * d ≤ A * B := by
  constructor
  · have e1 : -A * d ≤ n * d := Int.mul_le_mul_of_nonneg_right h k
    have e2 : A * d ≤ A * B := Int.mul_le_mul_of_nonneg_left k1 hA
    have e3 : -A * d = -(A * d) := by rw [Int.neg_mul]
    omega
  · have e1 : n * d ≤ A * d := Int.mul_le_mul_of_nonneg_right h1 k
    have e2 : A * d ≤ A * B := Int.mul_le_mul_of_nonneg_left k1 hA
    omega
theorem mul_pos1 {a b : Int} (h : 1 ≤ a) (k : 1 ≤ b) : 1 ≤ a * b := by
  have := Int.mul_le_mul h k (by omega) (by omega)
  omega

theorem plus_some (an ad bn bd x y : Int) (ha : Bd an ad) (hb : Bd bn bd) (hr : lowF (an * bd + bn * ad) (ad * bd) = some (x, y)) (w : World) :
    Calls Tryz.prog 94 #[.agg #[.int .i64 an, .int .i64 ad], .agg #[.int .i64 bn, .int .i64 bd]] w fun e w' => e = .returned (.agg #[.int .i64 x, .int .i64 y]) ∧ Kept w w' := by
  obtain ⟨⟨a1, a2⟩, a3, a4⟩ := ha
  obtain ⟨⟨b1, b2⟩, b3, b4⟩ := hb
  have p1 := mul_bd 1000000000000 1000000 a3 a4 (by omega) b2 (by omega)
  have p2 := mul_bd 1000000000000 1000000 b3 b4 (by omega) a2 (by omega)
  have p3 := mul_bd (n := ad) (d := bd) 1000000 1000000 (by omega) a2 (by omega) b2 (by omega)
  have p4 := mul_pos1 a1 b1
  obtain ⟨p11, p12⟩ := p1
  obtain ⟨p21, p22⟩ := p2
  obtain ⟨p31, p32⟩ := p3
  have Hr := Lib.hid hr
  clear hr
  go_enter Tryz.func94, Tryz.ntmps94
  go_wp2_with (go_at_call 85; refine (lowest_some _ _ x y (by omega) (by omega) (by omega) (by omega) (by omega) Hr.out _).mono ?_; rintro e w1 ⟨rfl, hk⟩; obtain ⟨hc1, hf1, hz1⟩ := hk.facts)
  have e0 : w1.cell? ⟨w.heap.size + 1 + 1, 0, none⟩ = some (.int .i64 0) := by rw [hc1 _ _ (by first | (simp; done) | (simp; omega))]; simp [go_sem]
  have e1 : w1.cell? ⟨w.heap.size + 1 + 1, 1, none⟩ = some (.int .i64 0) := by rw [hc1 _ _ (by first | (simp; done) | (simp; omega))]; simp [go_sem]
  refine bodyPost_ret (v := .agg #[.int .i64 x, .int .i64 y]) (by simp [results, Tryz.results94, go_sem, e0, e1]) rfl ⟨rfl, ?_⟩
  exact ((((((Kept.refl _).alloc _).alloc _).alloc _).trans hk) |>.setCell (by first | (simp; done) | (simp; omega)) _).setCell (by first | (simp; done) | (simp; omega)) _

theorem plus_none (an ad bn bd : Int) (ha : Bd an ad) (hb : Bd bn bd) (hr : lowF (an * bd + bn * ad) (ad * bd) = none) (w : World) :
    Calls Tryz.prog 94 #[.agg #[.int .i64 an, .int .i64 ad], .agg #[.int .i64 bn, .int .i64 bd]] w fun e w' => e = .panicked limPanic ∧ Kept w w' := by
  obtain ⟨⟨a1, a2⟩, a3, a4⟩ := ha
  obtain ⟨⟨b1, b2⟩, b3, b4⟩ := hb
  have p1 := mul_bd 1000000000000 1000000 a3 a4 (by omega) b2 (by omega)
  have p2 := mul_bd 1000000000000 1000000 b3 b4 (by omega) a2 (by omega)
  have p3 := mul_bd (n := ad) (d := bd) 1000000 1000000 (by omega) a2 (by omega) b2 (by omega)
  have p4 := mul_pos1 a1 b1
  obtain ⟨p11, p12⟩ := p1
  obtain ⟨p21, p22⟩ := p2
  obtain ⟨p31, p32⟩ := p3
  have Hr := Lib.hid hr
  clear hr
  go_enter Tryz.func94, Tryz.ntmps94
  go_wp2_with (go_at_call 85; refine (lowest_none _ _ (by omega) (by omega) (by omega) (by omega) (by omega) Hr.out _).mono ?_; rintro e w1 ⟨rfl, hk⟩)
  exact ⟨rfl, rfl, (((((Kept.refl _).alloc _).alloc _).alloc _).trans hk)⟩

theorem Bd.neg {n d : Int} (h : Bd n d) : Bd (-n) d := ⟨h.1, by have := h.2; omega⟩
theorem minus_some (an ad bn bd x y : Int) (ha : Bd an ad) (hb : Bd bn bd) (hr : lowF (an * bd + -bn * ad) (ad * bd) = some (x, y)) (w : World) :
    Calls Tryz.prog 95 #[.agg #[.int .i64 an, .int .i64 ad], .agg #[.int .i64 bn, .int .i64 bd]] w fun e w' => e = .returned (.agg #[.int .i64 x, .int .i64 y]) ∧ Kept w w' := by
  have hb' := hb.neg
  obtain ⟨⟨a1, a2⟩, a3, a4⟩ := ha
  obtain ⟨⟨b1, b2⟩, b3, b4⟩ := hb
  have Hr := Lib.hid hr
  clear hr
  go_enter Tryz.func95, Tryz.ntmps95
  go_wp2_with (go_at_call 94; refine (plus_some _ _ _ _ x y ⟨⟨a1, a2⟩, a3, a4⟩ hb' Hr.out _).mono ?_; rintro e w1 ⟨rfl, hk⟩; obtain ⟨hc1, hf1, hz1⟩ := hk.facts)
  have e0 : w1.cell? ⟨w.heap.size + 1 + 1, 0, none⟩ = some (.int .i64 0) := by rw [hc1 _ _ (by first | (simp; done) | (simp; omega))]; simp [go_sem]
  have e1 : w1.cell? ⟨w.heap.size + 1 + 1, 1, none⟩ = some (.int .i64 0) := by rw [hc1 _ _ (by first | (simp; done) | (simp; omega))]; simp [go_sem]
  refine bodyPost_ret (v := .agg #[.int .i64 x, .int .i64 y]) (by simp [results, Tryz.results95, go_sem, e0, e1]) rfl ⟨rfl, ?_⟩
  exact ((((((Kept.refl _).alloc _).alloc _).alloc _).trans hk) |>.setCell (by first | (simp; done) | (simp; omega)) _).setCell (by first | (simp; done) | (simp; omega)) _

theorem minus_none (an ad bn bd : Int) (ha : Bd an ad) (hb : Bd bn bd) (hr : lowF (an * bd + -bn * ad) (ad * bd) = none) (w : World) :
    Calls Tryz.prog 95 #[.agg #[.int .i64 an, .int .i64 ad], .agg #[.int .i64 bn, .int .i64 bd]] w fun e w' => e = .panicked limPanic ∧ Kept w w' := by
  have hb' := hb.neg
  obtain ⟨⟨a1, a2⟩, a3, a4⟩ := ha
  obtain ⟨⟨b1, b2⟩, b3, b4⟩ := hb
  have Hr := Lib.hid hr
  clear hr
  go_enter Tryz.func95, Tryz.ntmps95
  go_wp2_with (go_at_call 94; refine (plus_none _ _ _ _ ⟨⟨a1, a2⟩, a3, a4⟩ hb' Hr.out _).mono ?_; rintro e w1 ⟨rfl, hk⟩)
  exact ⟨rfl, rfl, (((((Kept.refl _).alloc _).alloc _).alloc _).trans hk)⟩

end Go.Proofs.YtcjpecdnenemaaaGreatDoor

namespace Go.Proofs.YtcjpecdnenemaaaGreatDoor
set_option linter.unusedVariables false
open Go.RowKit

/-- the product: what divides is taken out first -/
def mulF (an ad bn bd : Int) : Option (Int × Int) :=
  let g := gcdI an bd
  let h := gcdI bn ad
  let x := an.tdiv g
  let y := bn.tdiv h
  if y ≠ 0 ∧ max y (-y) * max x (-x) > 1000000000000 then none else lowF (x * y) ((ad / h) * (bd / g))

theorem tdiv_bd2 {a b A : Int} (h : -A ≤ a) (h1 : a ≤ A) : -A ≤ a.tdiv b ∧ a.tdiv b ≤ A := by
  have h2 : (a.tdiv b).natAbs ≤ a.natAbs := by rw [Int.natAbs_tdiv]; exact Nat.div_le_self _ _
  omega
theorem ediv_bd {a b : Int} (h : 1 ≤ a) (hb : 1 ≤ b) (hd : b ∣ a) : 1 ≤ a / b ∧ a / b ≤ a := by
  obtain ⟨c, rfl⟩ := hd
  have hc : 1 ≤ c := by
    rcases Int.lt_or_le c 1 with h' | h'
    · have : b * c ≤ b * 0 := Int.mul_le_mul_of_nonneg_left (by omega) (by omega)
      omega
    · exact h'
  rw [Int.mul_ediv_cancel_left _ (by omega)]
  have : 1 * c ≤ b * c := Int.mul_le_mul_of_nonneg_right hb (by omega)
  exact ⟨hc, by omega⟩
theorem gcdI_dvd_right (a b : Int) : gcdI a b ∣ b := Int.gcd_dvd_right a b
theorem gcdI_dvd_left (a b : Int) : gcdI a b ∣ a := Int.gcd_dvd_left a b
theorem gt_div {N a b : Int} (hb : 1 ≤ b) : N / b < a ↔ N < b * a := by
  rw [Int.ediv_lt_iff_lt_mul (by omega), Int.mul_comm]

/-- the facts of a product's walk -/
theorem mulF_facts {an ad bn bd : Int} (ha : Bd an ad) (hb : Bd bn bd) :
    ∃ X Y g h D E : Int, g = gcdI an bd ∧ h = gcdI bn ad ∧ an.tdiv g = X ∧ bn.tdiv h = Y ∧ ad / h = D ∧ bd / g = E ∧ (1 ≤ g ∧ 1 ≤ h) ∧ (-1000000000000 ≤ X ∧ X ≤ 1000000000000) ∧ (-1000000000000 ≤ Y ∧ Y ≤ 1000000000000) ∧ (1 ≤ D ∧ D ≤ 1000000) ∧ (1 ≤ E ∧ E ≤ 1000000) ∧ (1 ≤ D * E ∧ D * E ≤ 1000000000000) ∧
      mulF an ad bn bd = if Y ≠ 0 ∧ max Y (-Y) * max X (-X) > 1000000000000 then none else lowF (X * Y) (D * E) := by
  obtain ⟨⟨a1, a2⟩, a3, a4⟩ := ha
  obtain ⟨⟨b1, b2⟩, b3, b4⟩ := hb
  have g1 := gcdI_bd (a := an) (b := bd) (by omega)
  have g2 := gcdI_bd (a := bn) (b := ad) (by omega)
  have d1 := ediv_bd a1 g2 (gcdI_dvd_right bn ad)
  have d2 := ediv_bd b1 g1 (gcdI_dvd_right an bd)
  have m1 := mul_pos1 d1.1 d2.1
  have m2 := mul_bd (n := ad / gcdI bn ad) (d := bd / gcdI an bd) 1000000 1000000 (by omega) (by omega) (by omega) (by omega) (by omega)
  exact ⟨_, _, _, _, _, _, rfl, rfl, rfl, rfl, rfl, rfl, ⟨g1, g2⟩, tdiv_bd2 a3 a4, tdiv_bd2 b3 b4, ⟨d1.1, by omega⟩, ⟨d2.1, by omega⟩, ⟨m1, by omega⟩, rfl⟩

theorem divisor_is (a b g : Int) (hg : g = gcdI a b) (h0 : -9223372036854775808 < a) (h1 : a ≤ 9223372036854775807) (h2 : -9223372036854775808 < b) (h3 : b ≤ 9223372036854775807) (w : World) :
    Calls Tryz.prog 144 #[.int .i64 a, .int .i64 b] w fun e w' => e = .returned (.int .i64 g) ∧ ∃ n, w.drewN n = w' := by
  rw [hg]; exact divisor_any a b h0 h1 h2 h3 w

theorem abs_mul_bd {X Y N : Int} (h : max Y (-Y) * max X (-X) ≤ N) : -N ≤ X * Y ∧ X * Y ≤ N := by
  have e1 : max Y (-Y) = (Y.natAbs : Int) := by omega
  have e2 : max X (-X) = (X.natAbs : Int) := by omega
  have e3 : (X * Y).natAbs = X.natAbs * Y.natAbs := Int.natAbs_mul X Y
  have e4 : ((X * Y).natAbs : Int) = (Y.natAbs : Int) * (X.natAbs : Int) := by rw [e3, Int.natCast_mul, Int.mul_comm]
  rw [e1, e2] at h
  omega

set_option maxRecDepth 100000 in
set_option maxHeartbeats 1000000 in
theorem times_z_some (an ad bn bd X Y g h D E : Int) (ha : Bd an ad) (hb : Bd bn bd) (hg : g = gcdI an bd) (hh : h = gcdI bn ad) (hX : an.tdiv g = X) (hY : bn.tdiv h = Y) (hD : ad / h = D) (hE : bd / g = E)
    (hg1 : 1 ≤ g) (hh1 : 1 ≤ h) (x1 : -1000000000000 ≤ X) (x2 : X ≤ 1000000000000) (y1 : -1000000000000 ≤ Y) (y2 : Y ≤ 1000000000000) (d1 : 1 ≤ D) (d2 : D ≤ 1000000) (e1 : 1 ≤ E) (e2 : E ≤ 1000000) (m1 : 1 ≤ D * E) (m2 : D * E ≤ 1000000000000)
    (x y : Int) (hy0 : (Y != 0) = false) (xy1 : -1000000000000 ≤ X * Y) (xy2 : X * Y ≤ 1000000000000) (hr : lowF (X * Y) (D * E) = some (x, y)) (w : World) :
    Calls Tryz.prog 96 #[.agg #[.int .i64 an, .int .i64 ad], .agg #[.int .i64 bn, .int .i64 bd]] w fun e w' => e = .returned (.agg #[.int .i64 x, .int .i64 y]) ∧ Kept w w' := by
  obtain ⟨⟨a1, a2⟩, a3, a4⟩ := ha
  obtain ⟨⟨b1, b2⟩, b3, b4⟩ := hb
  have hgn : ¬ g = 0 := by omega
  have hhn : ¬ h = 0 := by omega
  have Hg := Lib.hid hg
  have Hh := Lib.hid hh
  clear hg hh
  have Hr := Lib.hid hr
  clear hr
  have q1 := Lib.hid (IntWalk.i64_in (X * Y) (by omega))
  have q2 := Lib.hid (IntWalk.i64_in D (by omega))
  have q3 := Lib.hid (IntWalk.i64_in E (by omega))
  have q4 := Lib.hid (IntWalk.i64_in (D * E) (by omega))
  have q5 := Lib.hid (show ad.tdiv h = D by rw [Int.tdiv_eq_ediv_of_nonneg (by omega), hD])
  have q6 := Lib.hid (show bd.tdiv g = E by rw [Int.tdiv_eq_ediv_of_nonneg (by omega), hE])
  go_enter Tryz.func96, Tryz.ntmps96
  go_wp2_with fail
  go_quiet ((go_at_call 144; first | (with_reducible exact quiet_any (fun W => divisor_is _ _ _ Hg.out (by omega) (by omega) (by omega) (by omega) W)) | (with_reducible exact quiet_any (fun W => divisor_is _ _ _ Hh.out (by omega) (by omega) (by omega) (by omega) W))))
  go_wp2_with fail
  go_quiet (fail)
  go_wp2_with (go_at_call 148; refine (distance_any _ (by omega) (by omega) _).mono ?_; rintro e w' ⟨rfl, rfl⟩)
  go_region_with (go_at_call 85; rw [q5.out, q6.out, q1.out, q2.out, q3.out, q4.out]; refine (lowest_some _ _ x y (by omega) (by omega) (by omega) (by omega) (by omega) Hr.out _).mono ?_; rintro e w1 ⟨rfl, hk⟩; obtain ⟨hc1, hf1, hz1⟩ := hk.facts)
  all_goals
    go_wp2
    have e0 : w1.cell? ⟨w.heap.size + 1 + 1, 0, none⟩ = some (.int .i64 0) := by rw [hc1 _ _ (by first | (simp; done) | (simp; omega))]; simp [go_sem]
    have e1 : w1.cell? ⟨w.heap.size + 1 + 1, 1, none⟩ = some (.int .i64 0) := by rw [hc1 _ _ (by first | (simp; done) | (simp; omega))]; simp [go_sem]
    refine bodyPost_ret (v := .agg #[.int .i64 x, .int .i64 y]) (by simp [results, Tryz.results96, go_sem, e0, e1]) rfl ⟨rfl, ?_⟩
    exact (((((((Kept.refl _).alloc _).alloc _).alloc _).drewN _).trans hk) |>.setCell (by first | (simp; done) | (simp; omega)) _).setCell (by first | (simp; done) | (simp; omega)) _

set_option maxRecDepth 100000 in
set_option maxHeartbeats 1000000 in
theorem times_z_none (an ad bn bd X Y g h D E : Int) (ha : Bd an ad) (hb : Bd bn bd) (hg : g = gcdI an bd) (hh : h = gcdI bn ad) (hX : an.tdiv g = X) (hY : bn.tdiv h = Y) (hD : ad / h = D) (hE : bd / g = E)
    (hg1 : 1 ≤ g) (hh1 : 1 ≤ h) (x1 : -1000000000000 ≤ X) (x2 : X ≤ 1000000000000) (y1 : -1000000000000 ≤ Y) (y2 : Y ≤ 1000000000000) (d1 : 1 ≤ D) (d2 : D ≤ 1000000) (e1 : 1 ≤ E) (e2 : E ≤ 1000000) (m1 : 1 ≤ D * E) (m2 : D * E ≤ 1000000000000)
    (hy0 : (Y != 0) = false) (xy1 : -1000000000000 ≤ X * Y) (xy2 : X * Y ≤ 1000000000000) (hr : lowF (X * Y) (D * E) = none) (w : World) :
    Calls Tryz.prog 96 #[.agg #[.int .i64 an, .int .i64 ad], .agg #[.int .i64 bn, .int .i64 bd]] w fun e w' => e = .panicked limPanic ∧ Kept w w' := by
  obtain ⟨⟨a1, a2⟩, a3, a4⟩ := ha
  obtain ⟨⟨b1, b2⟩, b3, b4⟩ := hb
  have hgn : ¬ g = 0 := by omega
  have hhn : ¬ h = 0 := by omega
  have Hg := Lib.hid hg
  have Hh := Lib.hid hh
  clear hg hh
  have Hr := Lib.hid hr
  clear hr
  have q1 := Lib.hid (IntWalk.i64_in (X * Y) (by omega))
  have q2 := Lib.hid (IntWalk.i64_in D (by omega))
  have q3 := Lib.hid (IntWalk.i64_in E (by omega))
  have q4 := Lib.hid (IntWalk.i64_in (D * E) (by omega))
  have q5 := Lib.hid (show ad.tdiv h = D by rw [Int.tdiv_eq_ediv_of_nonneg (by omega), hD])
  have q6 := Lib.hid (show bd.tdiv g = E by rw [Int.tdiv_eq_ediv_of_nonneg (by omega), hE])
  go_enter Tryz.func96, Tryz.ntmps96
  go_wp2_with fail
  go_quiet ((go_at_call 144; first | (with_reducible exact quiet_any (fun W => divisor_is _ _ _ Hg.out (by omega) (by omega) (by omega) (by omega) W)) | (with_reducible exact quiet_any (fun W => divisor_is _ _ _ Hh.out (by omega) (by omega) (by omega) (by omega) W))))
  go_wp2_with fail
  go_quiet (fail)
  go_wp2_with (go_at_call 148; refine (distance_any _ (by omega) (by omega) _).mono ?_; rintro e w' ⟨rfl, rfl⟩)
  go_region_dies
  all_goals
    rw [q5.out, q6.out, q1.out, q2.out, q3.out, q4.out]
    refine (lowest_none _ _ (by omega) (by omega) (by omega) (by omega) (by omega) Hr.out _).mono ?_
    rintro e w1 ⟨rfl, hk⟩
    exact ⟨rfl, rfl, ((((((Kept.refl _).alloc _).alloc _).alloc _).drewN _).trans hk)⟩

set_option maxRecDepth 100000 in
set_option maxHeartbeats 1000000 in
theorem times_n_some (an ad bn bd X Y g h D E : Int) (ha : Bd an ad) (hb : Bd bn bd) (hg : g = gcdI an bd) (hh : h = gcdI bn ad) (hX : an.tdiv g = X) (hY : bn.tdiv h = Y) (hD : ad / h = D) (hE : bd / g = E)
    (hg1 : 1 ≤ g) (hh1 : 1 ≤ h) (x1 : -1000000000000 ≤ X) (x2 : X ≤ 1000000000000) (y1 : -1000000000000 ≤ Y) (y2 : Y ≤ 1000000000000) (d1 : 1 ≤ D) (d2 : D ≤ 1000000) (e1 : 1 ≤ E) (e2 : E ≤ 1000000) (m1 : 1 ≤ D * E) (m2 : D * E ≤ 1000000000000)
    (x y : Int) (hy0 : (Y != 0) = true) (ymax : 1 ≤ max Y (-Y)) (ytest : ¬ (1000000000000 / max Y (-Y) < max X (-X))) (xy1 : -1000000000000 ≤ X * Y) (xy2 : X * Y ≤ 1000000000000) (hr : lowF (X * Y) (D * E) = some (x, y)) (w : World) :
    Calls Tryz.prog 96 #[.agg #[.int .i64 an, .int .i64 ad], .agg #[.int .i64 bn, .int .i64 bd]] w fun e w' => e = .returned (.agg #[.int .i64 x, .int .i64 y]) ∧ Kept w w' := by
  obtain ⟨⟨a1, a2⟩, a3, a4⟩ := ha
  obtain ⟨⟨b1, b2⟩, b3, b4⟩ := hb
  have hgn : ¬ g = 0 := by omega
  have hhn : ¬ h = 0 := by omega
  have Hg := Lib.hid hg
  have Hh := Lib.hid hh
  clear hg hh
  have Hr := Lib.hid hr
  clear hr
  have q1 := Lib.hid (IntWalk.i64_in (X * Y) (by omega))
  have q2 := Lib.hid (IntWalk.i64_in D (by omega))
  have q3 := Lib.hid (IntWalk.i64_in E (by omega))
  have q4 := Lib.hid (IntWalk.i64_in (D * E) (by omega))
  have q5 := Lib.hid (show ad.tdiv h = D by rw [Int.tdiv_eq_ediv_of_nonneg (by omega), hD])
  have q6 := Lib.hid (show bd.tdiv g = E by rw [Int.tdiv_eq_ediv_of_nonneg (by omega), hE])
  go_enter Tryz.func96, Tryz.ntmps96
  go_wp2_with fail
  go_quiet ((go_at_call 144; first | (with_reducible exact quiet_any (fun W => divisor_is _ _ _ Hg.out (by omega) (by omega) (by omega) (by omega) W)) | (with_reducible exact quiet_any (fun W => divisor_is _ _ _ Hh.out (by omega) (by omega) (by omega) (by omega) W))))
  go_wp2_with fail
  go_quiet (fail)
  go_wp2_with (go_at_call 148; refine (distance_any _ (by omega) (by omega) _).mono ?_; rintro e w' ⟨rfl, rfl⟩)
  go_region_with (go_at_call 85; rw [q5.out, q6.out, q1.out, q2.out, q3.out, q4.out]; refine (lowest_some _ _ x y (by omega) (by omega) (by omega) (by omega) (by omega) Hr.out _).mono ?_; rintro e w1 ⟨rfl, hk⟩; obtain ⟨hc1, hf1, hz1⟩ := hk.facts)
  all_goals
    go_wp2
    have e0 : w1.cell? ⟨w.heap.size + 1 + 1, 0, none⟩ = some (.int .i64 0) := by rw [hc1 _ _ (by first | (simp; done) | (simp; omega))]; simp [go_sem]
    have e1 : w1.cell? ⟨w.heap.size + 1 + 1, 1, none⟩ = some (.int .i64 0) := by rw [hc1 _ _ (by first | (simp; done) | (simp; omega))]; simp [go_sem]
    refine bodyPost_ret (v := .agg #[.int .i64 x, .int .i64 y]) (by simp [results, Tryz.results96, go_sem, e0, e1]) rfl ⟨rfl, ?_⟩
    exact (((((((Kept.refl _).alloc _).alloc _).alloc _).drewN _).trans hk) |>.setCell (by first | (simp; done) | (simp; omega)) _).setCell (by first | (simp; done) | (simp; omega)) _

set_option maxRecDepth 100000 in
set_option maxHeartbeats 1000000 in
theorem times_n_none (an ad bn bd X Y g h D E : Int) (ha : Bd an ad) (hb : Bd bn bd) (hg : g = gcdI an bd) (hh : h = gcdI bn ad) (hX : an.tdiv g = X) (hY : bn.tdiv h = Y) (hD : ad / h = D) (hE : bd / g = E)
    (hg1 : 1 ≤ g) (hh1 : 1 ≤ h) (x1 : -1000000000000 ≤ X) (x2 : X ≤ 1000000000000) (y1 : -1000000000000 ≤ Y) (y2 : Y ≤ 1000000000000) (d1 : 1 ≤ D) (d2 : D ≤ 1000000) (e1 : 1 ≤ E) (e2 : E ≤ 1000000) (m1 : 1 ≤ D * E) (m2 : D * E ≤ 1000000000000)
    (hy0 : (Y != 0) = true) (ymax : 1 ≤ max Y (-Y)) (ytest : ¬ (1000000000000 / max Y (-Y) < max X (-X))) (xy1 : -1000000000000 ≤ X * Y) (xy2 : X * Y ≤ 1000000000000) (hr : lowF (X * Y) (D * E) = none) (w : World) :
    Calls Tryz.prog 96 #[.agg #[.int .i64 an, .int .i64 ad], .agg #[.int .i64 bn, .int .i64 bd]] w fun e w' => e = .panicked limPanic ∧ Kept w w' := by
  obtain ⟨⟨a1, a2⟩, a3, a4⟩ := ha
  obtain ⟨⟨b1, b2⟩, b3, b4⟩ := hb
  have hgn : ¬ g = 0 := by omega
  have hhn : ¬ h = 0 := by omega
  have Hg := Lib.hid hg
  have Hh := Lib.hid hh
  clear hg hh
  have Hr := Lib.hid hr
  clear hr
  have q1 := Lib.hid (IntWalk.i64_in (X * Y) (by omega))
  have q2 := Lib.hid (IntWalk.i64_in D (by omega))
  have q3 := Lib.hid (IntWalk.i64_in E (by omega))
  have q4 := Lib.hid (IntWalk.i64_in (D * E) (by omega))
  have q5 := Lib.hid (show ad.tdiv h = D by rw [Int.tdiv_eq_ediv_of_nonneg (by omega), hD])
  have q6 := Lib.hid (show bd.tdiv g = E by rw [Int.tdiv_eq_ediv_of_nonneg (by omega), hE])
  go_enter Tryz.func96, Tryz.ntmps96
  go_wp2_with fail
  go_quiet ((go_at_call 144; first | (with_reducible exact quiet_any (fun W => divisor_is _ _ _ Hg.out (by omega) (by omega) (by omega) (by omega) W)) | (with_reducible exact quiet_any (fun W => divisor_is _ _ _ Hh.out (by omega) (by omega) (by omega) (by omega) W))))
  go_wp2_with fail
  go_quiet (fail)
  go_wp2_with (go_at_call 148; refine (distance_any _ (by omega) (by omega) _).mono ?_; rintro e w' ⟨rfl, rfl⟩)
  go_region_dies
  all_goals
    rw [q5.out, q6.out, q1.out, q2.out, q3.out, q4.out]
    refine (lowest_none _ _ (by omega) (by omega) (by omega) (by omega) (by omega) Hr.out _).mono ?_
    rintro e w1 ⟨rfl, hk⟩
    exact ⟨rfl, rfl, ((((((Kept.refl _).alloc _).alloc _).alloc _).drewN _).trans hk)⟩

set_option maxRecDepth 100000 in
set_option maxHeartbeats 1000000 in
theorem times_big (an ad bn bd X Y g h D E : Int) (ha : Bd an ad) (hb : Bd bn bd) (hg : g = gcdI an bd) (hh : h = gcdI bn ad) (hX : an.tdiv g = X) (hY : bn.tdiv h = Y) (hD : ad / h = D) (hE : bd / g = E)
    (hg1 : 1 ≤ g) (hh1 : 1 ≤ h) (x1 : -1000000000000 ≤ X) (x2 : X ≤ 1000000000000) (y1 : -1000000000000 ≤ Y) (y2 : Y ≤ 1000000000000) (d1 : 1 ≤ D) (d2 : D ≤ 1000000) (e1 : 1 ≤ E) (e2 : E ≤ 1000000) (m1 : 1 ≤ D * E) (m2 : D * E ≤ 1000000000000)
    (hy0 : (Y != 0) = true) (ymax : 1 ≤ max Y (-Y)) (ytest : 1000000000000 / max Y (-Y) < max X (-X)) (w : World) :
    Calls Tryz.prog 96 #[.agg #[.int .i64 an, .int .i64 ad], .agg #[.int .i64 bn, .int .i64 bd]] w fun e w' => e = .panicked limPanic ∧ Kept w w' := by
  obtain ⟨⟨a1, a2⟩, a3, a4⟩ := ha
  obtain ⟨⟨b1, b2⟩, b3, b4⟩ := hb
  have hgn : ¬ g = 0 := by omega
  have hhn : ¬ h = 0 := by omega
  have Hg := Lib.hid hg
  have Hh := Lib.hid hh
  clear hg hh
  go_enter Tryz.func96, Tryz.ntmps96
  go_wp2_with fail
  go_quiet ((go_at_call 144; first | (with_reducible exact quiet_any (fun W => divisor_is _ _ _ Hg.out (by omega) (by omega) (by omega) (by omega) W)) | (with_reducible exact quiet_any (fun W => divisor_is _ _ _ Hh.out (by omega) (by omega) (by omega) (by omega) W))))
  go_wp2_with fail
  go_quiet (fail)
  go_wp2_with (go_at_call 148; refine (distance_any _ (by omega) (by omega) _).mono ?_; rintro e w' ⟨rfl, rfl⟩)
  exact ⟨rfl, rfl, ((((Kept.refl _).alloc _).alloc _).alloc _).drewN _⟩

theorem times_some (an ad bn bd x y : Int) (ha : Bd an ad) (hb : Bd bn bd) (hr : mulF an ad bn bd = some (x, y)) (w : World) :
    Calls Tryz.prog 96 #[.agg #[.int .i64 an, .int .i64 ad], .agg #[.int .i64 bn, .int .i64 bd]] w fun e w' => e = .returned (.agg #[.int .i64 x, .int .i64 y]) ∧ Kept w w' := by
  obtain ⟨X, Y, g, h, D, E, hg, hh, hX, hY, hD, hE, ⟨hg1, hh1⟩, ⟨x1, x2⟩, ⟨y1, y2⟩, ⟨d1, d2⟩, ⟨e1, e2⟩, ⟨m1, m2⟩, hm⟩ := mulF_facts ha hb
  rw [hm] at hr
  by_cases h0 : Y = 0
  · have xy : X * Y = 0 := by rw [h0, Int.mul_zero]
    rw [if_neg (by omega)] at hr
    exact times_z_some _ _ _ _ X Y g h D E ha hb hg hh hX hY hD hE hg1 hh1 x1 x2 y1 y2 d1 d2 e1 e2 m1 m2 x y (by simp [h0]) (by omega) (by omega) hr w
  · have ymax : 1 ≤ max Y (-Y) := by omega
    by_cases hle : max Y (-Y) * max X (-X) > 1000000000000
    · rw [if_pos ⟨h0, hle⟩] at hr
      cases hr
    · rw [if_neg (by omega)] at hr
      have xy := abs_mul_bd (Int.not_lt.1 hle)
      exact times_n_some _ _ _ _ X Y g h D E ha hb hg hh hX hY hD hE hg1 hh1 x1 x2 y1 y2 d1 d2 e1 e2 m1 m2 x y (by simp [h0]) ymax (by rw [gt_div ymax]; exact hle) xy.1 xy.2 hr w

theorem times_none (an ad bn bd : Int) (ha : Bd an ad) (hb : Bd bn bd) (hr : mulF an ad bn bd = none) (w : World) :
    Calls Tryz.prog 96 #[.agg #[.int .i64 an, .int .i64 ad], .agg #[.int .i64 bn, .int .i64 bd]] w fun e w' => e = .panicked limPanic ∧ Kept w w' := by
  obtain ⟨X, Y, g, h, D, E, hg, hh, hX, hY, hD, hE, ⟨hg1, hh1⟩, ⟨x1, x2⟩, ⟨y1, y2⟩, ⟨d1, d2⟩, ⟨e1, e2⟩, ⟨m1, m2⟩, hm⟩ := mulF_facts ha hb
  rw [hm] at hr
  by_cases h0 : Y = 0
  · have xy : X * Y = 0 := by rw [h0, Int.mul_zero]
    rw [if_neg (by omega)] at hr
    exact times_z_none _ _ _ _ X Y g h D E ha hb hg hh hX hY hD hE hg1 hh1 x1 x2 y1 y2 d1 d2 e1 e2 m1 m2 (by simp [h0]) (by omega) (by omega) hr w
  · have ymax : 1 ≤ max Y (-Y) := by omega
    by_cases hle : max Y (-Y) * max X (-X) > 1000000000000
    · rw [if_pos ⟨h0, hle⟩] at hr
      exact times_big _ _ _ _ X Y g h D E ha hb hg hh hX hY hD hE hg1 hh1 x1 x2 y1 y2 d1 d2 e1 e2 m1 m2 (by simp [h0]) ymax ((gt_div ymax).2 hle) w
    · rw [if_neg (by omega)] at hr
      have xy := abs_mul_bd (Int.not_lt.1 hle)
      exact times_n_none _ _ _ _ X Y g h D E ha hb hg hh hX hY hD hE hg1 hh1 x1 x2 y1 y2 d1 d2 e1 e2 m1 m2 (by simp [h0]) ymax (by rw [gt_div ymax]; exact hle) xy.1 xy.2 hr w

end Go.Proofs.YtcjpecdnenemaaaGreatDoor

namespace Go.Proofs.YtcjpecdnenemaaaGreatDoor
set_option linter.unusedVariables false
open Go.RowKit

theorem catch_idle (p q : Addr) (w : World) :
    CallsD Tryz.prog 143 #[.pointer (some p), .pointer (some q)] .returning w fun e u' w' => e = .returned (.tuple #[]) ∧ u' = .returning ∧ w' = w := by
  refine callsD_of_wpS Tryz.func143 rfl fun c₀ cs hu => ?_
  apply wpS_seq
  apply wpS_region
  simp [wpOpsS, go_sem, recoverD, hu, Tryz.ntmps143, Exit.thenS]
  refine wpS_cond (t := false) (by simp [Act.eval, Array.replicate]) ?_
  simp only [Bool.false_eq_true, if_false]
  refine wpS_of_wp (wp_skip ?_)
  cases c₀
  simp_all [bodyPostS, results, Tryz.results143]

theorem catch_panicking (b c : Nat) (u0 u1 u2 : Value) (u : TypeId) (pv : Value) (older : List PanicEntry) (w : World) (hbc : b ≠ c) (h0 : w.cell? ⟨b, 0, none⟩ = some u0) (h1 : w.cell? ⟨b, 1, none⟩ = some u1) (h2 : w.cell? ⟨c, 0, none⟩ = some u2)
    (f0 : w.frozen? ⟨b, 0, none⟩ = false) (f1 : w.frozen? ⟨b, 1, none⟩ = false) (f2 : w.frozen? ⟨c, 0, none⟩ = false) :
    CallsD Tryz.prog 143 #[.pointer (some ⟨b, 0, none⟩), .pointer (some ⟨c, 0, none⟩)] (.panicking ({ v := .iface u pv, recovered := false } :: older)) w fun e u' w' =>
      e = .returned (.tuple #[]) ∧ u' = .panicking ({ v := .iface u pv, recovered := true } :: older) ∧ w' = ((w.setCell ⟨b, 0, none⟩ (.int .i64 0)).setCell ⟨b, 1, none⟩ (.int .i64 0)).setCell ⟨c, 0, none⟩ (.int .i64 2) := by
  refine callsD_of_wpS Tryz.func143 rfl fun c₀ cs hu => ?_
  apply wpS_seq
  apply wpS_region
  simp [wpOpsS, go_sem, recoverD, hu, Tryz.ntmps143, Exit.thenS]
  refine wpS_cond (t := true) (by simp [Act.eval, Array.replicate]) ?_
  simp only [if_true]
  apply wpS_region
  simp [wpOpsS, go_sem, h0, h1, h2, f0, f1, f2, bodyPostS, results, Tryz.results143]
  
set_option maxRecDepth 100000 in
theorem reckon_ok (g : Nat) (cap : Array Value) (x y : Int) (w : World) (eg : ∀ args w, (callFunc g args).run Tryz.prog w = .ok (.enter g args) w) (h : ∀ w1, Kept w w1 → Calls Tryz.prog g cap w1 fun e w' => e = .returned (.agg #[.int .i64 x, .int .i64 y]) ∧ Kept w1 w') :
    Calls Tryz.prog 83 #[.func (.func g) #[] cap] w fun e w' => e = .returned (.tuple #[.agg #[.int .i64 x, .int .i64 y], .int .i64 0]) ∧ Kept w w' := by
  have hmf : ∀ (fn : Fn) (first cap : Array Value) (w : World), (Instr.makeFunc fn first cap).run Tryz.prog w = .ok (.func fn first cap) w := fun _ _ _ _ => rfl
  have H := Lib.hid h
  clear h
  go_enter_defers Tryz.func83, Tryz.ntmps83
  go_wp2_with fail
  refine (H.out _ (((Kept.refl _).alloc _).alloc _)).mono ?_
  rintro e w1 ⟨rfl, hk⟩
  obtain ⟨hc1, hf1, hz1⟩ := hk.facts
  go_wp2
  have e0 : w1.cell? ⟨w.heap.size, 0, none⟩ = some (.int .i64 0) := by rw [hc1 _ _ (by first | (simp; done) | (simp; omega))]; simp [go_sem]
  have e1 : w1.cell? ⟨w.heap.size, 1, none⟩ = some (.int .i64 0) := by rw [hc1 _ _ (by first | (simp; done) | (simp; omega))]; simp [go_sem]
  have e2 : w1.cell? ⟨w.heap.size + 1, 0, none⟩ = some (.int .i64 0) := by rw [hc1 _ _ (by first | (simp; done) | (simp; omega))]; simp [go_sem]
  refine leaves_cons (f := 143) (args := #[.pointer (some ⟨w.heap.size, 0, none⟩), .pointer (some ⟨w.heap.size + 1, 0, none⟩)]) (by simp) (by simp [go_sem]) ?_
  refine (catch_idle ⟨w.heap.size, 0, none⟩ ⟨w.heap.size + 1, 0, none⟩ _).mono ?_
  rintro e u' w'' ⟨rfl, rfl, rfl⟩
  simp [Leaves, settle, results, Tryz.results83, go_sem, e0, e1, e2]
  exact (((((Kept.refl _).alloc _).alloc _).trans hk |>.setCell (by first | (simp; done) | (simp; omega)) _).setCell (by first | (simp; done) | (simp; omega)) _).setCell (by first | (simp; done) | (simp; omega)) _

set_option maxRecDepth 100000 in
theorem reckon_lim (g : Nat) (cap : Array Value) (w : World) (eg : ∀ args w, (callFunc g args).run Tryz.prog w = .ok (.enter g args) w) (h : ∀ w1, Kept w w1 → Calls Tryz.prog g cap w1 fun e w' => e = .panicked limPanic ∧ Kept w1 w') :
    Calls Tryz.prog 83 #[.func (.func g) #[] cap] w fun e w' => e = .returned (.tuple #[.agg #[.int .i64 0, .int .i64 0], .int .i64 2]) ∧ Kept w w' := by
  have hmf : ∀ (fn : Fn) (first cap : Array Value) (w : World), (Instr.makeFunc fn first cap).run Tryz.prog w = .ok (.func fn first cap) w := fun _ _ _ _ => rfl
  have H := Lib.hid h
  clear h
  go_enter_defers Tryz.func83, Tryz.ntmps83
  go_wp2_with fail
  refine (H.out _ (((Kept.refl _).alloc _).alloc _)).mono ?_
  rintro e w1 ⟨rfl, hk⟩
  obtain ⟨hc1, hf1, hz1⟩ := hk.facts
  go_wp2
  have e0 : w1.cell? ⟨w.heap.size, 0, none⟩ = some (.int .i64 0) := by rw [hc1 _ _ (by first | (simp; done) | (simp; omega))]; simp [go_sem]
  have e1 : w1.cell? ⟨w.heap.size, 1, none⟩ = some (.int .i64 0) := by rw [hc1 _ _ (by first | (simp; done) | (simp; omega))]; simp [go_sem]
  have e2 : w1.cell? ⟨w.heap.size + 1, 0, none⟩ = some (.int .i64 0) := by rw [hc1 _ _ (by first | (simp; done) | (simp; omega))]; simp [go_sem]
  have f0 : w1.frozen? ⟨w.heap.size, 0, none⟩ = false := by rw [hf1 _ _ (by first | (simp; done) | (simp; omega))]; simp [go_sem]
  have f1 : w1.frozen? ⟨w.heap.size, 1, none⟩ = false := by rw [hf1 _ _ (by first | (simp; done) | (simp; omega))]; simp [go_sem]
  have f2 : w1.frozen? ⟨w.heap.size + 1, 0, none⟩ = false := by rw [hf1 _ _ (by first | (simp; done) | (simp; omega))]; simp [go_sem]
  refine leaves_cons (f := 143) (args := #[.pointer (some ⟨w.heap.size, 0, none⟩), .pointer (some ⟨w.heap.size + 1, 0, none⟩)]) (by simp) (by simp [go_sem]) ?_
  refine (catch_panicking w.heap.size (w.heap.size + 1) _ _ _ 24 (.int .i64 2) [] _ (by omega) e0 e1 e2 f0 f1 f2).mono ?_
  rintro e u' w'' ⟨rfl, rfl, rfl⟩
  simp [Leaves, settle, results, Tryz.results83, go_sem, e0, e1, e2]
  exact (((((Kept.refl _).alloc _).alloc _).trans hk |>.setCell (by first | (simp; done) | (simp; omega)) _).setCell (by first | (simp; done) | (simp; omega)) _).setCell (by first | (simp; done) | (simp; omega)) _
end Go.Proofs.YtcjpecdnenemaaaGreatDoor

namespace Go.Proofs.YtcjpecdnenemaaaGreatDoor
set_option linter.unusedVariables false
open Go.RowKit Go.Shelf

theorem e84 : ∀ args w, (callFunc 84 args).run Tryz.prog w = .ok (.enter 84 args) w := enters_of Tryz.func84 (by kernel_rfl) rfl
theorem e94 : ∀ args w, (callFunc 94 args).run Tryz.prog w = .ok (.enter 94 args) w := enters_of Tryz.func94 (by kernel_rfl) rfl
theorem e95 : ∀ args w, (callFunc 95 args).run Tryz.prog w = .ok (.enter 95 args) w := enters_of Tryz.func95 (by kernel_rfl) rfl
theorem e96 : ∀ args w, (callFunc 96 args).run Tryz.prog w = .ok (.enter 96 args) w := enters_of Tryz.func96 (by kernel_rfl) rfl
theorem e147 : ∀ args w, (callFunc 147 args).run Tryz.prog w = .ok (.enter 147 args) w := enters_of Tryz.func147 (by kernel_rfl) rfl

/-- what a fraction's function returns: numerator, denominator, error -/
def feV (r : Int × Int × Int) : Value := .tuple #[.agg #[.int .i64 r.1, .int .i64 r.2.1], .int .i64 r.2.2]
def okL : Option (Int × Int) → Int × Int × Int
  | some (x, y) => (x, y, 0)
  | none => (0, 0, 2)

theorem norm1_some (b c : Nat) (n d x y : Int) (h0 : -9223372036854775808 < n) (h1 : n ≤ 9223372036854775807) (h2 : -9223372036854775808 < d) (h3 : d ≤ 9223372036854775807) (hd : d ≠ 0)
    (hr : lowF n d = some (x, y)) (w : World) (c0 : w.cell? ⟨b, 0, none⟩ = some (.int .i64 n)) (c1 : w.cell? ⟨c, 0, none⟩ = some (.int .i64 d)) :
    Calls Tryz.prog 84 #[.pointer (some ⟨b, 0, none⟩), .pointer (some ⟨c, 0, none⟩)] w fun e w' => e = .returned (.agg #[.int .i64 x, .int .i64 y]) ∧ Kept w w' := by
  have Hr := Lib.hid hr
  clear hr
  have hb := cell_lt c0
  have hc := cell_lt c1
  go_enter Tryz.func84, Tryz.ntmps84
  go_wp2_with (go_at_call 85; refine (lowest_some _ _ x y h0 h1 h2 h3 hd Hr.out _).mono ?_; rintro e w1 ⟨rfl, hk⟩; obtain ⟨hc1, hf1, hz1⟩ := hk.facts)
  have e0 : w1.cell? ⟨w.heap.size, 0, none⟩ = some (.int .i64 0) := by rw [hc1 _ _ (by first | (simp; done) | (simp; omega))]; simp [go_sem]
  have e1 : w1.cell? ⟨w.heap.size, 1, none⟩ = some (.int .i64 0) := by rw [hc1 _ _ (by first | (simp; done) | (simp; omega))]; simp [go_sem]
  refine bodyPost_ret (v := .agg #[.int .i64 x, .int .i64 y]) (by simp [results, Tryz.results84, go_sem, e0, e1]) rfl ⟨rfl, ?_⟩
  exact (((Kept.refl _).alloc _).trans hk |>.setCell (by first | (simp; done) | (simp; omega)) _).setCell (by first | (simp; done) | (simp; omega)) _
theorem norm1_none (b c : Nat) (n d : Int) (h0 : -9223372036854775808 < n) (h1 : n ≤ 9223372036854775807) (h2 : -9223372036854775808 < d) (h3 : d ≤ 9223372036854775807) (hd : d ≠ 0)
    (hr : lowF n d = none) (w : World) (c0 : w.cell? ⟨b, 0, none⟩ = some (.int .i64 n)) (c1 : w.cell? ⟨c, 0, none⟩ = some (.int .i64 d)) :
    Calls Tryz.prog 84 #[.pointer (some ⟨b, 0, none⟩), .pointer (some ⟨c, 0, none⟩)] w fun e w' => e = .panicked limPanic ∧ Kept w w' := by
  have Hr := Lib.hid hr
  clear hr
  have hb := cell_lt c0
  have hc := cell_lt c1
  go_enter Tryz.func84, Tryz.ntmps84
  go_wp2_with (go_at_call 85; refine (lowest_none _ _ h0 h1 h2 h3 hd Hr.out _).mono ?_; rintro e w1 ⟨rfl, hk⟩)
  exact ⟨rfl, rfl, ((Kept.refl _).alloc _).trans hk⟩

theorem combine_bad1 (an ad bn bd cn cd : Int) (f : Nat) (h : vld an ad = false) (w : World) :
    Calls Tryz.prog 93 #[.agg #[.int .i64 an, .int .i64 ad], .agg #[.int .i64 bn, .int .i64 bd], .func (.func f) #[.agg #[.int .i64 cn, .int .i64 cd]] #[]] w fun e w' => e = .returned (.tuple #[.agg #[.int .i64 0, .int .i64 0], .int .i64 1]) ∧ Kept w w' := by
  go_enter Tryz.func93, Tryz.ntmps93
  go_wp2_with fail
  refine (valid_any _ _ _).mono ?_
  rintro e w1 ⟨rfl, hk⟩
  obtain ⟨hc1, hf1, hz1⟩ := hk.facts
  go_wp2_with fail
  have e0 : w1.cell? ⟨w.heap.size + 1 + 1 + 1, 0, none⟩ = some (.int .i64 0) := by rw [hc1 _ _ (by first | (simp; done) | (simp; omega))]; simp [go_sem]
  have e1 : w1.cell? ⟨w.heap.size + 1 + 1 + 1, 1, none⟩ = some (.int .i64 0) := by rw [hc1 _ _ (by first | (simp; done) | (simp; omega))]; simp [go_sem]
  refine bodyPost_ret (v := .tuple #[.agg #[.int .i64 0, .int .i64 0], .int .i64 1]) (by simp [results, Tryz.results93, go_sem, e0, e1]) rfl ⟨rfl, ?_⟩
  exact ((((((Kept.refl _).alloc _).alloc _).alloc _).alloc _).trans hk |>.setCell (by first | (simp; done) | (simp; omega)) _).setCell (by first | (simp; done) | (simp; omega)) _
theorem combine_bad2 (an ad bn bd cn cd : Int) (f : Nat) (h : vld an ad = true) (k : vld bn bd = false) (w : World) :
    Calls Tryz.prog 93 #[.agg #[.int .i64 an, .int .i64 ad], .agg #[.int .i64 bn, .int .i64 bd], .func (.func f) #[.agg #[.int .i64 cn, .int .i64 cd]] #[]] w fun e w' => e = .returned (.tuple #[.agg #[.int .i64 0, .int .i64 0], .int .i64 1]) ∧ Kept w w' := by
  go_enter Tryz.func93, Tryz.ntmps93
  go_wp2_with fail
  refine (valid_any _ _ _).mono ?_
  rintro e w1 ⟨rfl, hk⟩
  obtain ⟨hc1, hf1, hz1⟩ := hk.facts
  go_wp2_with fail
  refine (valid_any _ _ _).mono ?_
  rintro e w2 ⟨rfl, hk2'⟩
  have hk2 := hk.trans hk2'
  obtain ⟨hc2, hf2, hz2⟩ := hk2.facts
  clear hc1 hf1 hz1
  go_wp2_with fail
  have e0 : w2.cell? ⟨w.heap.size + 1 + 1 + 1, 0, none⟩ = some (.int .i64 0) := by rw [hc2 _ _ (by first | (simp; done) | (simp; omega))]; simp [go_sem]
  have e1 : w2.cell? ⟨w.heap.size + 1 + 1 + 1, 1, none⟩ = some (.int .i64 0) := by rw [hc2 _ _ (by first | (simp; done) | (simp; omega))]; simp [go_sem]
  refine bodyPost_ret (v := .tuple #[.agg #[.int .i64 0, .int .i64 0], .int .i64 1]) (by simp [results, Tryz.results93, go_sem, e0, e1]) rfl ⟨rfl, ?_⟩
  exact ((((((Kept.refl _).alloc _).alloc _).alloc _).alloc _).trans hk2 |>.setCell (by first | (simp; done) | (simp; omega)) _).setCell (by first | (simp; done) | (simp; omega)) _

theorem comb1 (b c f : Nat) (an ad bn bd : Int) (eg : ∀ args w, (callFunc f args).run Tryz.prog w = .ok (.enter f args) w) (x y : Int)
    (w : World) (c0 : w.cell? ⟨b, 0, none⟩ = some (.func (.func f) #[.agg #[.int .i64 an, .int .i64 ad]] #[])) (c1 : w.cell? ⟨c, 0, none⟩ = some (.int .i64 bn)) (c2 : w.cell? ⟨c, 1, none⟩ = some (.int .i64 bd))
    (hop : ∀ w1, Calls Tryz.prog f #[.agg #[.int .i64 an, .int .i64 ad], .agg #[.int .i64 bn, .int .i64 bd]] w1 fun e w' => e = .returned (.agg #[.int .i64 x, .int .i64 y]) ∧ Kept w1 w') :
    Calls Tryz.prog 147 #[.pointer (some ⟨b, 0, none⟩), .pointer (some ⟨c, 0, none⟩)] w fun e w' => e = .returned (.agg #[.int .i64 x, .int .i64 y]) ∧ Kept w w' := by
  have H := Lib.hid hop
  clear hop
  have hb := cell_lt c0
  have hc := cell_lt c1
  go_enter Tryz.func147, Tryz.ntmps147
  go_wp2_with fail
  refine (H.out _).mono ?_
  rintro e w1 ⟨rfl, hk⟩
  obtain ⟨hc1, hf1, hz1⟩ := hk.facts
  go_wp2
  have e0 : w1.cell? ⟨w.heap.size, 0, none⟩ = some (.int .i64 0) := by rw [hc1 _ _ (by first | (simp; done) | (simp; omega))]; simp [go_sem]
  have e1 : w1.cell? ⟨w.heap.size, 1, none⟩ = some (.int .i64 0) := by rw [hc1 _ _ (by first | (simp; done) | (simp; omega))]; simp [go_sem]
  refine bodyPost_ret (v := .agg #[.int .i64 x, .int .i64 y]) (by simp [results, Tryz.results147, go_sem, e0, e1]) rfl ⟨rfl, ?_⟩
  exact (((Kept.refl _).alloc _).trans hk |>.setCell (by first | (simp; done) | (simp; omega)) _).setCell (by first | (simp; done) | (simp; omega)) _
theorem comb1_lim (b c f : Nat) (an ad bn bd : Int) (eg : ∀ args w, (callFunc f args).run Tryz.prog w = .ok (.enter f args) w)
    (w : World) (c0 : w.cell? ⟨b, 0, none⟩ = some (.func (.func f) #[.agg #[.int .i64 an, .int .i64 ad]] #[])) (c1 : w.cell? ⟨c, 0, none⟩ = some (.int .i64 bn)) (c2 : w.cell? ⟨c, 1, none⟩ = some (.int .i64 bd))
    (hop : ∀ w1, Calls Tryz.prog f #[.agg #[.int .i64 an, .int .i64 ad], .agg #[.int .i64 bn, .int .i64 bd]] w1 fun e w' => e = .panicked limPanic ∧ Kept w1 w') :
    Calls Tryz.prog 147 #[.pointer (some ⟨b, 0, none⟩), .pointer (some ⟨c, 0, none⟩)] w fun e w' => e = .panicked limPanic ∧ Kept w w' := by
  have H := Lib.hid hop
  clear hop
  have hb := cell_lt c0
  have hc := cell_lt c1
  go_enter Tryz.func147, Tryz.ntmps147
  go_wp2_with fail
  refine (H.out _).mono ?_
  rintro e w1 ⟨rfl, hk⟩
  exact ⟨rfl, rfl, ((Kept.refl _).alloc _).trans hk⟩


theorem combine_ok (an ad bn bd : Int) (f : Nat) (eg : ∀ args w, (callFunc f args).run Tryz.prog w = .ok (.enter f args) w) (h : vld an ad = true) (k : vld bn bd = true) (x y : Int)
    (hop : ∀ w1, Calls Tryz.prog f #[.agg #[.int .i64 an, .int .i64 ad], .agg #[.int .i64 bn, .int .i64 bd]] w1 fun e w' => e = .returned (.agg #[.int .i64 x, .int .i64 y]) ∧ Kept w1 w') (w : World) :
    Calls Tryz.prog 93 #[.agg #[.int .i64 an, .int .i64 ad], .agg #[.int .i64 bn, .int .i64 bd], .func (.func f) #[.agg #[.int .i64 an, .int .i64 ad]] #[]] w fun e w' => e = .returned (.tuple #[.agg #[.int .i64 x, .int .i64 y], .int .i64 0]) ∧ Kept w w' := by
  have hmf : ∀ (fn : Fn) (first cap : Array Value) (w : World), (Instr.makeFunc fn first cap).run Tryz.prog w = .ok (.func fn first cap) w := fun _ _ _ _ => rfl
  have H := Lib.hid hop
  clear hop
  go_enter Tryz.func93, Tryz.ntmps93
  go_wp2_with fail
  refine (valid_any _ _ _).mono ?_
  rintro e w1 ⟨rfl, hk⟩
  obtain ⟨hc1, hf1, hz1⟩ := hk.facts
  go_wp2_with fail
  refine (valid_any _ _ _).mono ?_
  rintro e w2 ⟨rfl, hk2'⟩
  have hk2 := hk.trans hk2'
  obtain ⟨hc2, hf2, hz2⟩ := hk2.facts
  clear hc1 hf1 hz1
  go_wp2_with fail
  have e0 : w2.cell? ⟨w.heap.size + 1 + 1, 0, none⟩ = some (.func (.func f) #[.agg #[.int .i64 an, .int .i64 ad]] #[]) := by rw [hc2 _ _ (by first | (simp; done) | (simp; omega))]; simp [go_sem]
  have e1 : w2.cell? ⟨w.heap.size + 1, 0, none⟩ = some (.int .i64 bn) := by rw [hc2 _ _ (by first | (simp; done) | (simp; omega))]; simp [go_sem]
  have e2 : w2.cell? ⟨w.heap.size + 1, 1, none⟩ = some (.int .i64 bd) := by rw [hc2 _ _ (by first | (simp; done) | (simp; omega))]; simp [go_sem]
  have e3 : w2.cell? ⟨w.heap.size + 1 + 1 + 1, 0, none⟩ = some (.int .i64 0) := by rw [hc2 _ _ (by first | (simp; done) | (simp; omega))]; simp [go_sem]
  have e4 : w2.cell? ⟨w.heap.size + 1 + 1 + 1, 1, none⟩ = some (.int .i64 0) := by rw [hc2 _ _ (by first | (simp; done) | (simp; omega))]; simp [go_sem]
  have lb3 : w.heap.size + 1 + 1 + 1 < w2.heap.size := by have := hk2.size; simp at this; omega
  have lb : w.heap.size + 1 + 1 < w2.heap.size := by omega
  refine (reckon_ok 147 _ x y _ e147 (fun W hW => comb1 _ _ f an ad bn bd eg x y W ((hW.cells _ _ lb).trans e0) ((hW.cells _ _ (by omega)).trans e1) ((hW.cells _ _ (by omega)).trans e2) H.out)).mono ?_
  rintro e w3 ⟨rfl, hk3⟩
  have e3' := (hk3.cells _ _ (by omega)).trans e3
  have e4' := (hk3.cells _ _ (by omega)).trans e4
  obtain ⟨hc3, hf3, hz3⟩ := (hk2.trans hk3).facts
  clear hc2 hf2 hz2 e0 e1 e2 e3 e4
  go_wp2
  refine bodyPost_ret (v := .tuple #[.agg #[.int .i64 x, .int .i64 y], .int .i64 0]) (by simp [results, Tryz.results93, go_sem, e3', e4']) rfl ⟨rfl, ?_⟩
  exact ((((((Kept.refl _).alloc _).alloc _).alloc _).alloc _).trans (hk2.trans hk3) |>.setCell (by first | (simp; done) | (simp; omega)) _).setCell (by first | (simp; done) | (simp; omega)) _

theorem combine_lim (an ad bn bd : Int) (f : Nat) (eg : ∀ args w, (callFunc f args).run Tryz.prog w = .ok (.enter f args) w) (h : vld an ad = true) (k : vld bn bd = true)
    (hop : ∀ w1, Calls Tryz.prog f #[.agg #[.int .i64 an, .int .i64 ad], .agg #[.int .i64 bn, .int .i64 bd]] w1 fun e w' => e = .panicked limPanic ∧ Kept w1 w') (w : World) :
    Calls Tryz.prog 93 #[.agg #[.int .i64 an, .int .i64 ad], .agg #[.int .i64 bn, .int .i64 bd], .func (.func f) #[.agg #[.int .i64 an, .int .i64 ad]] #[]] w fun e w' => e = .returned (.tuple #[.agg #[.int .i64 0, .int .i64 0], .int .i64 2]) ∧ Kept w w' := by
  have hmf : ∀ (fn : Fn) (first cap : Array Value) (w : World), (Instr.makeFunc fn first cap).run Tryz.prog w = .ok (.func fn first cap) w := fun _ _ _ _ => rfl
  have H := Lib.hid hop
  clear hop
  go_enter Tryz.func93, Tryz.ntmps93
  go_wp2_with fail
  refine (valid_any _ _ _).mono ?_
  rintro e w1 ⟨rfl, hk⟩
  obtain ⟨hc1, hf1, hz1⟩ := hk.facts
  go_wp2_with fail
  refine (valid_any _ _ _).mono ?_
  rintro e w2 ⟨rfl, hk2'⟩
  have hk2 := hk.trans hk2'
  obtain ⟨hc2, hf2, hz2⟩ := hk2.facts
  clear hc1 hf1 hz1
  go_wp2_with fail
  have e0 : w2.cell? ⟨w.heap.size + 1 + 1, 0, none⟩ = some (.func (.func f) #[.agg #[.int .i64 an, .int .i64 ad]] #[]) := by rw [hc2 _ _ (by first | (simp; done) | (simp; omega))]; simp [go_sem]
  have e1 : w2.cell? ⟨w.heap.size + 1, 0, none⟩ = some (.int .i64 bn) := by rw [hc2 _ _ (by first | (simp; done) | (simp; omega))]; simp [go_sem]
  have e2 : w2.cell? ⟨w.heap.size + 1, 1, none⟩ = some (.int .i64 bd) := by rw [hc2 _ _ (by first | (simp; done) | (simp; omega))]; simp [go_sem]
  have e3 : w2.cell? ⟨w.heap.size + 1 + 1 + 1, 0, none⟩ = some (.int .i64 0) := by rw [hc2 _ _ (by first | (simp; done) | (simp; omega))]; simp [go_sem]
  have e4 : w2.cell? ⟨w.heap.size + 1 + 1 + 1, 1, none⟩ = some (.int .i64 0) := by rw [hc2 _ _ (by first | (simp; done) | (simp; omega))]; simp [go_sem]
  have lb3 : w.heap.size + 1 + 1 + 1 < w2.heap.size := by have := hk2.size; simp at this; omega
  have lb : w.heap.size + 1 + 1 < w2.heap.size := by omega
  refine (reckon_lim 147 _ _ e147 (fun W hW => comb1_lim _ _ f an ad bn bd eg W ((hW.cells _ _ lb).trans e0) ((hW.cells _ _ (by omega)).trans e1) ((hW.cells _ _ (by omega)).trans e2) H.out)).mono ?_
  rintro e w3 ⟨rfl, hk3⟩
  have e3' := (hk3.cells _ _ (by omega)).trans e3
  have e4' := (hk3.cells _ _ (by omega)).trans e4
  obtain ⟨hc3, hf3, hz3⟩ := (hk2.trans hk3).facts
  clear hc2 hf2 hz2 e0 e1 e2 e3 e4
  go_wp2
  refine bodyPost_ret (v := .tuple #[.agg #[.int .i64 0, .int .i64 0], .int .i64 2]) (by simp [results, Tryz.results93, go_sem, e3', e4']) rfl ⟨rfl, ?_⟩
  exact ((((((Kept.refl _).alloc _).alloc _).alloc _).alloc _).trans (hk2.trans hk3) |>.setCell (by first | (simp; done) | (simp; omega)) _).setCell (by first | (simp; done) | (simp; omega)) _
end Go.Proofs.YtcjpecdnenemaaaGreatDoor

namespace Go.Proofs.YtcjpecdnenemaaaGreatDoor
set_option linter.unusedVariables false
open Go.RowKit Go.Shelf

def normS (n d : Int) : Int × Int × Int := if d = 0 ∨ inB n (-1000000000000000) 1000000000000000 = false ∨ inB d (-1000000000000000) 1000000000000000 = false then (0, 0, 1) else okL (lowF n d)
def addS (an ad bn bd : Int) : Int × Int × Int := if (vld an ad && vld bn bd) = true then okL (lowF (an * bd + bn * ad) (ad * bd)) else (0, 0, 1)
def subS (an ad bn bd : Int) : Int × Int × Int := if (vld an ad && vld bn bd) = true then okL (lowF (an * bd + -bn * ad) (ad * bd)) else (0, 0, 1)
def mulS (an ad bn bd : Int) : Int × Int × Int := if (vld an ad && vld bn bd) = true then okL (mulF an ad bn bd) else (0, 0, 1)

theorem add_of (an ad bn bd r1 r2 r3 : Int) (w : World)
    (hop : ∀ w1, Calls Tryz.prog 93 #[.agg #[.int .i64 an, .int .i64 ad], .agg #[.int .i64 bn, .int .i64 bd], .func (.func 94) #[.agg #[.int .i64 an, .int .i64 ad]] #[]] w1 fun e w' => e = .returned (.tuple #[.agg #[.int .i64 r1, .int .i64 r2], .int .i64 r3]) ∧ Kept w1 w') :
    Calls Tryz.prog 27 #[.agg #[.int .i64 an, .int .i64 ad], .agg #[.int .i64 bn, .int .i64 bd]] w fun e w' => e = .returned (.tuple #[.agg #[.int .i64 r1, .int .i64 r2], .int .i64 r3]) ∧ Kept w w' := by
  have hmf : ∀ (fn : Fn) (first cap : Array Value) (w : World), (Instr.makeFunc fn first cap).run Tryz.prog w = .ok (.func fn first cap) w := fun _ _ _ _ => rfl
  have H := Lib.hid hop
  clear hop
  go_enter Tryz.func27, Tryz.ntmps27
  go_wp2_with fail
  refine (H.out _).mono ?_
  rintro e w1 ⟨rfl, hk⟩
  obtain ⟨hc1, hf1, hz1⟩ := hk.facts
  go_wp2
  have e0 : w1.cell? ⟨w.heap.size + 1 + 1, 0, none⟩ = some (.int .i64 0) := by rw [hc1 _ _ (by first | (simp; done) | (simp; omega))]; simp [go_sem]
  have e1 : w1.cell? ⟨w.heap.size + 1 + 1, 1, none⟩ = some (.int .i64 0) := by rw [hc1 _ _ (by first | (simp; done) | (simp; omega))]; simp [go_sem]
  refine bodyPost_ret (v := .tuple #[.agg #[.int .i64 r1, .int .i64 r2], .int .i64 r3]) (by simp [results, Tryz.results27, go_sem, e0, e1]) rfl ⟨rfl, ?_⟩
  exact (((((Kept.refl _).alloc _).alloc _).alloc _).trans hk |>.setCell (by first | (simp; done) | (simp; omega)) _).setCell (by first | (simp; done) | (simp; omega)) _
theorem add_any (an ad bn bd : Int) (w : World) :
    Calls Tryz.prog 27 #[.agg #[.int .i64 an, .int .i64 ad], .agg #[.int .i64 bn, .int .i64 bd]] w fun e w' => e = .returned (.tuple #[.agg #[.int .i64 (addS an ad bn bd).1, .int .i64 (addS an ad bn bd).2.1], .int .i64 (addS an ad bn bd).2.2]) ∧ Kept w w' := by
  refine add_of an ad bn bd _ _ _ w (fun w1 => ?_)
  by_cases h : vld an ad = true
  · by_cases k : vld bn bd = true
    · have hs : addS an ad bn bd = okL (lowF (an * bd + bn * ad) (ad * bd)) := by simp [addS, h, k]
      rw [hs]
      rcases hr : lowF (an * bd + bn * ad) (ad * bd) with _ | ⟨x, y⟩
      · exact combine_lim an ad bn bd 94 e94 h k (fun w2 => plus_none an ad bn bd (vld_bd h) (vld_bd k) hr w2) w1
      · exact combine_ok an ad bn bd 94 e94 h k x y (fun w2 => plus_some an ad bn bd x y (vld_bd h) (vld_bd k) hr w2) w1
    · have k' : vld bn bd = false := by simpa using k
      have hs : addS an ad bn bd = (0, 0, 1) := by simp [addS, k']
      rw [hs]
      exact combine_bad2 an ad bn bd an ad 94 h k' w1
  · have h' : vld an ad = false := by simpa using h
    have hs : addS an ad bn bd = (0, 0, 1) := by simp [addS, h']
    rw [hs]
    exact combine_bad1 an ad bn bd an ad 94 h' w1

theorem sub_of (an ad bn bd r1 r2 r3 : Int) (w : World)
    (hop : ∀ w1, Calls Tryz.prog 93 #[.agg #[.int .i64 an, .int .i64 ad], .agg #[.int .i64 bn, .int .i64 bd], .func (.func 95) #[.agg #[.int .i64 an, .int .i64 ad]] #[]] w1 fun e w' => e = .returned (.tuple #[.agg #[.int .i64 r1, .int .i64 r2], .int .i64 r3]) ∧ Kept w1 w') :
    Calls Tryz.prog 29 #[.agg #[.int .i64 an, .int .i64 ad], .agg #[.int .i64 bn, .int .i64 bd]] w fun e w' => e = .returned (.tuple #[.agg #[.int .i64 r1, .int .i64 r2], .int .i64 r3]) ∧ Kept w w' := by
  have hmf : ∀ (fn : Fn) (first cap : Array Value) (w : World), (Instr.makeFunc fn first cap).run Tryz.prog w = .ok (.func fn first cap) w := fun _ _ _ _ => rfl
  have H := Lib.hid hop
  clear hop
  go_enter Tryz.func29, Tryz.ntmps29
  go_wp2_with fail
  refine (H.out _).mono ?_
  rintro e w1 ⟨rfl, hk⟩
  obtain ⟨hc1, hf1, hz1⟩ := hk.facts
  go_wp2
  have e0 : w1.cell? ⟨w.heap.size + 1 + 1, 0, none⟩ = some (.int .i64 0) := by rw [hc1 _ _ (by first | (simp; done) | (simp; omega))]; simp [go_sem]
  have e1 : w1.cell? ⟨w.heap.size + 1 + 1, 1, none⟩ = some (.int .i64 0) := by rw [hc1 _ _ (by first | (simp; done) | (simp; omega))]; simp [go_sem]
  refine bodyPost_ret (v := .tuple #[.agg #[.int .i64 r1, .int .i64 r2], .int .i64 r3]) (by simp [results, Tryz.results29, go_sem, e0, e1]) rfl ⟨rfl, ?_⟩
  exact (((((Kept.refl _).alloc _).alloc _).alloc _).trans hk |>.setCell (by first | (simp; done) | (simp; omega)) _).setCell (by first | (simp; done) | (simp; omega)) _
theorem sub_any (an ad bn bd : Int) (w : World) :
    Calls Tryz.prog 29 #[.agg #[.int .i64 an, .int .i64 ad], .agg #[.int .i64 bn, .int .i64 bd]] w fun e w' => e = .returned (.tuple #[.agg #[.int .i64 (subS an ad bn bd).1, .int .i64 (subS an ad bn bd).2.1], .int .i64 (subS an ad bn bd).2.2]) ∧ Kept w w' := by
  refine sub_of an ad bn bd _ _ _ w (fun w1 => ?_)
  by_cases h : vld an ad = true
  · by_cases k : vld bn bd = true
    · have hs : subS an ad bn bd = okL (lowF (an * bd + -bn * ad) (ad * bd)) := by simp [subS, h, k]
      rw [hs]
      rcases hr : lowF (an * bd + -bn * ad) (ad * bd) with _ | ⟨x, y⟩
      · exact combine_lim an ad bn bd 95 e95 h k (fun w2 => minus_none an ad bn bd (vld_bd h) (vld_bd k) hr w2) w1
      · exact combine_ok an ad bn bd 95 e95 h k x y (fun w2 => minus_some an ad bn bd x y (vld_bd h) (vld_bd k) hr w2) w1
    · have k' : vld bn bd = false := by simpa using k
      have hs : subS an ad bn bd = (0, 0, 1) := by simp [subS, k']
      rw [hs]
      exact combine_bad2 an ad bn bd an ad 95 h k' w1
  · have h' : vld an ad = false := by simpa using h
    have hs : subS an ad bn bd = (0, 0, 1) := by simp [subS, h']
    rw [hs]
    exact combine_bad1 an ad bn bd an ad 95 h' w1

theorem mul_of (an ad bn bd r1 r2 r3 : Int) (w : World)
    (hop : ∀ w1, Calls Tryz.prog 93 #[.agg #[.int .i64 an, .int .i64 ad], .agg #[.int .i64 bn, .int .i64 bd], .func (.func 96) #[.agg #[.int .i64 an, .int .i64 ad]] #[]] w1 fun e w' => e = .returned (.tuple #[.agg #[.int .i64 r1, .int .i64 r2], .int .i64 r3]) ∧ Kept w1 w') :
    Calls Tryz.prog 31 #[.agg #[.int .i64 an, .int .i64 ad], .agg #[.int .i64 bn, .int .i64 bd]] w fun e w' => e = .returned (.tuple #[.agg #[.int .i64 r1, .int .i64 r2], .int .i64 r3]) ∧ Kept w w' := by
  have hmf : ∀ (fn : Fn) (first cap : Array Value) (w : World), (Instr.makeFunc fn first cap).run Tryz.prog w = .ok (.func fn first cap) w := fun _ _ _ _ => rfl
  have H := Lib.hid hop
  clear hop
  go_enter Tryz.func31, Tryz.ntmps31
  go_wp2_with fail
  refine (H.out _).mono ?_
  rintro e w1 ⟨rfl, hk⟩
  obtain ⟨hc1, hf1, hz1⟩ := hk.facts
  go_wp2
  have e0 : w1.cell? ⟨w.heap.size + 1 + 1, 0, none⟩ = some (.int .i64 0) := by rw [hc1 _ _ (by first | (simp; done) | (simp; omega))]; simp [go_sem]
  have e1 : w1.cell? ⟨w.heap.size + 1 + 1, 1, none⟩ = some (.int .i64 0) := by rw [hc1 _ _ (by first | (simp; done) | (simp; omega))]; simp [go_sem]
  refine bodyPost_ret (v := .tuple #[.agg #[.int .i64 r1, .int .i64 r2], .int .i64 r3]) (by simp [results, Tryz.results31, go_sem, e0, e1]) rfl ⟨rfl, ?_⟩
  exact (((((Kept.refl _).alloc _).alloc _).alloc _).trans hk |>.setCell (by first | (simp; done) | (simp; omega)) _).setCell (by first | (simp; done) | (simp; omega)) _
theorem mul_any (an ad bn bd : Int) (w : World) :
    Calls Tryz.prog 31 #[.agg #[.int .i64 an, .int .i64 ad], .agg #[.int .i64 bn, .int .i64 bd]] w fun e w' => e = .returned (.tuple #[.agg #[.int .i64 (mulS an ad bn bd).1, .int .i64 (mulS an ad bn bd).2.1], .int .i64 (mulS an ad bn bd).2.2]) ∧ Kept w w' := by
  refine mul_of an ad bn bd _ _ _ w (fun w1 => ?_)
  by_cases h : vld an ad = true
  · by_cases k : vld bn bd = true
    · have hs : mulS an ad bn bd = okL (mulF an ad bn bd) := by simp [mulS, h, k]
      rw [hs]
      rcases hr : mulF an ad bn bd with _ | ⟨x, y⟩
      · exact combine_lim an ad bn bd 96 e96 h k (fun w2 => times_none an ad bn bd (vld_bd h) (vld_bd k) hr w2) w1
      · exact combine_ok an ad bn bd 96 e96 h k x y (fun w2 => times_some an ad bn bd x y (vld_bd h) (vld_bd k) hr w2) w1
    · have k' : vld bn bd = false := by simpa using k
      have hs : mulS an ad bn bd = (0, 0, 1) := by simp [mulS, k']
      rw [hs]
      exact combine_bad2 an ad bn bd an ad 96 h k' w1
  · have h' : vld an ad = false := by simpa using h
    have hs : mulS an ad bn bd = (0, 0, 1) := by simp [mulS, h']
    rw [hs]
    exact combine_bad1 an ad bn bd an ad 96 h' w1

theorem norm_some (n d x y : Int) (hd : (d == 0) = false) (h1 : inB n (-1000000000000000) 1000000000000000 = true) (h2 : inB d (-1000000000000000) 1000000000000000 = true) (hr : lowF n d = some (x, y)) (w : World) :
    Calls Tryz.prog 19 #[.int .i64 n, .int .i64 d] w fun e w' => e = .returned (.tuple #[.agg #[.int .i64 x, .int .i64 y], .int .i64 0]) ∧ Kept w w' := by
  have hmf : ∀ (fn : Fn) (first cap : Array Value) (w : World), (Instr.makeFunc fn first cap).run Tryz.prog w = .ok (.func fn first cap) w := fun _ _ _ _ => rfl
  have Hr := Lib.hid hr
  clear hr
  have b1 := inB_iff.1 h1
  have b2 := inB_iff.1 h2
  have hd0 : d ≠ 0 := by simpa using hd
  have Hd := Lib.hid hd0
  clear hd0
  go_enter Tryz.func19, Tryz.ntmps19
  go_wp2_with (go_at_call 82; refine (within_any _ _ _ _).mono ?_; rintro e w' ⟨rfl, rfl⟩)
  refine (reckon_ok 84 _ x y _ e84 (fun W hW => norm1_some _ _ n d x y (by omega) (by omega) (by omega) (by omega) Hd.out Hr.out W ((hW.cells w.heap.size 0 (by first | (simp; done) | (simp; omega))).trans (by simp [go_sem])) ((hW.cells (w.heap.size + 1) 0 (by first | (simp; done) | (simp; omega))).trans (by simp [go_sem])))).mono ?_
  rintro e w1 ⟨rfl, hk⟩
  obtain ⟨hc1, hf1, hz1⟩ := hk.facts
  go_wp2
  have e0 : w1.cell? ⟨w.heap.size + 1 + 1, 0, none⟩ = some (.int .i64 0) := by rw [hc1 _ _ (by first | (simp; done) | (simp; omega))]; simp [go_sem]
  have e1 : w1.cell? ⟨w.heap.size + 1 + 1, 1, none⟩ = some (.int .i64 0) := by rw [hc1 _ _ (by first | (simp; done) | (simp; omega))]; simp [go_sem]
  refine bodyPost_ret (v := .tuple #[.agg #[.int .i64 x, .int .i64 y], .int .i64 0]) (by simp [results, Tryz.results19, go_sem, e0, e1]) rfl ⟨rfl, ?_⟩
  exact (((((Kept.refl _).alloc _).alloc _).alloc _).trans hk |>.setCell (by first | (simp; done) | (simp; omega)) _).setCell (by first | (simp; done) | (simp; omega)) _
theorem norm_none (n d : Int) (hd : (d == 0) = false) (h1 : inB n (-1000000000000000) 1000000000000000 = true) (h2 : inB d (-1000000000000000) 1000000000000000 = true) (hr : lowF n d = none) (w : World) :
    Calls Tryz.prog 19 #[.int .i64 n, .int .i64 d] w fun e w' => e = .returned (.tuple #[.agg #[.int .i64 0, .int .i64 0], .int .i64 2]) ∧ Kept w w' := by
  have hmf : ∀ (fn : Fn) (first cap : Array Value) (w : World), (Instr.makeFunc fn first cap).run Tryz.prog w = .ok (.func fn first cap) w := fun _ _ _ _ => rfl
  have Hr := Lib.hid hr
  clear hr
  have b1 := inB_iff.1 h1
  have b2 := inB_iff.1 h2
  have hd0 : d ≠ 0 := by simpa using hd
  have Hd := Lib.hid hd0
  clear hd0
  go_enter Tryz.func19, Tryz.ntmps19
  go_wp2_with (go_at_call 82; refine (within_any _ _ _ _).mono ?_; rintro e w' ⟨rfl, rfl⟩)
  refine (reckon_lim 84 _ _ e84 (fun W hW => norm1_none _ _ n d (by omega) (by omega) (by omega) (by omega) Hd.out Hr.out W ((hW.cells w.heap.size 0 (by first | (simp; done) | (simp; omega))).trans (by simp [go_sem])) ((hW.cells (w.heap.size + 1) 0 (by first | (simp; done) | (simp; omega))).trans (by simp [go_sem])))).mono ?_
  rintro e w1 ⟨rfl, hk⟩
  obtain ⟨hc1, hf1, hz1⟩ := hk.facts
  go_wp2
  have e0 : w1.cell? ⟨w.heap.size + 1 + 1, 0, none⟩ = some (.int .i64 0) := by rw [hc1 _ _ (by first | (simp; done) | (simp; omega))]; simp [go_sem]
  have e1 : w1.cell? ⟨w.heap.size + 1 + 1, 1, none⟩ = some (.int .i64 0) := by rw [hc1 _ _ (by first | (simp; done) | (simp; omega))]; simp [go_sem]
  refine bodyPost_ret (v := .tuple #[.agg #[.int .i64 0, .int .i64 0], .int .i64 2]) (by simp [results, Tryz.results19, go_sem, e0, e1]) rfl ⟨rfl, ?_⟩
  exact (((((Kept.refl _).alloc _).alloc _).alloc _).trans hk |>.setCell (by first | (simp; done) | (simp; omega)) _).setCell (by first | (simp; done) | (simp; omega)) _
theorem norm_bad (n d : Int) (h : (d == 0) = true ∨ ((d == 0) = false ∧ inB n (-1000000000000000) 1000000000000000 = false) ∨ ((d == 0) = false ∧ inB n (-1000000000000000) 1000000000000000 = true ∧ inB d (-1000000000000000) 1000000000000000 = false)) (w : World) :
    Calls Tryz.prog 19 #[.int .i64 n, .int .i64 d] w fun e w' => e = .returned (.tuple #[.agg #[.int .i64 0, .int .i64 0], .int .i64 1]) ∧ Kept w w' := by
  rcases h with h | ⟨h, h1⟩ | ⟨h, h1, h2⟩
  all_goals
    go_enter Tryz.func19, Tryz.ntmps19
    go_wp2_with (go_at_call 82; refine (within_any _ _ _ _).mono ?_; rintro e w' ⟨rfl, rfl⟩)
    refine bodyPost_ret (v := .tuple #[.agg #[.int .i64 0, .int .i64 0], .int .i64 1]) (by simp [results, Tryz.results19, go_sem]) rfl ⟨rfl, ?_⟩
    first
      | exact (((Kept.refl _).alloc _).alloc _).alloc _
      | exact (((((Kept.refl _).alloc _).alloc _).alloc _).setCell (by first | (simp; done) | (simp; omega)) _).setCell (by first | (simp; done) | (simp; omega)) _

theorem norm_any (n d : Int) (w : World) :
    Calls Tryz.prog 19 #[.int .i64 n, .int .i64 d] w fun e w' => e = .returned (.tuple #[.agg #[.int .i64 (normS n d).1, .int .i64 (normS n d).2.1], .int .i64 (normS n d).2.2]) ∧ Kept w w' := by
  by_cases h : d = 0
  · have hs : normS n d = (0, 0, 1) := by simp [normS, h]
    rw [hs]
    exact norm_bad n d (.inl (by simp [h])) w
  by_cases h1 : inB n (-1000000000000000) 1000000000000000 = true
  · by_cases h2 : inB d (-1000000000000000) 1000000000000000 = true
    · have hs : normS n d = okL (lowF n d) := by simp [normS, h, h1, h2]
      rw [hs]
      rcases hr : lowF n d with _ | ⟨x, y⟩
      · exact norm_none n d (by simp [h]) h1 h2 hr w
      · exact norm_some n d x y (by simp [h]) h1 h2 hr w
    · have h2' : inB d (-1000000000000000) 1000000000000000 = false := by simpa using h2
      have hs : normS n d = (0, 0, 1) := by simp [normS, h2']
      rw [hs]
      exact norm_bad n d (.inr (.inr ⟨by simp [h], h1, h2'⟩)) w
  · have h1' : inB n (-1000000000000000) 1000000000000000 = false := by simpa using h1
    have hs : normS n d = (0, 0, 1) := by simp [normS, h1']
    rw [hs]
    exact norm_bad n d (.inr (.inl ⟨by simp [h], h1'⟩)) w
end Go.Proofs.YtcjpecdnenemaaaGreatDoor
