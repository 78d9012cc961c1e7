/- Misses and Doubles: what a re-count asks -/
import Derived.Test.YtdeokdlkjgpffaaGreatDoorTh
namespace Go.Proofs.YtdeokdlkjgpffaaGreatDoor
set_option linter.all false
open Go.RowKit

def askOk (n c : Int) : Bool := inB n 1 100000 && inB c 0 200000
def lrI (ok : Bool) (k : Nat) : Int := if ok = true ∧ k < 501 then (k : Int) else 0
def lrB (ok : Bool) (k : Nat) : Bool := ok && decide (k < 501)
def missN (n c : Int) : Nat := firstN (fun r => decide (loI r n ≤ c)) 501
def doubN (n c : Int) : Nat := firstN (fun r => decide (c ≤ hiI r n)) 501
def misI (n c : Int) : Int := lrI (askOk n c) (missN n c)
def misB (n c : Int) : Bool := lrB (askOk n c) (missN n c)
def douI (n c : Int) : Int := lrI (askOk n c) (doubN n c)
def douB (n c : Int) : Bool := lrB (askOk n c) (doubN n c)
theorem askOk_iff {n c : Int} : askOk n c = true ↔ (1 ≤ n ∧ n ≤ 100000) ∧ (0 ≤ c ∧ c ≤ 200000) := by
  unfold askOk; rw [Bool.and_eq_true, inB_iff, inB_iff]
theorem loI_rate {m r n : Int} (hn : 0 ≤ n) (h : m ≤ r) : loI r n ≤ loI m n := by
  have h1 : n * m ≤ n * r := Int.mul_le_mul_of_nonneg_left h hn
  have h2 : n * m / 1000 ≤ n * r / 1000 := Int.ediv_le_ediv (by omega) h1
  unfold loI; omega
theorem hiI_rate {m r n : Int} (hn : 0 ≤ n) (h : m ≤ r) : hiI m n ≤ hiI r n := by
  have h1 : n * m ≤ n * r := Int.mul_le_mul_of_nonneg_left h hn
  have h2 : n * m / 1000 ≤ n * r / 1000 := Int.ediv_le_ediv (by omega) h1
  unfold hiI; omega

set_option maxRecDepth 100000 in
theorem leastRate_any (g : Nat) (cb : Array Value) (q : Nat → Bool) (n c : Int) (w : World) (eg : ∀ args w, (callFunc g args).run Tryz.prog w = .ok (.enter g args) w)
    (hg : askOk n c = true → HoldT g 501 cb (fun i => (i : Int)) q w) (hmono : askOk n c = true → ∀ a b, a ≤ b → b < 501 → q a = true → q b = true) :
    Calls Tryz.prog 42 #[.int .i64 n, .int .i64 c, .func (.func g) #[] cb] w fun e w' => e = .returned (.tuple #[.int .i64 (lrI (askOk n c) (firstN q 501)), .bool (lrB (askOk n c) (firstN q 501))]) ∧ Kept w w' := by
  have kk := Kept.refl w
  rcases h0 : askOk n c with _ | _
  · have HS1 : RowKit.Hid (lrI false (firstN q 501) = 0) := Lib.hid (by simp [lrI])
    have HS2 : RowKit.Hid (lrB false (firstN q 501) = false) := Lib.hid (by simp [lrB])
    clear hg hmono
    have h3 : inB n 0 100000 = false ∨ (inB n 0 100000 = true ∧ n = 0) ∨ (inB n 0 100000 = true ∧ ¬ n = 0 ∧ inB c 0 200000 = false) := by
      have h1 : ¬ ((1 ≤ n ∧ n ≤ 100000) ∧ (0 ≤ c ∧ c ≤ 200000)) := fun h => by rw [askOk_iff.2 h] at h0; cases h0
      rw [inB_iff, inB_not, inB_not]; omega
    clear h0
    rcases h3 with h3 | ⟨h3, h4⟩ | ⟨h3, h4, h5⟩
    case' inr.inl => subst h4
    all_goals
      go_enter Tryz.func42, Tryz.ntmps42
      go_wp2_with (first
        | (go_at_call 34; refine (isTrue_any _ _).mono ?_; rintro e w1 ⟨rfl, hk⟩; replace kk := (by first | with_reducible exact kk.trans hk | with_reducible exact (kk.alloc _).trans hk | with_reducible exact kk.drew.trans hk | with_reducible exact (kk.drew.alloc _).trans hk | with_reducible exact (kk.alloc _).drew.trans hk | with_reducible exact ((kk.alloc _).alloc _).trans hk | with_reducible exact ((kk.drew.alloc _).alloc _).trans hk | fail))
        | (go_at_call 37; refine (isCounted_any _ _).mono ?_; rintro e w1 ⟨rfl, hk⟩; replace kk := (by first | with_reducible exact kk.trans hk | with_reducible exact (kk.alloc _).trans hk | with_reducible exact kk.drew.trans hk | with_reducible exact (kk.drew.alloc _).trans hk | with_reducible exact (kk.alloc _).drew.trans hk | with_reducible exact ((kk.alloc _).alloc _).trans hk | with_reducible exact ((kk.drew.alloc _).alloc _).trans hk | fail))
        | fail)
      exact bodyPost_ret (v := .tuple #[.int .i64 0, .bool false]) (by simp [results, Tryz.results42, go_sem]) rfl ⟨by rw [HS1.out, HS2.out], (by first | with_reducible exact kk | with_reducible exact kk.alloc _ | with_reducible exact kk.drew | with_reducible exact kk.drew.alloc _ | with_reducible exact (kk.alloc _).alloc _ | fail)⟩
  · have hb := askOk_iff.1 h0
    have h3 : inB n 0 100000 = true := inB_iff.2 (by omega)
    have h4 : ¬ n = 0 := by omega
    have h5 : inB c 0 200000 = true := inB_iff.2 (by omega)
    clear hb
    have HG := Lib.hid (hg h0)
    have HM := Lib.hid (hmono h0)
    clear hg hmono h0
    by_cases hk : firstN q 501 = 501
    · have HS1 : RowKit.Hid (lrI true (firstN q 501) = 0) := Lib.hid (by simp [lrI, hk])
      have HS2 : RowKit.Hid (lrB true (firstN q 501) = false) := Lib.hid (by simp [lrB, hk])
      have HC : RowKit.Hid (∀ W, Kept w W → Calls Tryz.prog 57 #[.agg #[.int .i64 501, .func (.func 55) #[] #[], .func (.func g) #[] cb]] W fun e w' => e = .returned (.tuple #[.int .i64 0, .bool false]) ∧ Kept W w') := Lib.hid (fun W hW =>
        (first_any g 55 501 cb _ q W eg e100 (by omega) (up_any _) (HG.out.kept hW) HM.out).mono fun _ _ ⟨he, hk1⟩ => ⟨he.trans (by rw [firstV, if_pos hk]), hk1⟩)
      clear hk
      go_enter Tryz.func42, Tryz.ntmps42
      go_wp2_with (first
        | (go_at_call 34; refine (isTrue_any _ _).mono ?_; rintro e w1 ⟨rfl, hk⟩; replace kk := (by first | with_reducible exact kk.trans hk | with_reducible exact (kk.alloc _).trans hk | with_reducible exact kk.drew.trans hk | with_reducible exact (kk.drew.alloc _).trans hk | with_reducible exact (kk.alloc _).drew.trans hk | with_reducible exact ((kk.alloc _).alloc _).trans hk | with_reducible exact ((kk.drew.alloc _).alloc _).trans hk | fail))
        | (go_at_call 37; refine (isCounted_any _ _).mono ?_; rintro e w1 ⟨rfl, hk⟩; replace kk := (by first | with_reducible exact kk.trans hk | with_reducible exact (kk.alloc _).trans hk | with_reducible exact kk.drew.trans hk | with_reducible exact (kk.drew.alloc _).trans hk | with_reducible exact (kk.alloc _).drew.trans hk | with_reducible exact ((kk.alloc _).alloc _).trans hk | with_reducible exact ((kk.drew.alloc _).alloc _).trans hk | fail))
        | (go_at_call 57; refine (HC.out _ kk).mono ?_; rintro e w1 ⟨rfl, hk⟩; replace kk := (by first | with_reducible exact kk.trans hk | with_reducible exact (kk.alloc _).trans hk | with_reducible exact kk.drew.trans hk | with_reducible exact (kk.drew.alloc _).trans hk | with_reducible exact (kk.alloc _).drew.trans hk | with_reducible exact ((kk.alloc _).alloc _).trans hk | with_reducible exact ((kk.drew.alloc _).alloc _).trans hk | fail))
        | fail)
      exact bodyPost_ret (v := .tuple #[.int .i64 0, .bool false]) (by simp [results, Tryz.results42, go_sem]) rfl ⟨by rw [HS1.out, HS2.out], (by first | with_reducible exact kk | with_reducible exact kk.alloc _ | with_reducible exact kk.drew | with_reducible exact kk.drew.alloc _ | with_reducible exact (kk.alloc _).alloc _ | fail)⟩
    · have hlt : firstN q 501 < 501 := by have := firstN_le q 501; omega
      obtain ⟨k, hkk⟩ : ∃ k, k = firstN q 501 := ⟨_, rfl⟩
      have HC : RowKit.Hid (∀ W, Kept w W → Calls Tryz.prog 57 #[.agg #[.int .i64 501, .func (.func 55) #[] #[], .func (.func g) #[] cb]] W fun e w' => e = .returned (.tuple #[.int .i64 k, .bool true]) ∧ Kept W w') := Lib.hid (fun W hW =>
        (first_any g 55 501 cb _ q W eg e100 (by omega) (up_any _) (HG.out.kept hW) HM.out).mono fun _ _ ⟨he, hk1⟩ => ⟨he.trans (by rw [firstV, if_neg hk, hkk]), hk1⟩)
      have HS1 : RowKit.Hid (lrI true (firstN q 501) = (k : Int)) := Lib.hid (by rw [hkk]; simp [lrI, hlt])
      have HS2 : RowKit.Hid (lrB true (firstN q 501) = true) := Lib.hid (by simp [lrB, hlt])
      clear hk hlt hkk
      go_enter Tryz.func42, Tryz.ntmps42
      go_wp2_with (first
        | (go_at_call 34; refine (isTrue_any _ _).mono ?_; rintro e w1 ⟨rfl, hk⟩; replace kk := (by first | with_reducible exact kk.trans hk | with_reducible exact (kk.alloc _).trans hk | with_reducible exact kk.drew.trans hk | with_reducible exact (kk.drew.alloc _).trans hk | with_reducible exact (kk.alloc _).drew.trans hk | with_reducible exact ((kk.alloc _).alloc _).trans hk | with_reducible exact ((kk.drew.alloc _).alloc _).trans hk | fail))
        | (go_at_call 37; refine (isCounted_any _ _).mono ?_; rintro e w1 ⟨rfl, hk⟩; replace kk := (by first | with_reducible exact kk.trans hk | with_reducible exact (kk.alloc _).trans hk | with_reducible exact kk.drew.trans hk | with_reducible exact (kk.drew.alloc _).trans hk | with_reducible exact (kk.alloc _).drew.trans hk | with_reducible exact ((kk.alloc _).alloc _).trans hk | with_reducible exact ((kk.drew.alloc _).alloc _).trans hk | fail))
        | (go_at_call 57; refine (HC.out _ kk).mono ?_; rintro e w1 ⟨rfl, hk⟩; replace kk := (by first | with_reducible exact kk.trans hk | with_reducible exact (kk.alloc _).trans hk | with_reducible exact kk.drew.trans hk | with_reducible exact (kk.drew.alloc _).trans hk | with_reducible exact (kk.alloc _).drew.trans hk | with_reducible exact ((kk.alloc _).alloc _).trans hk | with_reducible exact ((kk.drew.alloc _).alloc _).trans hk | fail))
        | fail)
      exact bodyPost_ret (v := .tuple #[.int .i64 k, .bool true]) (by simp [results, Tryz.results42, go_sem]) rfl ⟨by rw [HS1.out, HS2.out], (by first | with_reducible exact kk | with_reducible exact kk.alloc _ | with_reducible exact kk.drew | with_reducible exact kk.drew.alloc _ | with_reducible exact (kk.alloc _).alloc _ | fail)⟩

theorem hold89 (bn bc : Nat) (n c : Int) (hn : 0 ≤ n) (hn1 : n ≤ 100000) (w : World) (c0 : w.cell? ⟨bn, 0, none⟩ = some (.int .i64 n)) (c1 : w.cell? ⟨bc, 0, none⟩ = some (.int .i64 c)) :
    HoldT 43 501 #[.pointer (some ⟨bn, 0, none⟩), .pointer (some ⟨bc, 0, none⟩)] (fun i => (i : Int)) (fun i => decide (loI i n ≤ c)) w := by
  intro W i hW hi
  show Calls Tryz.prog 43 #[.int .i64 i, .pointer (some ⟨bn, 0, none⟩), .pointer (some ⟨bc, 0, none⟩)] W _
  have d0 := (hW.cells _ _ (cell_lt c0)).trans c0
  have d1 := (hW.cells _ _ (cell_lt c1)).trans c1
  have D1 := Lib.hid d1
  clear c0 c1
  have b1 := cell_lt d1
  go_enter Tryz.func43, Tryz.ntmps43
  go_wp2_with fail
  go_region_with (first
    | (go_at_call 35; refine (least_any _ _ n hn hn1 (by omega) (by omega) _).mono ?_; rintro e w1 ⟨rfl, hk⟩; have kk := (Kept.refl _).drew.trans hk; have f1 := (kk.cells _ _ b1).trans D1.out)
    | fail)
  all_goals go_wp2
  all_goals go_ret
  all_goals exact ⟨rfl, kk⟩

theorem hold90 (bn bc : Nat) (n c : Int) (hn : 0 ≤ n) (hn1 : n ≤ 100000) (w : World) (c0 : w.cell? ⟨bn, 0, none⟩ = some (.int .i64 n)) (c1 : w.cell? ⟨bc, 0, none⟩ = some (.int .i64 c)) :
    HoldT 44 501 #[.pointer (some ⟨bn, 0, none⟩), .pointer (some ⟨bc, 0, none⟩)] (fun i => (i : Int)) (fun i => decide (c ≤ hiI i n)) w := by
  intro W i hW hi
  show Calls Tryz.prog 44 #[.int .i64 i, .pointer (some ⟨bn, 0, none⟩), .pointer (some ⟨bc, 0, none⟩)] W _
  have d0 := (hW.cells _ _ (cell_lt c0)).trans c0
  have d1 := (hW.cells _ _ (cell_lt c1)).trans c1
  have D1 := Lib.hid d1
  clear c0 c1
  have b1 := cell_lt d1
  go_enter Tryz.func44, Tryz.ntmps44
  go_wp2_with fail
  go_region_with (first
    | (go_at_call 36; refine (greatest_any _ _ n hn hn1 (by omega) (by omega) _).mono ?_; rintro e w1 ⟨rfl, hk⟩; have kk := (Kept.refl _).drew.trans hk; have f1 := (kk.cells _ _ b1).trans D1.out)
    | fail)
  all_goals go_wp2
  all_goals go_ret
  all_goals exact ⟨rfl, kk⟩

theorem misses_any (n c : Int) (w : World) :
    Calls Tryz.prog 19 #[.int .i64 n, .int .i64 c] w fun e w' => e = .returned (.tuple #[.int .i64 (misI n c), .bool (misB n c)]) ∧ Kept w w' := by
  have hmf : ∀ (fn : Fn) (first cap : Array Value) (w : World), (Instr.makeFunc fn first cap).run Tryz.prog w = .ok (.func fn first cap) w := fun _ _ _ _ => rfl
  obtain ⟨W0, hW0⟩ : ∃ W0, W0 = (w.alloc (.cells #[.int .i64 n] 3)).alloc (.cells #[.int .i64 c] 3) := ⟨_, rfl⟩
  have k0 : Kept w W0 := by rw [hW0]; exact (((Kept.refl _).alloc _).alloc _)
  have c00 : W0.cell? ⟨w.heap.size, 0, none⟩ = some (.int .i64 n) := by rw [hW0]; exact cellOld _ (cellNew (by simp) rfl)
  have c10 : W0.cell? ⟨w.heap.size + 1, 0, none⟩ = some (.int .i64 c) := by rw [hW0]; exact cellNew (by simp) rfl
  have BR : RowKit.Hid (∀ W, Kept W0 W → W.cell? ⟨w.heap.size, 0, none⟩ = some (.int .i64 n) ∧ W.cell? ⟨w.heap.size + 1, 0, none⟩ = some (.int .i64 c)) := Lib.hid (fun W hW => ⟨(hW.cells _ _ (cell_lt c00)).trans c00, (hW.cells _ _ (cell_lt c10)).trans c10⟩)
  have Z0 : W0.heap.size = w.heap.size + 1 + 1 := by rw [hW0]; simp
  have ZZ := Lib.hid Z0
  have HW := Lib.hid hW0
  have K0 := Lib.hid k0
  clear hW0 k0 Z0
  have kk := Kept.refl W0
  have b0 := cell_lt c00
  have b1 := cell_lt c10
  obtain ⟨x, hx⟩ : ∃ x, x = misI n c := ⟨_, rfl⟩
  obtain ⟨y, hy⟩ : ∃ y, y = misB n c := ⟨_, rfl⟩
  have HC : RowKit.Hid (∀ W, Kept W0 W → Calls Tryz.prog 42 #[.int .i64 n, .int .i64 c, .func (.func 43) #[] #[.pointer (some ⟨w.heap.size, 0, none⟩), .pointer (some ⟨w.heap.size + 1, 0, none⟩)]] W fun e w' => e = .returned (.tuple #[.int .i64 x, .bool y]) ∧ Kept W w') := Lib.hid (fun W hW => by
    obtain ⟨c00, c10⟩ := BR.out W hW
    rw [hx, hy]
    exact leastRate_any 43 _ (fun i => decide (loI i n ≤ c)) n c W e89 (fun h => hold89 _ _ n c (by have := askOk_iff.1 h; omega) (by have := askOk_iff.1 h; omega) W c00 c10) (fun h a b hab hb hp => by
      have hn := (askOk_iff.1 h).1.1
      simp only [decide_eq_true_eq] at hp ⊢
      exact Int.le_trans (loI_rate (by omega) (by omega)) hp))
  rw [← hx, ← hy]
  clear hx hy
  go_enter Tryz.func19, Tryz.ntmps19
  go_upto_region 1 with (fail)
  rw [← HW.out]
  go_wp2_with (first
        | (go_at_call 42; refine (HC.out _ kk).mono ?_; rintro e w1 ⟨rfl, hk⟩; replace kk := (by first | with_reducible exact kk.trans hk | with_reducible exact (kk.alloc _).trans hk | with_reducible exact kk.drew.trans hk | with_reducible exact (kk.drew.alloc _).trans hk | with_reducible exact (kk.alloc _).drew.trans hk | with_reducible exact ((kk.alloc _).alloc _).trans hk | with_reducible exact ((kk.drew.alloc _).alloc _).trans hk | fail))
        | fail)
  exact bodyPost_ret (v := .tuple #[.int .i64 x, .bool y]) (by simp [results, Tryz.results19, go_sem]) rfl ⟨rfl, K0.out.trans (by first | with_reducible exact kk | with_reducible exact kk.alloc _ | with_reducible exact kk.drew | with_reducible exact kk.drew.alloc _ | with_reducible exact (kk.alloc _).alloc _ | fail)⟩

theorem doubles_any (n c : Int) (w : World) :
    Calls Tryz.prog 20 #[.int .i64 n, .int .i64 c] w fun e w' => e = .returned (.tuple #[.int .i64 (douI n c), .bool (douB n c)]) ∧ Kept w w' := by
  have hmf : ∀ (fn : Fn) (first cap : Array Value) (w : World), (Instr.makeFunc fn first cap).run Tryz.prog w = .ok (.func fn first cap) w := fun _ _ _ _ => rfl
  obtain ⟨W0, hW0⟩ : ∃ W0, W0 = (w.alloc (.cells #[.int .i64 n] 3)).alloc (.cells #[.int .i64 c] 3) := ⟨_, rfl⟩
  have k0 : Kept w W0 := by rw [hW0]; exact (((Kept.refl _).alloc _).alloc _)
  have c00 : W0.cell? ⟨w.heap.size, 0, none⟩ = some (.int .i64 n) := by rw [hW0]; exact cellOld _ (cellNew (by simp) rfl)
  have c10 : W0.cell? ⟨w.heap.size + 1, 0, none⟩ = some (.int .i64 c) := by rw [hW0]; exact cellNew (by simp) rfl
  have BR : RowKit.Hid (∀ W, Kept W0 W → W.cell? ⟨w.heap.size, 0, none⟩ = some (.int .i64 n) ∧ W.cell? ⟨w.heap.size + 1, 0, none⟩ = some (.int .i64 c)) := Lib.hid (fun W hW => ⟨(hW.cells _ _ (cell_lt c00)).trans c00, (hW.cells _ _ (cell_lt c10)).trans c10⟩)
  have Z0 : W0.heap.size = w.heap.size + 1 + 1 := by rw [hW0]; simp
  have ZZ := Lib.hid Z0
  have HW := Lib.hid hW0
  have K0 := Lib.hid k0
  clear hW0 k0 Z0
  have kk := Kept.refl W0
  have b0 := cell_lt c00
  have b1 := cell_lt c10
  obtain ⟨x, hx⟩ : ∃ x, x = douI n c := ⟨_, rfl⟩
  obtain ⟨y, hy⟩ : ∃ y, y = douB n c := ⟨_, rfl⟩
  have HC : RowKit.Hid (∀ W, Kept W0 W → Calls Tryz.prog 42 #[.int .i64 n, .int .i64 c, .func (.func 44) #[] #[.pointer (some ⟨w.heap.size, 0, none⟩), .pointer (some ⟨w.heap.size + 1, 0, none⟩)]] W fun e w' => e = .returned (.tuple #[.int .i64 x, .bool y]) ∧ Kept W w') := Lib.hid (fun W hW => by
    obtain ⟨c00, c10⟩ := BR.out W hW
    rw [hx, hy]
    exact leastRate_any 44 _ (fun i => decide (c ≤ hiI i n)) n c W e90 (fun h => hold90 _ _ n c (by have := askOk_iff.1 h; omega) (by have := askOk_iff.1 h; omega) W c00 c10) (fun h a b hab hb hp => by
      have hn := (askOk_iff.1 h).1.1
      simp only [decide_eq_true_eq] at hp ⊢
      exact Int.le_trans hp (hiI_rate (by omega) (by omega))))
  rw [← hx, ← hy]
  clear hx hy
  go_enter Tryz.func20, Tryz.ntmps20
  go_upto_region 1 with (fail)
  rw [← HW.out]
  go_wp2_with (first
        | (go_at_call 42; refine (HC.out _ kk).mono ?_; rintro e w1 ⟨rfl, hk⟩; replace kk := (by first | with_reducible exact kk.trans hk | with_reducible exact (kk.alloc _).trans hk | with_reducible exact kk.drew.trans hk | with_reducible exact (kk.drew.alloc _).trans hk | with_reducible exact (kk.alloc _).drew.trans hk | with_reducible exact ((kk.alloc _).alloc _).trans hk | with_reducible exact ((kk.drew.alloc _).alloc _).trans hk | fail))
        | fail)
  exact bodyPost_ret (v := .tuple #[.int .i64 x, .bool y]) (by simp [results, Tryz.results20, go_sem]) rfl ⟨rfl, K0.out.trans (by first | with_reducible exact kk | with_reducible exact kk.alloc _ | with_reducible exact kk.drew | with_reducible exact kk.drew.alloc _ | with_reducible exact (kk.alloc _).alloc _ | fail)⟩

end Go.Proofs.YtdeokdlkjgpffaaGreatDoor
