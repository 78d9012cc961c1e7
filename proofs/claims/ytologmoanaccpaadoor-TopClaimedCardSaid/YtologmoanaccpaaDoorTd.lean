/-
  what a rate shows; search.first
-/
import Derived.Test.YtologmoanaccpaaDoorTc
import Derived.Deep.RegionHeld3
import Derived.Deep.DeepCutAuto
import Derived.RegionTactic
import Derived.ChangeAlike
namespace Go.Proofs.YtologmoanaccpaaDoor.Tly
set_option linter.all false
open Go.RowKit

def loI (m n : Int) : Int := n - n * m / 1000
def hiI (d n : Int) : Int := n + n * d / 1000
theorem prod_bd {n m : Int} (h : 0 ≤ n) (h1 : n ≤ 100000) (k : 0 ≤ m) (k1 : m ≤ 500) : 0 ≤ n * m ∧ n * m ≤ 50000000 :=
  ⟨Int.mul_nonneg h k, Int.le_trans (Int.mul_le_mul_of_nonneg_right h1 k) (by omega)⟩

theorem least_any (m d n : Int) (h : 0 ≤ n) (h1 : n ≤ 100000) (k : 0 ≤ m) (k1 : m ≤ 500) (w : World) :
    Calls Tryd.prog 79 #[.agg #[.int .i64 m, .int .i64 d], .int .i64 n] w fun e w' => e = .returned (.int .i64 (loI m n)) ∧ Kept w w' := by
  obtain ⟨p0, p1⟩ := prod_bd h h1 k k1
  have q1 : wrap64 (n * m) = n * m := by unfold wrap64; omega
  go_enter Tryd.func79, Tryd.ntmps79
  go_wp2
  go_ret
  refine ⟨ret_int ?_, (Kept.refl _).alloc _⟩
  unfold loI
  try rw [q1]
  try rw [Int.tdiv_eq_ediv_of_nonneg p0]
  try unfold wrap64
  try omega
theorem greatest_any (m d n : Int) (h : 0 ≤ n) (h1 : n ≤ 100000) (k : 0 ≤ d) (k1 : d ≤ 500) (w : World) :
    Calls Tryd.prog 75 #[.agg #[.int .i64 m, .int .i64 d], .int .i64 n] w fun e w' => e = .returned (.int .i64 (hiI d n)) ∧ Kept w w' := by
  obtain ⟨p0, p1⟩ := prod_bd h h1 k k1
  have q1 : wrap64 (n * d) = n * d := by unfold wrap64; omega
  go_enter Tryd.func75, Tryd.ntmps75
  go_wp2
  go_ret
  refine ⟨ret_int ?_, (Kept.refl _).alloc _⟩
  unfold hiI
  try rw [q1]
  try rw [Int.tdiv_eq_ediv_of_nonneg p0]
  try unfold wrap64
  try omega
theorem up_any (n : Nat) : AtT 73 n (fun i => (i : Int)) := by
  intro w i hi
  go_enter Tryd.func73, Tryd.ntmps73
  go_wp2
  go_ret
  exact ⟨rfl, rfl⟩
theorem down_any (n : Nat) (hn : n ≤ 1000000) : AtT 77 n (fun i => 100000 - (i : Int)) := by
  intro w i hi
  go_enter Tryd.func77, Tryd.ntmps77
  go_wp2
  go_ret
  exact ⟨ret_int (by first | rfl | (unfold wrap64; omega)), rfl⟩

/-- what first answers -/
def firstV (p : Nat → Bool) (n : Nat) (a : Nat → Int) : Value := if firstN p n = n then .tuple #[.int .i64 0, .bool false] else .tuple #[.int .i64 (a (firstN p n)), .bool true]
theorem first_any (g u n : Nat) (cb : Array Value) (a : Nat → Int) (q : Nat → Bool) (w : World) (eg : ∀ args w, (callFunc g args).run Tryd.prog w = .ok (.enter g args) w) (eu : ∀ args w, (callFunc u args).run Tryd.prog w = .ok (.enter u args) w)
    (hn : n < 1000000) (hu : AtT u n a) (hg : HoldT g n cb a q w) (hmono : ∀ a b, a ≤ b → b < n → q a = true → q b = true) :
    Calls Tryd.prog 76 #[.agg #[.int .i64 n, .func (.func u) #[] #[], .func (.func g) #[] cb]] w fun e w' => e = .returned (firstV q n a) ∧ Kept w w' := by
  obtain ⟨W0, hW0⟩ : ∃ W0, W0 = w.alloc (.cells #[.int .i64 n, .func (.func u) #[] #[], .func (.func g) #[] cb] 137) := ⟨_, rfl⟩
  have k0 : Kept w W0 := by rw [hW0]; exact (Kept.refl _).alloc _
  have c0 : W0.cell? ⟨w.heap.size, 0, none⟩ = some (.int .i64 n) := by rw [hW0]; exact cellNew rfl rfl
  have c1 : W0.cell? ⟨w.heap.size, 1, none⟩ = some (.func (.func u) #[] #[]) := by rw [hW0]; exact cellNew rfl rfl
  have c2 : W0.cell? ⟨w.heap.size, 2, none⟩ = some (.func (.func g) #[] cb) := by rw [hW0]; exact cellNew rfl rfl
  have HS : RowKit.Hid (∀ W, Kept W0 W → Calls Tryd.prog 88 #[.int .i64 n, .func (.func 89) #[] #[.pointer (some ⟨w.heap.size, 0, none⟩)]] W fun e w' => e = .returned (.int .i64 (firstN q n)) ∧ Kept W w') := Lib.hid (fun W hW =>
    search_any 89 n _ q W e110 hn (fun V i hV hi => first1_any w.heap.size g u n i cb a q V eg eu ((((hW.trans hV).cells _ _ (cell_lt c1))).trans c1) ((((hW.trans hV).cells _ _ (cell_lt c2))).trans c2) hu (hg.kept (k0.trans (hW.trans hV))) hi) hmono)
  have hle := firstN_le q n
  obtain ⟨k, hk⟩ : ∃ k, k = firstN q n := ⟨_, rfl⟩
  have hV : firstV q n a = if k = n then .tuple #[.int .i64 0, .bool false] else .tuple #[.int .i64 (a k), .bool true] := by rw [hk]; rfl
  rw [← hk] at hle HS
  have HV := Lib.hid hV
  have HU := Lib.hid hu
  have HW := Lib.hid hW0
  have K0 := Lib.hid k0
  have hb := cell_lt c0
  clear hu hg hmono k0 hW0 hV hk
  by_cases hkn : k = n
  · subst hkn
    go_enter Tryd.func76, Tryd.ntmps76
    go_upto_region 1 with (fail)
    rw [← HW.out]
    go_wp2_with (go_at_call 88; refine (HS.out _ (Kept.refl _)).mono ?_; rintro e w1 ⟨rfl, hk1⟩; have d0 := (hk1.cells _ _ hb).trans c0; have d1 := (hk1.cells _ _ hb).trans c1)
    exact bodyPost_ret (v := .tuple #[.int .i64 0, .bool false]) (by simp [results, Tryd.results76, go_sem]) rfl ⟨by rw [HV.out]; simp, K0.out.trans hk1⟩
  · have hlt : k < n := by omega
    go_enter Tryd.func76, Tryd.ntmps76
    go_upto_region 1 with (fail)
    rw [← HW.out]
    go_wp2_with (first | (go_at_call 88; refine (HS.out _ (Kept.refl _)).mono ?_; rintro e w1 ⟨rfl, hk1⟩; have d0 := (hk1.cells _ _ hb).trans c0; have d1 := (hk1.cells _ _ hb).trans c1) | (go_at_fn u; refine (HU.out _ k hlt).mono ?_; rintro e w2 ⟨rfl, rfl⟩))
    exact bodyPost_ret (v := .tuple #[.int .i64 (a k), .bool true]) (by simp [results, Tryd.results76, go_sem]) rfl ⟨by rw [HV.out, if_neg hkn], K0.out.trans hk1⟩
end Go.Proofs.YtologmoanaccpaaDoor.Tly
