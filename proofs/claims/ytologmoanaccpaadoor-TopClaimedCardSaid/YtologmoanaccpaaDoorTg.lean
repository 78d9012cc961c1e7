/-
  allowed: the true numbers that fit counts from one to another
-/
import Derived.Test.YtologmoanaccpaaDoorTf
namespace Go.Proofs.YtologmoanaccpaaDoor.Tly
set_option linter.all false
open Go.RowKit

theorem hiI_mono {d a b : Int} (hd : 0 ≤ d) (h : a ≤ b) : hiI d a ≤ hiI d b := by
  have h1 : a * d ≤ b * d := Int.mul_le_mul_of_nonneg_right h hd
  have h2 : a * d / 1000 ≤ b * d / 1000 := Int.ediv_le_ediv (by omega) h1
  unfold hiI; omega
theorem loI_mono {m a b : Int} (hm : 0 ≤ m) (hm1 : m ≤ 1000) (h : a ≤ b) : loI m a ≤ loI m b := by
  have h1 : (b - a) * m ≤ (b - a) * 1000 := Int.mul_le_mul_of_nonneg_left hm1 (by omega)
  have h2 : b * m = a * m + (b - a) * m := by rw [← Int.add_mul]; congr 1; omega
  have h3 : b * m / 1000 ≤ (a * m + (b - a) * 1000) / 1000 := Int.ediv_le_ediv (by omega) (by omega)
  have h4 : (a * m + (b - a) * 1000) / 1000 = a * m / 1000 + (b - a) := Int.add_mul_ediv_right _ _ (by omega)
  unfold loI; omega
theorem hiI_ge {d n : Int} (hd : 0 ≤ d) (hn : 0 ≤ n) : n ≤ hiI d n := by
  have h1 : 0 ≤ n * d := Int.mul_nonneg hn hd
  unfold hiI; omega
theorem loI_le {m n : Int} (hm : 0 ≤ m) (hn : 0 ≤ n) : loI m n ≤ n := by
  have h1 : 0 ≤ n * m := Int.mul_nonneg hn hm
  unfold loI; omega

/-- the least number whose greatest count is at least lw (100001: none); how far below 100000 the greatest one lies whose least count is at most hg (100001: none) -/
def leastOf (d lw : Int) : Nat := firstN (fun i => decide (lw ≤ hiI d i)) 100001
def belowOf (m hg : Int) : Nat := firstN (fun i => decide (loI m (100000 - i) ≤ hg)) 100001
def mostOf (m hg : Int) : Int := 100000 - (belowOf m hg : Int)
def spL (a b : Int) : Int := if a ≤ b then a else 0
def spH (a b : Int) : Int := if a ≤ b then b else 0
def spS (a b : Int) : Bool := decide (a ≤ b)
theorem leastOf_le (d lw : Int) : leastOf d lw ≤ 100001 := firstN_le _ _
theorem belowOf_le (m hg : Int) : belowOf m hg ≤ 100001 := firstN_le _ _
theorem allow_le {m d lw hg : Int} (hm : 0 ≤ m) (hd : 0 ≤ d) (hl : lw ≤ hg) (h1 : leastOf d lw ≠ 100001) (h2 : belowOf m hg ≠ 100001) : (leastOf d lw : Int) ≤ mostOf m hg := by
  have a1 := leastOf_le d lw
  have a2 := belowOf_le m hg
  unfold mostOf
  rcases Int.lt_or_le (100000 - (belowOf m hg : Int)) (leastOf d lw) with h | h
  · exfalso
    have h3 := firstN_lt (p := fun i : Nat => decide (loI m (100000 - i) ≤ hg)) (n := 100001) (j := belowOf m hg - 1) (by show belowOf m hg - 1 < belowOf m hg; omega)
    have h4 := firstN_lt (p := fun i : Nat => decide (lw ≤ hiI d i)) (n := 100001) (j := 100000 - belowOf m hg) (by show 100000 - belowOf m hg < leastOf d lw; omega)
    simp only [decide_eq_false_iff_not] at h3 h4
    have h5 := loI_le (m := m) (n := 100000 - ((belowOf m hg - 1 : Nat) : Int)) hm (by omega)
    have h6 := hiI_ge (d := d) (n := ((100000 - belowOf m hg : Nat) : Int)) hd (by omega)
    omega
  · exact h

theorem hold101 (br bl : Nat) (m d lw : Int) (hd : 0 ≤ d) (hd1 : d ≤ 500) (w : World) (c0 : w.cell? ⟨br, 0, none⟩ = some (.int .i64 m)) (c1 : w.cell? ⟨br, 1, none⟩ = some (.int .i64 d)) (c2 : w.cell? ⟨bl, 0, none⟩ = some (.int .i64 lw)) :
    HoldT 74 100001 #[.pointer (some ⟨br, 0, none⟩), .pointer (some ⟨bl, 0, none⟩)] (fun i => (i : Int)) (fun i => decide (lw ≤ hiI d i)) w := by
  intro W i hW hi
  show Calls Tryd.prog 74 #[.int .i64 i, .pointer (some ⟨br, 0, none⟩), .pointer (some ⟨bl, 0, none⟩)] W _
  have d0 := (hW.cells _ _ (cell_lt c0)).trans c0
  have d1 := (hW.cells _ _ (cell_lt c1)).trans c1
  have d2 := (hW.cells _ _ (cell_lt c2)).trans c2
  have D2 := Lib.hid d2
  clear c0 c1 c2
  have b2 := cell_lt d2
  go_enter Tryd.func74, Tryd.ntmps74
  go_wp2_with fail
  go_region_with (first
    | (go_at_call 75; refine (greatest_any m d _ (by omega) (by omega) hd hd1 _).mono ?_; rintro e w1 ⟨rfl, hk⟩; have kk := (Kept.refl _).drew.trans hk; have f2 := (kk.cells _ _ b2).trans D2.out)
    | fail)
  all_goals go_wp2
  all_goals go_ret
  all_goals exact ⟨rfl, kk⟩
theorem hold104 (br bl : Nat) (m d hg : Int) (hm : 0 ≤ m) (hm1 : m ≤ 500) (w : World) (c0 : w.cell? ⟨br, 0, none⟩ = some (.int .i64 m)) (c1 : w.cell? ⟨br, 1, none⟩ = some (.int .i64 d)) (c2 : w.cell? ⟨bl, 0, none⟩ = some (.int .i64 hg)) :
    HoldT 78 100001 #[.pointer (some ⟨br, 0, none⟩), .pointer (some ⟨bl, 0, none⟩)] (fun i => 100000 - (i : Int)) (fun i => decide (loI m (100000 - i) ≤ hg)) w := by
  intro W i hW hi
  show Calls Tryd.prog 78 #[.int .i64 (100000 - (i : Int)), .pointer (some ⟨br, 0, none⟩), .pointer (some ⟨bl, 0, none⟩)] W _
  have d0 := (hW.cells _ _ (cell_lt c0)).trans c0
  have d1 := (hW.cells _ _ (cell_lt c1)).trans c1
  have d2 := (hW.cells _ _ (cell_lt c2)).trans c2
  have D2 := Lib.hid d2
  clear c0 c1 c2
  have b2 := cell_lt d2
  obtain ⟨x, hx⟩ : ∃ x, x = 100000 - (i : Int) := ⟨_, rfl⟩
  rw [← hx]
  go_enter Tryd.func78, Tryd.ntmps78
  go_wp2_with fail
  go_region_with (first
    | (go_at_call 79; refine (least_any m d _ (by omega) (by omega) hm hm1 _).mono ?_; rintro e w1 ⟨rfl, hk⟩; have kk := (Kept.refl _).drew.trans hk; have f2 := (kk.cells _ _ b2).trans D2.out)
    | fail)
  all_goals go_wp2
  all_goals go_ret
  all_goals exact ⟨rfl, kk⟩

set_option maxHeartbeats 1000000 in
theorem allowed_any (m d lw hg : Int) (hm : 0 ≤ m) (hm1 : m ≤ 500) (hd : 0 ≤ d) (hd1 : d ≤ 500) (hl : lw ≤ hg) (w : World) :
    Calls Tryd.prog 58 #[.agg #[.int .i64 m, .int .i64 d], .int .i64 lw, .int .i64 hg] w fun e w' => e = .returned (.agg #[.int .i64 (spL (leastOf d lw) (mostOf m hg)), .int .i64 (spH (leastOf d lw) (mostOf m hg)), .bool (spS (leastOf d lw) (mostOf m hg))]) ∧ Kept w w' := by
  have hmf : ∀ (fn : Fn) (first cap : Array Value) (w : World), (Instr.makeFunc fn first cap).run Tryd.prog w = .ok (.func fn first cap) w := fun _ _ _ _ => rfl
  obtain ⟨a, ha⟩ : ∃ a, a = leastOf d lw := ⟨_, rfl⟩
  obtain ⟨b, hb⟩ : ∃ b, b = belowOf m hg := ⟨_, rfl⟩
  obtain ⟨z, hz⟩ : ∃ z, z = mostOf m hg := ⟨_, rfl⟩
  have hzb : z = 100000 - (b : Int) := by rw [hz, hb]; rfl
  have ha1 : a ≤ 100001 := by rw [ha]; exact leastOf_le _ _
  have hb1 : b ≤ 100001 := by rw [hb]; exact belowOf_le _ _
  obtain ⟨W0, hW0⟩ : ∃ W0, W0 = (((w.alloc (.cells #[.int .i64 m, .int .i64 d] 29)).alloc (.cells #[.int .i64 lw] 3)).alloc (.cells #[.int .i64 hg] 3)).alloc (.cells #[.int .i64 0, .int .i64 0, .bool false] 82) := ⟨_, rfl⟩
  have k0 : Kept w W0 := by rw [hW0]; exact (((((Kept.refl _).alloc _).alloc _).alloc _).alloc _)
  have c00 : W0.cell? ⟨w.heap.size, 0, none⟩ = some (.int .i64 m) := by rw [hW0]; exact cellOld _ (cellOld _ (cellOld _ (cellNew (by simp) rfl)))
  have c01 : W0.cell? ⟨w.heap.size, 1, none⟩ = some (.int .i64 d) := by rw [hW0]; exact cellOld _ (cellOld _ (cellOld _ (cellNew (by simp) rfl)))
  have c10 : W0.cell? ⟨w.heap.size + 1, 0, none⟩ = some (.int .i64 lw) := by rw [hW0]; exact cellOld _ (cellOld _ (cellNew (by simp) rfl))
  have c20 : W0.cell? ⟨w.heap.size + 1 + 1, 0, none⟩ = some (.int .i64 hg) := by rw [hW0]; exact cellOld _ (cellNew (by simp) rfl)
  have c30 : W0.cell? ⟨w.heap.size + 1 + 1 + 1, 0, none⟩ = some (.int .i64 0) := by rw [hW0]; exact cellNew (by simp) rfl
  have f30 : W0.frozen? ⟨w.heap.size + 1 + 1 + 1, 0, none⟩ = false := by rw [hW0]; simp [go_sem]
  have c31 : W0.cell? ⟨w.heap.size + 1 + 1 + 1, 1, none⟩ = some (.int .i64 0) := by rw [hW0]; exact cellNew (by simp) rfl
  have f31 : W0.frozen? ⟨w.heap.size + 1 + 1 + 1, 1, none⟩ = false := by rw [hW0]; simp [go_sem]
  have c32 : W0.cell? ⟨w.heap.size + 1 + 1 + 1, 2, none⟩ = some (.bool false) := by rw [hW0]; exact cellNew (by simp) rfl
  have f32 : W0.frozen? ⟨w.heap.size + 1 + 1 + 1, 2, none⟩ = false := by rw [hW0]; simp [go_sem]
  have BR : RowKit.Hid (∀ W, Kept W0 W → W.cell? ⟨w.heap.size, 0, none⟩ = some (.int .i64 m) ∧ W.cell? ⟨w.heap.size, 1, none⟩ = some (.int .i64 d) ∧ W.cell? ⟨w.heap.size + 1, 0, none⟩ = some (.int .i64 lw) ∧ W.cell? ⟨w.heap.size + 1 + 1, 0, none⟩ = some (.int .i64 hg) ∧ W.cell? ⟨w.heap.size + 1 + 1 + 1, 0, none⟩ = some (.int .i64 0) ∧ W.frozen? ⟨w.heap.size + 1 + 1 + 1, 0, none⟩ = false ∧ W.cell? ⟨w.heap.size + 1 + 1 + 1, 1, none⟩ = some (.int .i64 0) ∧ W.frozen? ⟨w.heap.size + 1 + 1 + 1, 1, none⟩ = false ∧ W.cell? ⟨w.heap.size + 1 + 1 + 1, 2, none⟩ = some (.bool false) ∧ W.frozen? ⟨w.heap.size + 1 + 1 + 1, 2, none⟩ = false) := Lib.hid (fun W hW => ⟨(hW.cells _ _ (cell_lt c00)).trans c00, (hW.cells _ _ (cell_lt c01)).trans c01, (hW.cells _ _ (cell_lt c10)).trans c10, (hW.cells _ _ (cell_lt c20)).trans c20, (hW.cells _ _ (cell_lt c30)).trans c30, (hW.frozens _ _ (cell_lt c30)).trans f30, (hW.cells _ _ (cell_lt c31)).trans c31, (hW.frozens _ _ (cell_lt c31)).trans f31, (hW.cells _ _ (cell_lt c32)).trans c32, (hW.frozens _ _ (cell_lt c32)).trans f32⟩)
  have Z0 : W0.heap.size = w.heap.size + 1 + 1 + 1 + 1 := by rw [hW0]; simp
  have ZZ := Lib.hid Z0
  have HW := Lib.hid hW0
  have K0 := Lib.hid k0
  clear hW0 k0 Z0
  have kk := Kept.refl W0
  have b0 := cell_lt c00
  have b1 := cell_lt c10
  have b2 := cell_lt c20
  have b3 := cell_lt c30
  by_cases h1 : a = 100001
  · by_cases h2 : b = 100001
    · skip
      have P1 : (if firstN (fun i : Nat => decide (lw ≤ hiI d i)) 100001 = 100001 then Value.tuple #[.int .i64 0, .bool false] else .tuple #[.int .i64 (firstN (fun i : Nat => decide (lw ≤ hiI d i)) 100001 : Nat), .bool true]) = .tuple #[.int .i64 0, .bool false] := if_pos (ha.symm.trans h1)
      have P2 : (if firstN (fun i : Nat => decide (loI m (100000 - i) ≤ hg)) 100001 = 100001 then Value.tuple #[.int .i64 0, .bool false] else .tuple #[.int .i64 (100000 - (firstN (fun i : Nat => decide (loI m (100000 - i) ≤ hg)) 100001 : Nat)), .bool true]) = .tuple #[.int .i64 0, .bool false] := if_pos (hb.symm.trans h2)
      have H1 : RowKit.Hid (∀ W, Kept W0 W → Calls Tryd.prog 76 #[.agg #[.int .i64 100001, .func (.func 73) #[] #[], .func (.func 74) #[] #[.pointer (some ⟨w.heap.size, 0, none⟩), .pointer (some ⟨w.heap.size + 1, 0, none⟩)]]] W fun e w' => e = .returned (.tuple #[.int .i64 0, .bool false]) ∧ Kept W w') := Lib.hid (fun W hW => by
        obtain ⟨c00, c01, c10, c20, c30, f30, c31, f31, c32, f32⟩ := BR.out W hW
        exact ((first_any 74 73 100001 _ _ _ W e101 e100 (by omega) (up_any _) (hold101 _ _ m d lw hd hd1 W c00 c01 c10) (fun a b hab hb hp => by simp only [decide_eq_true_eq] at hp ⊢; exact Int.le_trans hp (hiI_mono hd (by omega)))).mono fun _ _ ⟨he, hk⟩ => ⟨he.trans (by rw [firstV, P1]), hk⟩))
      have H2 : RowKit.Hid (∀ W, Kept W0 W → Calls Tryd.prog 76 #[.agg #[.int .i64 100001, .func (.func 77) #[] #[], .func (.func 78) #[] #[.pointer (some ⟨w.heap.size, 0, none⟩), .pointer (some ⟨w.heap.size + 1 + 1, 0, none⟩)]]] W fun e w' => e = .returned (.tuple #[.int .i64 0, .bool false]) ∧ Kept W w') := Lib.hid (fun W hW => by
        obtain ⟨c00, c01, c10, c20, c30, f30, c31, f31, c32, f32⟩ := BR.out W hW
        exact ((first_any 78 77 100001 _ _ _ W e104 e103 (by omega) (down_any _ (by omega)) (hold104 _ _ m d hg hm hm1 W c00 c01 c20) (fun a b hab hb hp => by simp only [decide_eq_true_eq] at hp ⊢; exact Int.le_trans (loI_mono hm (by omega) (by omega)) hp)).mono fun _ _ ⟨he, hk⟩ => ⟨he.trans (by rw [firstV, P2]), hk⟩))
      have hle : ¬ (a : Int) ≤ z := by omega
      have HS : RowKit.Hid (((.agg #[.int .i64 (spL (leastOf d lw) (mostOf m hg)), .int .i64 (spH (leastOf d lw) (mostOf m hg)), .bool (spS (leastOf d lw) (mostOf m hg))]) : Value) = .agg #[.int .i64 0, .int .i64 0, .bool false]) := Lib.hid (by rw [← ha, ← hz, spL, spH, spS, if_neg hle, if_neg hle, decide_eq_false hle])
      clear P1 P2 hle ha hb hz hzb ha1 hb1 h1 h2
      go_enter Tryd.func58, Tryd.ntmps58
      go_upto_region 1 with (fail)
      rw [← HW.out]
      go_wp2_with (first
        | (go_at_call 76; with_reducible refine (H1.out _ kk).mono ?_; rintro e w1 ⟨rfl, hk⟩; replace kk := (by first | with_reducible exact kk.trans hk | with_reducible exact (kk.alloc _).trans hk | with_reducible exact kk.drew.trans hk | with_reducible exact (kk.drew.alloc _).trans hk | with_reducible exact (kk.alloc _).drew.trans hk | with_reducible exact ((kk.alloc _).alloc _).trans hk | with_reducible exact ((kk.drew.alloc _).alloc _).trans hk | fail); obtain ⟨c00, c01, c10, c20, c30, f30, c31, f31, c32, f32⟩ := BR.out _ kk; have b0 := cell_lt c00; have b1 := cell_lt c10; have b2 := cell_lt c20; have b3 := cell_lt c30)
        | (go_at_call 76; with_reducible refine (H2.out _ kk).mono ?_; rintro e w1 ⟨rfl, hk⟩; replace kk := (by first | with_reducible exact kk.trans hk | with_reducible exact (kk.alloc _).trans hk | with_reducible exact kk.drew.trans hk | with_reducible exact (kk.drew.alloc _).trans hk | with_reducible exact (kk.alloc _).drew.trans hk | with_reducible exact ((kk.alloc _).alloc _).trans hk | with_reducible exact ((kk.drew.alloc _).alloc _).trans hk | fail); obtain ⟨c00, c01, c10, c20, c30, f30, c31, f31, c32, f32⟩ := BR.out _ kk; have b0 := cell_lt c00; have b1 := cell_lt c10; have b2 := cell_lt c20; have b3 := cell_lt c30)
        | fail)
      refine bodyPost_ret (v := .agg #[.int .i64 0, .int .i64 0, .bool false]) (by simp [results, Tryd.results58, go_sem, c30, c31, c32]) rfl ⟨by rw [HS.out], ?_⟩
      exact (((K0.out.trans kk).setCell (by simp; try omega) _).setCell (by simp; try omega) _).setCell (by simp; try omega) _
    · skip
      have P1 : (if firstN (fun i : Nat => decide (lw ≤ hiI d i)) 100001 = 100001 then Value.tuple #[.int .i64 0, .bool false] else .tuple #[.int .i64 (firstN (fun i : Nat => decide (lw ≤ hiI d i)) 100001 : Nat), .bool true]) = .tuple #[.int .i64 0, .bool false] := if_pos (ha.symm.trans h1)
      have P2 : (if firstN (fun i : Nat => decide (loI m (100000 - i) ≤ hg)) 100001 = 100001 then Value.tuple #[.int .i64 0, .bool false] else .tuple #[.int .i64 (100000 - (firstN (fun i : Nat => decide (loI m (100000 - i) ≤ hg)) 100001 : Nat)), .bool true]) = .tuple #[.int .i64 z, .bool true] := (if_neg (fun h => h2 (hb.trans h))).trans (by rw [hz]; rfl)
      have H1 : RowKit.Hid (∀ W, Kept W0 W → Calls Tryd.prog 76 #[.agg #[.int .i64 100001, .func (.func 73) #[] #[], .func (.func 74) #[] #[.pointer (some ⟨w.heap.size, 0, none⟩), .pointer (some ⟨w.heap.size + 1, 0, none⟩)]]] W fun e w' => e = .returned (.tuple #[.int .i64 0, .bool false]) ∧ Kept W w') := Lib.hid (fun W hW => by
        obtain ⟨c00, c01, c10, c20, c30, f30, c31, f31, c32, f32⟩ := BR.out W hW
        exact ((first_any 74 73 100001 _ _ _ W e101 e100 (by omega) (up_any _) (hold101 _ _ m d lw hd hd1 W c00 c01 c10) (fun a b hab hb hp => by simp only [decide_eq_true_eq] at hp ⊢; exact Int.le_trans hp (hiI_mono hd (by omega)))).mono fun _ _ ⟨he, hk⟩ => ⟨he.trans (by rw [firstV, P1]), hk⟩))
      have H2 : RowKit.Hid (∀ W, Kept W0 W → Calls Tryd.prog 76 #[.agg #[.int .i64 100001, .func (.func 77) #[] #[], .func (.func 78) #[] #[.pointer (some ⟨w.heap.size, 0, none⟩), .pointer (some ⟨w.heap.size + 1 + 1, 0, none⟩)]]] W fun e w' => e = .returned (.tuple #[.int .i64 z, .bool true]) ∧ Kept W w') := Lib.hid (fun W hW => by
        obtain ⟨c00, c01, c10, c20, c30, f30, c31, f31, c32, f32⟩ := BR.out W hW
        exact ((first_any 78 77 100001 _ _ _ W e104 e103 (by omega) (down_any _ (by omega)) (hold104 _ _ m d hg hm hm1 W c00 c01 c20) (fun a b hab hb hp => by simp only [decide_eq_true_eq] at hp ⊢; exact Int.le_trans (loI_mono hm (by omega) (by omega)) hp)).mono fun _ _ ⟨he, hk⟩ => ⟨he.trans (by rw [firstV, P2]), hk⟩))
      have hle : ¬ (a : Int) ≤ z := by omega
      have HS : RowKit.Hid (((.agg #[.int .i64 (spL (leastOf d lw) (mostOf m hg)), .int .i64 (spH (leastOf d lw) (mostOf m hg)), .bool (spS (leastOf d lw) (mostOf m hg))]) : Value) = .agg #[.int .i64 0, .int .i64 0, .bool false]) := Lib.hid (by rw [← ha, ← hz, spL, spH, spS, if_neg hle, if_neg hle, decide_eq_false hle])
      clear P1 P2 hle ha hb hz hzb ha1 hb1 h1 h2
      go_enter Tryd.func58, Tryd.ntmps58
      go_upto_region 1 with (fail)
      rw [← HW.out]
      go_wp2_with (first
        | (go_at_call 76; with_reducible refine (H1.out _ kk).mono ?_; rintro e w1 ⟨rfl, hk⟩; replace kk := (by first | with_reducible exact kk.trans hk | with_reducible exact (kk.alloc _).trans hk | with_reducible exact kk.drew.trans hk | with_reducible exact (kk.drew.alloc _).trans hk | with_reducible exact (kk.alloc _).drew.trans hk | with_reducible exact ((kk.alloc _).alloc _).trans hk | with_reducible exact ((kk.drew.alloc _).alloc _).trans hk | fail); obtain ⟨c00, c01, c10, c20, c30, f30, c31, f31, c32, f32⟩ := BR.out _ kk; have b0 := cell_lt c00; have b1 := cell_lt c10; have b2 := cell_lt c20; have b3 := cell_lt c30)
        | (go_at_call 76; with_reducible refine (H2.out _ kk).mono ?_; rintro e w1 ⟨rfl, hk⟩; replace kk := (by first | with_reducible exact kk.trans hk | with_reducible exact (kk.alloc _).trans hk | with_reducible exact kk.drew.trans hk | with_reducible exact (kk.drew.alloc _).trans hk | with_reducible exact (kk.alloc _).drew.trans hk | with_reducible exact ((kk.alloc _).alloc _).trans hk | with_reducible exact ((kk.drew.alloc _).alloc _).trans hk | fail); obtain ⟨c00, c01, c10, c20, c30, f30, c31, f31, c32, f32⟩ := BR.out _ kk; have b0 := cell_lt c00; have b1 := cell_lt c10; have b2 := cell_lt c20; have b3 := cell_lt c30)
        | fail)
      refine bodyPost_ret (v := .agg #[.int .i64 0, .int .i64 0, .bool false]) (by simp [results, Tryd.results58, go_sem, c30, c31, c32]) rfl ⟨by rw [HS.out], ?_⟩
      exact (((K0.out.trans kk).setCell (by simp; try omega) _).setCell (by simp; try omega) _).setCell (by simp; try omega) _
  · by_cases h2 : b = 100001
    · skip
      have P1 : (if firstN (fun i : Nat => decide (lw ≤ hiI d i)) 100001 = 100001 then Value.tuple #[.int .i64 0, .bool false] else .tuple #[.int .i64 (firstN (fun i : Nat => decide (lw ≤ hiI d i)) 100001 : Nat), .bool true]) = .tuple #[.int .i64 a, .bool true] := (if_neg (fun h => h1 (ha.trans h))).trans (by rw [ha]; rfl)
      have P2 : (if firstN (fun i : Nat => decide (loI m (100000 - i) ≤ hg)) 100001 = 100001 then Value.tuple #[.int .i64 0, .bool false] else .tuple #[.int .i64 (100000 - (firstN (fun i : Nat => decide (loI m (100000 - i) ≤ hg)) 100001 : Nat)), .bool true]) = .tuple #[.int .i64 0, .bool false] := if_pos (hb.symm.trans h2)
      have H1 : RowKit.Hid (∀ W, Kept W0 W → Calls Tryd.prog 76 #[.agg #[.int .i64 100001, .func (.func 73) #[] #[], .func (.func 74) #[] #[.pointer (some ⟨w.heap.size, 0, none⟩), .pointer (some ⟨w.heap.size + 1, 0, none⟩)]]] W fun e w' => e = .returned (.tuple #[.int .i64 a, .bool true]) ∧ Kept W w') := Lib.hid (fun W hW => by
        obtain ⟨c00, c01, c10, c20, c30, f30, c31, f31, c32, f32⟩ := BR.out W hW
        exact ((first_any 74 73 100001 _ _ _ W e101 e100 (by omega) (up_any _) (hold101 _ _ m d lw hd hd1 W c00 c01 c10) (fun a b hab hb hp => by simp only [decide_eq_true_eq] at hp ⊢; exact Int.le_trans hp (hiI_mono hd (by omega)))).mono fun _ _ ⟨he, hk⟩ => ⟨he.trans (by rw [firstV, P1]), hk⟩))
      have H2 : RowKit.Hid (∀ W, Kept W0 W → Calls Tryd.prog 76 #[.agg #[.int .i64 100001, .func (.func 77) #[] #[], .func (.func 78) #[] #[.pointer (some ⟨w.heap.size, 0, none⟩), .pointer (some ⟨w.heap.size + 1 + 1, 0, none⟩)]]] W fun e w' => e = .returned (.tuple #[.int .i64 0, .bool false]) ∧ Kept W w') := Lib.hid (fun W hW => by
        obtain ⟨c00, c01, c10, c20, c30, f30, c31, f31, c32, f32⟩ := BR.out W hW
        exact ((first_any 78 77 100001 _ _ _ W e104 e103 (by omega) (down_any _ (by omega)) (hold104 _ _ m d hg hm hm1 W c00 c01 c20) (fun a b hab hb hp => by simp only [decide_eq_true_eq] at hp ⊢; exact Int.le_trans (loI_mono hm (by omega) (by omega)) hp)).mono fun _ _ ⟨he, hk⟩ => ⟨he.trans (by rw [firstV, P2]), hk⟩))
      have hle : ¬ (a : Int) ≤ z := by omega
      have HS : RowKit.Hid (((.agg #[.int .i64 (spL (leastOf d lw) (mostOf m hg)), .int .i64 (spH (leastOf d lw) (mostOf m hg)), .bool (spS (leastOf d lw) (mostOf m hg))]) : Value) = .agg #[.int .i64 0, .int .i64 0, .bool false]) := Lib.hid (by rw [← ha, ← hz, spL, spH, spS, if_neg hle, if_neg hle, decide_eq_false hle])
      clear P1 P2 hle ha hb hz hzb ha1 hb1 h1 h2
      go_enter Tryd.func58, Tryd.ntmps58
      go_upto_region 1 with (fail)
      rw [← HW.out]
      go_wp2_with (first
        | (go_at_call 76; with_reducible refine (H1.out _ kk).mono ?_; rintro e w1 ⟨rfl, hk⟩; replace kk := (by first | with_reducible exact kk.trans hk | with_reducible exact (kk.alloc _).trans hk | with_reducible exact kk.drew.trans hk | with_reducible exact (kk.drew.alloc _).trans hk | with_reducible exact (kk.alloc _).drew.trans hk | with_reducible exact ((kk.alloc _).alloc _).trans hk | with_reducible exact ((kk.drew.alloc _).alloc _).trans hk | fail); obtain ⟨c00, c01, c10, c20, c30, f30, c31, f31, c32, f32⟩ := BR.out _ kk; have b0 := cell_lt c00; have b1 := cell_lt c10; have b2 := cell_lt c20; have b3 := cell_lt c30)
        | (go_at_call 76; with_reducible refine (H2.out _ kk).mono ?_; rintro e w1 ⟨rfl, hk⟩; replace kk := (by first | with_reducible exact kk.trans hk | with_reducible exact (kk.alloc _).trans hk | with_reducible exact kk.drew.trans hk | with_reducible exact (kk.drew.alloc _).trans hk | with_reducible exact (kk.alloc _).drew.trans hk | with_reducible exact ((kk.alloc _).alloc _).trans hk | with_reducible exact ((kk.drew.alloc _).alloc _).trans hk | fail); obtain ⟨c00, c01, c10, c20, c30, f30, c31, f31, c32, f32⟩ := BR.out _ kk; have b0 := cell_lt c00; have b1 := cell_lt c10; have b2 := cell_lt c20; have b3 := cell_lt c30)
        | fail)
      refine bodyPost_ret (v := .agg #[.int .i64 0, .int .i64 0, .bool false]) (by simp [results, Tryd.results58, go_sem, c30, c31, c32]) rfl ⟨by rw [HS.out], ?_⟩
      exact (((K0.out.trans kk).setCell (by simp; try omega) _).setCell (by simp; try omega) _).setCell (by simp; try omega) _
    · skip
      have P1 : (if firstN (fun i : Nat => decide (lw ≤ hiI d i)) 100001 = 100001 then Value.tuple #[.int .i64 0, .bool false] else .tuple #[.int .i64 (firstN (fun i : Nat => decide (lw ≤ hiI d i)) 100001 : Nat), .bool true]) = .tuple #[.int .i64 a, .bool true] := (if_neg (fun h => h1 (ha.trans h))).trans (by rw [ha]; rfl)
      have P2 : (if firstN (fun i : Nat => decide (loI m (100000 - i) ≤ hg)) 100001 = 100001 then Value.tuple #[.int .i64 0, .bool false] else .tuple #[.int .i64 (100000 - (firstN (fun i : Nat => decide (loI m (100000 - i) ≤ hg)) 100001 : Nat)), .bool true]) = .tuple #[.int .i64 z, .bool true] := (if_neg (fun h => h2 (hb.trans h))).trans (by rw [hz]; rfl)
      have H1 : RowKit.Hid (∀ W, Kept W0 W → Calls Tryd.prog 76 #[.agg #[.int .i64 100001, .func (.func 73) #[] #[], .func (.func 74) #[] #[.pointer (some ⟨w.heap.size, 0, none⟩), .pointer (some ⟨w.heap.size + 1, 0, none⟩)]]] W fun e w' => e = .returned (.tuple #[.int .i64 a, .bool true]) ∧ Kept W w') := Lib.hid (fun W hW => by
        obtain ⟨c00, c01, c10, c20, c30, f30, c31, f31, c32, f32⟩ := BR.out W hW
        exact ((first_any 74 73 100001 _ _ _ W e101 e100 (by omega) (up_any _) (hold101 _ _ m d lw hd hd1 W c00 c01 c10) (fun a b hab hb hp => by simp only [decide_eq_true_eq] at hp ⊢; exact Int.le_trans hp (hiI_mono hd (by omega)))).mono fun _ _ ⟨he, hk⟩ => ⟨he.trans (by rw [firstV, P1]), hk⟩))
      have H2 : RowKit.Hid (∀ W, Kept W0 W → Calls Tryd.prog 76 #[.agg #[.int .i64 100001, .func (.func 77) #[] #[], .func (.func 78) #[] #[.pointer (some ⟨w.heap.size, 0, none⟩), .pointer (some ⟨w.heap.size + 1 + 1, 0, none⟩)]]] W fun e w' => e = .returned (.tuple #[.int .i64 z, .bool true]) ∧ Kept W w') := Lib.hid (fun W hW => by
        obtain ⟨c00, c01, c10, c20, c30, f30, c31, f31, c32, f32⟩ := BR.out W hW
        exact ((first_any 78 77 100001 _ _ _ W e104 e103 (by omega) (down_any _ (by omega)) (hold104 _ _ m d hg hm hm1 W c00 c01 c20) (fun a b hab hb hp => by simp only [decide_eq_true_eq] at hp ⊢; exact Int.le_trans (loI_mono hm (by omega) (by omega)) hp)).mono fun _ _ ⟨he, hk⟩ => ⟨he.trans (by rw [firstV, P2]), hk⟩))
      have hle : (a : Int) ≤ z := by rw [ha, hz]; exact allow_le hm hd hl (ha ▸ h1) (hb ▸ h2)
      have HS : RowKit.Hid (((.agg #[.int .i64 (spL (leastOf d lw) (mostOf m hg)), .int .i64 (spH (leastOf d lw) (mostOf m hg)), .bool (spS (leastOf d lw) (mostOf m hg))]) : Value) = .agg #[.int .i64 a, .int .i64 z, .bool true]) := Lib.hid (by rw [← ha, ← hz, spL, spH, spS, if_pos hle, if_pos hle, decide_eq_true hle])
      clear P1 P2 hle ha hb hz hzb ha1 hb1 h1 h2
      go_enter Tryd.func58, Tryd.ntmps58
      go_upto_region 1 with (fail)
      rw [← HW.out]
      go_wp2_with (first
        | (go_at_call 76; with_reducible refine (H1.out _ kk).mono ?_; rintro e w1 ⟨rfl, hk⟩; replace kk := (by first | with_reducible exact kk.trans hk | with_reducible exact (kk.alloc _).trans hk | with_reducible exact kk.drew.trans hk | with_reducible exact (kk.drew.alloc _).trans hk | with_reducible exact (kk.alloc _).drew.trans hk | with_reducible exact ((kk.alloc _).alloc _).trans hk | with_reducible exact ((kk.drew.alloc _).alloc _).trans hk | fail); obtain ⟨c00, c01, c10, c20, c30, f30, c31, f31, c32, f32⟩ := BR.out _ kk; have b0 := cell_lt c00; have b1 := cell_lt c10; have b2 := cell_lt c20; have b3 := cell_lt c30)
        | (go_at_call 76; with_reducible refine (H2.out _ kk).mono ?_; rintro e w1 ⟨rfl, hk⟩; replace kk := (by first | with_reducible exact kk.trans hk | with_reducible exact (kk.alloc _).trans hk | with_reducible exact kk.drew.trans hk | with_reducible exact (kk.drew.alloc _).trans hk | with_reducible exact (kk.alloc _).drew.trans hk | with_reducible exact ((kk.alloc _).alloc _).trans hk | with_reducible exact ((kk.drew.alloc _).alloc _).trans hk | fail); obtain ⟨c00, c01, c10, c20, c30, f30, c31, f31, c32, f32⟩ := BR.out _ kk; have b0 := cell_lt c00; have b1 := cell_lt c10; have b2 := cell_lt c20; have b3 := cell_lt c30)
        | fail)
      refine bodyPost_ret (v := .agg #[.int .i64 a, .int .i64 z, .bool true]) (by simp [results, Tryd.results58, go_sem, c30, c31, c32]) rfl ⟨by rw [HS.out], ?_⟩
      exact (((K0.out.trans kk).setCell (by simp; try omega) _).setCell (by simp; try omega) _).setCell (by simp; try omega) _

end Go.Proofs.YtologmoanaccpaaDoor.Tly
