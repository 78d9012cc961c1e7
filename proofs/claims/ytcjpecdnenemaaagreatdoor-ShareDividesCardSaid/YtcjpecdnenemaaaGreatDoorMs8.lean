/- slices' stable, over a row of 20 to 40 ints -/
import Derived.Test.YtcjpecdnenemaaaGreatDoorMs7
namespace Go.Proofs.YtcjpecdnenemaaaGreatDoor
set_option linter.all false
open Go.RowKit Go.Shelf

set_option maxRecDepth 100000 in
theorem insertion_none (g n c bc a : Nat) (ha : a ≤ 1000) (w : World) : Calls Tryz.prog 200 #[.slice (some ⟨g, 0, none⟩) n c, .int .i64 (a : Int), .int .i64 (a : Int), (.func (.func 139) #[] #[.pointer (some ⟨bc, 0, none⟩)])] w fun e w' => e = .returned (.tuple #[]) ∧ w' = w := by
  have d1 : decide ((a : Int) + 1 < (a : Int)) = false := decide_eq_false (by omega)
  go_enter Tryz.func200, Tryz.ntmps200
  go_wp2_with fail
  refine wp_loop_rounds 1 ?_
  rw [rounds_succ]
  go_wp2
  go_end0
  exact ⟨rfl, rfl⟩
/-- what is asked of a list that is to be sorted -/
def OH (nn : Nat) (cf : Nat → Nat → Int) (lt : Nat → Nat → Prop) (X : List Nat) : Prop := (∀ x ∈ X, x < nn) ∧ (∀ (i j u v : Nat), X[i]? = some v → X[j]? = some u → i < j → ((cf u v < 0 ↔ lt u v) ∧ (¬ lt u v → lt v u)))
theorem OH.take {nn : Nat} {cf : Nat → Nat → Int} {lt : Nat → Nat → Prop} {X : List Nat} (h : OH nn cf lt X) (k : Nat) : OH nn cf lt (X.take k) :=
  ⟨fun x hx => h.1 x (List.mem_of_mem_take hx), fun i j u v hi hj hij => h.2 i j u v (by rw [List.getElem?_take] at hi; split at hi; exact hi; cases hi) (by rw [List.getElem?_take] at hj; split at hj; exact hj; cases hj) hij⟩
theorem OH.drop {nn : Nat} {cf : Nat → Nat → Int} {lt : Nat → Nat → Prop} {X : List Nat} (h : OH nn cf lt X) (k : Nat) : OH nn cf lt (X.drop k) :=
  ⟨fun x hx => h.1 x (List.mem_of_mem_drop hx), fun i j u v hi hj hij => h.2 (k + i) (k + j) u v (by rw [List.getElem?_drop] at hi; exact hi) (by rw [List.getElem?_drop] at hj; exact hj) (by omega)⟩
theorem OH.mh {nn : Nat} {cf : Nat → Nat → Int} {lt : Nat → Nat → Prop} {X Z1 Z2 : List Nat} (h : OH nn cf lt X) (k : Nat) (p1 : Z1.Pairwise lt) (q1 : Z1.Perm (X.take k)) (p2 : Z2.Pairwise lt) (q2 : Z2.Perm (X.drop k)) : MH nn cf lt Z1 Z2 := by
  have key : ∀ x ∈ Z1, ∀ y ∈ Z2, (cf y x < 0 ↔ lt y x) ∧ (¬ lt y x → lt x y) := fun x hx y hy => by
    obtain ⟨i, hi, rfl⟩ := List.mem_iff_getElem.1 (q1.mem_iff.1 hx)
    obtain ⟨j, hj, rfl⟩ := List.mem_iff_getElem.1 (q2.mem_iff.1 hy)
    rw [List.length_take] at hi
    rw [List.length_drop] at hj
    rw [List.getElem_take, List.getElem_drop]
    exact h.2 i (k + j) _ _ (List.getElem?_eq_getElem _) (List.getElem?_eq_getElem _) (by omega)
  exact ⟨p1, p2, fun x hx => h.1 x (List.mem_of_mem_take (q1.mem_iff.1 hx)), fun y hy => h.1 y (List.mem_of_mem_drop (q2.mem_iff.1 hy)), fun x hx y hy => (key x hx y hy).1, fun x hx y hy => (key x hx y hy).2⟩
set_option maxRecDepth 100000 in
set_option maxHeartbeats 6400000 in
theorem stable_mid (g n c bc nn : Nat) (cf : Nat → Nat → Int) (lt : Nat → Nat → Prop) (tr : ∀ x y z, lt x y → lt y z → lt x z) (X : List Nat) (hX : X.length = n) (h1 : 20 < n) (h2 : n < 40) (hnc : n ≤ c) (hc : c ≤ 1000) (H : OH nn cf lt X)
    (w : World) (hC : CmpG g bc nn cf w) (hr : RowC w g (natV X)) :
    Calls Tryz.prog 174 #[.slice (some ⟨g, 0, none⟩) n c, .int .i64 (n : Int), (.func (.func 139) #[] #[.pointer (some ⟨bc, 0, none⟩)])] w fun e w' => e = .returned (.tuple #[]) ∧ ∃ Z, Z.Pairwise lt ∧ Z.Perm X ∧ Stp g w Z w' := by
  have HR := Lib.hid hr
  have HC := Lib.hid hC
  have HH := Lib.hid H
  have HXL := Lib.hid hX
  clear hr hC H hX
  have d1 : ¬ ((40 : Int) ≤ (n : Int)) := by omega
  have d2 : (20 : Int) ≤ (n : Int) := by omega
  have d3 : (20 : Int) < (n : Int) := by omega
  have d4 : ¬ ((40 : Int) < (n : Int)) := by omega
  have I1 : RowKit.Hid (Calls Tryz.prog 200 #[.slice (some ⟨g, 0, none⟩) n c, .int .i64 0, .int .i64 20, (.func (.func 139) #[] #[.pointer (some ⟨bc, 0, none⟩)])] w fun e w' => e = .returned (.tuple #[]) ∧ ∃ Z, Z.Pairwise lt ∧ Z.Perm (X.take 20) ∧ Stp g w (Z ++ X.drop 20) w') := Lib.hid (by
    have hxl := HXL.out
    have h := insertion_any g n c bc nn cf lt tr [] (X.take 20) (X.drop 20) 0 20 rfl (by simp; omega) (by simp; omega) (by simp; omega) hnc hc (HH.out.take 20).1 (HH.out.take 20).2 w HC.out (by have h := HR.out; simpa using h)
    simpa using h)
  go_enter Tryz.func174, Tryz.ntmps174
  go_wp2_with fail
  refine wp_loop_rounds 2 ?_
  rw [rounds_succ]
  go_wp2_with fail
  with_reducible refine I1.out.mono ?_
  rintro e w1 ⟨rfl, Z1, hp1, hq1, hs1⟩
  have HP1 := Lib.hid hp1
  have HQ1 := Lib.hid hq1
  have HS1 := Lib.hid hs1
  clear hp1 hq1 hs1
  have I2 : RowKit.Hid (Calls Tryz.prog 200 #[.slice (some ⟨g, 0, none⟩) n c, .int .i64 20, .int .i64 (n : Int), (.func (.func 139) #[] #[.pointer (some ⟨bc, 0, none⟩)])] w1 fun e w' => e = .returned (.tuple #[]) ∧ ∃ Z, Z.Pairwise lt ∧ Z.Perm (X.drop 20) ∧ Stp g w1 (Z1 ++ Z) w') := Lib.hid (by
    have hxl := HXL.out
    have hl := HQ1.out.length_eq
    have h := insertion_any g n c bc nn cf lt tr Z1 (X.drop 20) [] 20 n (by rw [hl]; simp; omega) (by simp; omega) (by simp) (by simp; omega) hnc hc (HH.out.drop 20).1 (HH.out.drop 20).2 w1 (HC.out.but HS1.out.1) (by have h := HS1.out.2; simpa using h)
    simpa using h)
  go_wp2_with fail
  rw [rounds_succ]
  go_wp2_with fail
  with_reducible refine I2.out.mono ?_
  rintro e w2 ⟨rfl, Z2, hp2, hq2, hs2⟩
  have HP2 := Lib.hid hp2
  have HQ2 := Lib.hid hq2
  have HS2 := Lib.hid (HS1.out.trans hs2)
  clear hp2 hq2 hs2
  have CM : RowKit.Hid (Calls Tryz.prog 201 #[.slice (some ⟨g, 0, none⟩) n c, .int .i64 0, .int .i64 20, .int .i64 (n : Int), (.func (.func 139) #[] #[.pointer (some ⟨bc, 0, none⟩)])] w2 (MRes g lt [] Z1 Z2 [] w2)) := Lib.hid (by
    have hxl := HXL.out
    have l1 := HQ1.out.length_eq
    have l2 := HQ2.out.length_eq
    rw [List.length_take] at l1
    rw [List.length_drop] at l2
    have h := symMerge_any g n c bc nn cf lt tr hnc hc w HC.out (Z1.length + Z2.length + 1) [] Z1 Z2 [] 0 20 n (HH.out.mh 20 HP1.out HQ1.out HP2.out HQ2.out) (by omega) (by omega) (by omega) rfl (by omega) (by omega) (by simp) w2 HS2.out.1 (by have h := HS2.out.2; simpa using h)
    exact h)
  go_wp2_with fail
  refine wp_loop_rounds 2 ?_
  rw [rounds_succ]
  go_wp2_with fail
  refine wp_loop_rounds 1 ?_
  rw [rounds_succ]
  go_wp2_with fail
  with_reducible refine CM.out.mono ?_
  rintro e w3 ⟨rfl, Z, hp3, hq3, hs3⟩
  have HP3 := Lib.hid hp3
  have HQ3 := Lib.hid hq3
  have HS3 := Lib.hid (HS2.out.trans hs3)
  clear hp3 hq3 hs3
  go_wp2_with fail
  rw [rounds_succ]
  go_wp2
  go_end0
  refine ⟨by first | rfl | trivial, Z, HP3.out, ?_, by have h := HS3.out; simpa using h⟩
  have h := HQ3.out.trans (HQ1.out.append HQ2.out)
  rwa [List.take_append_drop] at h
set_option maxRecDepth 100000 in
set_option maxHeartbeats 6400000 in
theorem stable_few2 (g n c bc nn : Nat) (cf : Nat → Nat → Int) (lt : Nat → Nat → Prop) (tr : ∀ x y z, lt x y → lt y z → lt x z) (X : List Nat) (hX : X.length = n) (h1 : 0 < n) (h2 : n < 20) (hnc : n ≤ c) (hc : c ≤ 1000) (H : OH nn cf lt X)
    (w : World) (hC : CmpG g bc nn cf w) (hr : RowC w g (natV X)) :
    Calls Tryz.prog 174 #[.slice (some ⟨g, 0, none⟩) n c, .int .i64 (n : Int), (.func (.func 139) #[] #[.pointer (some ⟨bc, 0, none⟩)])] w fun e w' => e = .returned (.tuple #[]) ∧ ∃ Z, Z.Pairwise lt ∧ Z.Perm X ∧ Stp g w Z w' := by
  have HR := Lib.hid hr
  have HC := Lib.hid hC
  have HH := Lib.hid H
  have HXL := Lib.hid hX
  clear hr hC H hX
  have d2 : ¬ ((20 : Int) ≤ (n : Int)) := by omega
  have d3 : ¬ ((20 : Int) < (n : Int)) := by omega
  have I1 : RowKit.Hid (Calls Tryz.prog 200 #[.slice (some ⟨g, 0, none⟩) n c, .int .i64 0, .int .i64 (n : Int), (.func (.func 139) #[] #[.pointer (some ⟨bc, 0, none⟩)])] w fun e w' => e = .returned (.tuple #[]) ∧ ∃ Z, Z.Pairwise lt ∧ Z.Perm X ∧ Stp g w Z w') := Lib.hid (by
    have hxl := HXL.out
    have h := insertion_any g n c bc nn cf lt tr [] X [] 0 n rfl (by omega) (by simp) (by omega) hnc hc HH.out.1 HH.out.2 w HC.out (by have h := HR.out; simpa using h)
    simpa using h)
  go_enter Tryz.func174, Tryz.ntmps174
  go_wp2_with fail
  refine wp_loop_rounds 1 ?_
  rw [rounds_succ]
  go_wp2_with fail
  with_reducible refine I1.out.mono ?_
  rintro e w1 ⟨rfl, Z, hp1, hq1, hs1⟩
  have HS1 := Lib.hid hs1
  clear hs1
  go_wp2_with fail
  refine wp_loop_rounds 1 ?_
  rw [rounds_succ]
  go_wp2
  go_end0
  exact ⟨by first | rfl | trivial, Z, hp1, hq1, HS1.out⟩
set_option maxRecDepth 100000 in
set_option maxHeartbeats 6400000 in
theorem stable_20 (g n c bc nn : Nat) (cf : Nat → Nat → Int) (lt : Nat → Nat → Prop) (tr : ∀ x y z, lt x y → lt y z → lt x z) (X : List Nat) (hX : X.length = n) (h1 : n = 20) (hnc : n ≤ c) (hc : c ≤ 1000) (H : OH nn cf lt X)
    (w : World) (hC : CmpG g bc nn cf w) (hr : RowC w g (natV X)) :
    Calls Tryz.prog 174 #[.slice (some ⟨g, 0, none⟩) n c, .int .i64 (n : Int), (.func (.func 139) #[] #[.pointer (some ⟨bc, 0, none⟩)])] w fun e w' => e = .returned (.tuple #[]) ∧ ∃ Z, Z.Pairwise lt ∧ Z.Perm X ∧ Stp g w Z w' := by
  have HR := Lib.hid hr
  have HC := Lib.hid hC
  have HH := Lib.hid H
  have HXL := Lib.hid hX
  clear hr hC H hX
  subst h1
  have hX20 : X.take 20 = X := List.take_of_length_le (by have := HXL.out; omega)
  have hD20 : X.drop 20 = [] := List.drop_eq_nil_of_le (by have := HXL.out; omega)
  have HX20 := Lib.hid hX20
  have HD20 := Lib.hid hD20
  clear hX20 hD20
  have I1 : RowKit.Hid (Calls Tryz.prog 200 #[.slice (some ⟨g, 0, none⟩) 20 c, .int .i64 0, .int .i64 20, (.func (.func 139) #[] #[.pointer (some ⟨bc, 0, none⟩)])] w fun e w' => e = .returned (.tuple #[]) ∧ ∃ Z, Z.Pairwise lt ∧ Z.Perm (X.take 20) ∧ Stp g w (Z ++ X.drop 20) w') := Lib.hid (by
    have hxl := HXL.out
    have h := insertion_any g 20 c bc nn cf lt tr [] (X.take 20) (X.drop 20) 0 20 rfl (by simp; omega) (by simp; omega) (by simp; omega) hnc hc (HH.out.take 20).1 (HH.out.take 20).2 w HC.out (by have h := HR.out; simpa using h)
    simpa using h)
  go_enter Tryz.func174, Tryz.ntmps174
  go_wp2_with fail
  refine wp_loop_rounds 2 ?_
  rw [rounds_succ]
  go_wp2_with fail
  with_reducible refine I1.out.mono ?_
  rintro e w1 ⟨rfl, Z1, hp1, hq1, hs1⟩
  have HP1 := Lib.hid hp1
  have HQ1 := Lib.hid hq1
  have HS1 := Lib.hid hs1
  clear hp1 hq1 hs1
  go_wp2_with fail
  rw [rounds_succ]
  go_wp2_with fail
  refine (insertion_none g 20 c bc 20 (by omega) w1).mono ?_
  rintro e w2 ⟨rfl, rfl⟩
  go_wp2_with fail
  refine wp_loop_rounds 1 ?_
  rw [rounds_succ]
  go_wp2
  go_end0
  refine ⟨by first | rfl | trivial, Z1, HP1.out, by have h := HQ1.out; rwa [HX20.out] at h, by have h := HS1.out; rw [HD20.out] at h; simpa using h⟩
set_option maxRecDepth 100000 in
set_option maxHeartbeats 6400000 in
theorem stable_40 (g n c bc nn : Nat) (cf : Nat → Nat → Int) (lt : Nat → Nat → Prop) (tr : ∀ x y z, lt x y → lt y z → lt x z) (X : List Nat) (hX : X.length = n) (h1 : n = 40) (hnc : n ≤ c) (hc : c ≤ 1000) (H : OH nn cf lt X)
    (w : World) (hC : CmpG g bc nn cf w) (hr : RowC w g (natV X)) :
    Calls Tryz.prog 174 #[.slice (some ⟨g, 0, none⟩) n c, .int .i64 (n : Int), (.func (.func 139) #[] #[.pointer (some ⟨bc, 0, none⟩)])] w fun e w' => e = .returned (.tuple #[]) ∧ ∃ Z, Z.Pairwise lt ∧ Z.Perm X ∧ Stp g w Z w' := by
  have HR := Lib.hid hr
  have HC := Lib.hid hC
  have HH := Lib.hid H
  have HXL := Lib.hid hX
  clear hr hC H hX
  subst h1
  have I1 : RowKit.Hid (Calls Tryz.prog 200 #[.slice (some ⟨g, 0, none⟩) 40 c, .int .i64 0, .int .i64 20, (.func (.func 139) #[] #[.pointer (some ⟨bc, 0, none⟩)])] w fun e w' => e = .returned (.tuple #[]) ∧ ∃ Z, Z.Pairwise lt ∧ Z.Perm (X.take 20) ∧ Stp g w (Z ++ X.drop 20) w') := Lib.hid (by
    have hxl := HXL.out
    have h := insertion_any g 40 c bc nn cf lt tr [] (X.take 20) (X.drop 20) 0 20 rfl (by simp; omega) (by simp; omega) (by simp; omega) hnc hc (HH.out.take 20).1 (HH.out.take 20).2 w HC.out (by have h := HR.out; simpa using h)
    simpa using h)
  go_enter Tryz.func174, Tryz.ntmps174
  go_wp2_with fail
  refine wp_loop_rounds 3 ?_
  rw [rounds_succ]
  go_wp2_with fail
  with_reducible refine I1.out.mono ?_
  rintro e w1 ⟨rfl, Z1, hp1, hq1, hs1⟩
  have HP1 := Lib.hid hp1
  have HQ1 := Lib.hid hq1
  have HS1 := Lib.hid hs1
  clear hp1 hq1 hs1
  have I2 : RowKit.Hid (Calls Tryz.prog 200 #[.slice (some ⟨g, 0, none⟩) 40 c, .int .i64 20, .int .i64 40, (.func (.func 139) #[] #[.pointer (some ⟨bc, 0, none⟩)])] w1 fun e w' => e = .returned (.tuple #[]) ∧ ∃ Z, Z.Pairwise lt ∧ Z.Perm (X.drop 20) ∧ Stp g w1 (Z1 ++ Z) w') := Lib.hid (by
    have hxl := HXL.out
    have hl := HQ1.out.length_eq
    have h := insertion_any g 40 c bc nn cf lt tr Z1 (X.drop 20) [] 20 40 (by rw [hl]; simp; omega) (by simp; omega) (by simp) (by simp; omega) hnc hc (HH.out.drop 20).1 (HH.out.drop 20).2 w1 (HC.out.but HS1.out.1) (by have h := HS1.out.2; simpa using h)
    simpa using h)
  go_wp2_with fail
  rw [rounds_succ]
  go_wp2_with fail
  with_reducible refine I2.out.mono ?_
  rintro e w2 ⟨rfl, Z2, hp2, hq2, hs2⟩
  have HP2 := Lib.hid hp2
  have HQ2 := Lib.hid hq2
  have HS2 := Lib.hid (HS1.out.trans hs2)
  clear hp2 hq2 hs2
  have CM : RowKit.Hid (Calls Tryz.prog 201 #[.slice (some ⟨g, 0, none⟩) 40 c, .int .i64 0, .int .i64 20, .int .i64 40, (.func (.func 139) #[] #[.pointer (some ⟨bc, 0, none⟩)])] w2 (MRes g lt [] Z1 Z2 [] w2)) := Lib.hid (by
    have hxl := HXL.out
    have l1 := HQ1.out.length_eq
    have l2 := HQ2.out.length_eq
    rw [List.length_take] at l1
    rw [List.length_drop] at l2
    have h := symMerge_any g 40 c bc nn cf lt tr hnc hc w HC.out (Z1.length + Z2.length + 1) [] Z1 Z2 [] 0 20 40 (HH.out.mh 20 HP1.out HQ1.out HP2.out HQ2.out) (by omega) (by omega) (by omega) rfl (by omega) (by omega) (by simp) w2 HS2.out.1 (by have h := HS2.out.2; simpa using h)
    exact h)
  go_wp2_with fail
  rw [rounds_succ]
  go_wp2_with fail
  refine (insertion_none g 40 c bc 40 (by omega) w2).mono ?_
  rintro e w2' ⟨rfl, rfl⟩
  go_wp2_with fail
  refine wp_loop_rounds 2 ?_
  rw [rounds_succ]
  go_wp2_with fail
  refine wp_loop_rounds 2 ?_
  rw [rounds_succ]
  go_wp2_with fail
  with_reducible refine CM.out.mono ?_
  rintro e w3 ⟨rfl, Z, hp3, hq3, hs3⟩
  have HP3 := Lib.hid hp3
  have HQ3 := Lib.hid hq3
  have HS3 := Lib.hid (HS2.out.trans hs3)
  clear hp3 hq3 hs3
  go_wp2_with fail
  rw [rounds_succ]
  go_wp2_with fail
  rw [rounds_succ]
  go_wp2
  go_end0
  refine ⟨by first | rfl | trivial, Z, HP3.out, ?_, by have h := HS3.out; simpa using h⟩
  have h := HQ3.out.trans (HQ1.out.append HQ2.out)
  rwa [List.take_append_drop] at h
end Go.Proofs.YtcjpecdnenemaaaGreatDoor
