/-
  Boxes that hold fractions; the laws' own sum and product.
-/
import Derived.Test.YtcjpecdnenemaaaGreatDoorGS
import Derived.Test.YtcjpecdnenemaaaGreatDoorFrM
namespace Go.Proofs.YtcjpecdnenemaaaGreatDoor
set_option linter.all false
open Go.RowKit Go.Shelf

/-- fractions in boxes: the i-th of the list in its block -/
def Fx (L : List (Nat × Int × Int)) (W : World) : Prop := ∀ (i b : Nat) (x y : Int), L[i]? = some (b, x, y) → RowC W b [.int .i64 x, .int .i64 y]
theorem Fx.nil (W : World) : Fx [] W := fun i b x y h => by simp at h
theorem Fx.kept {L : List (Nat × Int × Int)} {W W' : World} (h : Fx L W) (hk : Kept W W') : Fx L W' := fun i b x y hi => (h i b x y hi).kept hk
theorem Fx.new {L : List (Nat × Int × Int)} {W : World} (h : Fx L W) (x y : Int) : Fx (L ++ [(W.heap.size, x, y)]) (W.alloc (.cells #[.int .i64 x, .int .i64 y] 23)) := fun i b x' y' hi => by
  by_cases hl : i < L.length
  · rw [List.getElem?_append_left hl] at hi
    exact (h i b x' y' hi).kept ((Kept.refl _).alloc _)
  · rw [List.getElem?_append_right (by omega)] at hi
    have h0 : i - L.length = 0 := by
      rcases hj : i - L.length with _ | j
      · rfl
      · rw [hj] at hi; simp at hi
    rw [h0] at hi
    simp only [List.getElem?_cons_zero, Option.some.injEq, Prod.mk.injEq] at hi
    obtain ⟨rfl, rfl, rfl⟩ := hi
    exact RowC.new W [.int .i64 x, .int .i64 y] 23
theorem Fx.at0 {L : List (Nat × Int × Int)} {W : World} (h : Fx L W) (i : Nat) {b : Nat} {x y : Int} (hi : L[i]? = some (b, x, y)) : W.cell? ⟨b, 0, none⟩ = some (.int .i64 x) := (h i b x y hi 0 _ rfl).1
theorem Fx.at1 {L : List (Nat × Int × Int)} {W : World} (h : Fx L W) (i : Nat) {b : Nat} {x y : Int} (hi : L[i]? = some (b, x, y)) : W.cell? ⟨b, 1, none⟩ = some (.int .i64 y) := (h i b x y hi 1 _ rfl).1
theorem Fx.three (w : World) (an ad bn bd cn cd : Int) : Fx [(w.heap.size, an, ad), (w.heap.size + 1, bn, bd), (w.heap.size + 1 + 1, cn, cd)] (((w.alloc (.cells #[.int .i64 an, .int .i64 ad] 23)).alloc (.cells #[.int .i64 bn, .int .i64 bd] 23)).alloc (.cells #[.int .i64 cn, .int .i64 cd] 23)) := by
  have h := (((Fx.nil w).new an ad).new bn bd).new cn cd
  simpa using h

set_option maxRecDepth 100000 in
theorem lsum_any (an ad bn bd : Int) (w : World) :
    Calls Tryz.prog 75 #[.agg #[.int .i64 an, .int .i64 ad], .agg #[.int .i64 bn, .int .i64 bd]] w fun e w' => e = .returned (.tuple #[.agg #[.int .i64 (addS an ad bn bd).1, .int .i64 (addS an ad bn bd).2.1], .bool ((addS an ad bn bd).2.2 == 0)]) ∧ Kept w w' := by
  have H0 := fun W => add_any an ad bn bd W
  obtain ⟨x, hx⟩ : ∃ x, (addS an ad bn bd).1 = x := ⟨_, rfl⟩
  obtain ⟨y, hy⟩ : ∃ x, (addS an ad bn bd).2.1 = x := ⟨_, rfl⟩
  obtain ⟨z, hz⟩ : ∃ x, (addS an ad bn bd).2.2 = x := ⟨_, rfl⟩
  simp only [hx, hy, hz] at H0 ⊢
  have H := Lib.hid H0
  clear hx hy hz H0
  have R0 : RowC (((w.alloc (.cells #[.int .i64 an, .int .i64 ad] 23)).alloc (.cells #[.int .i64 bn, .int .i64 bd] 23)).alloc (.cells #[.int .i64 0, .int .i64 0] 23)) (w.heap.size + 1 + 1) [.int .i64 0, .int .i64 0] := RowC.at1 (vs := [.int .i64 0, .int .i64 0]) (by simp)
  have HR0 := Lib.hid R0
  have K0 := Lib.hid ((((Kept.refl w).alloc (.cells #[.int .i64 an, .int .i64 ad] 23)).alloc (.cells #[.int .i64 bn, .int .i64 bd] 23)).alloc (.cells #[.int .i64 0, .int .i64 0] 23))
  clear R0
  go_enter Tryz.func75, Tryz.ntmps75
  go_wp2_with fail
  refine (H.out _).mono ?_
  rintro e w1 ⟨rfl, hk⟩
  have R2 := HR0.out.kept hk
  have K2 := Lib.hid (K0.out.trans hk)
  have HR2 := Lib.hid R2
  have r0 := (R2 0 _ rfl).1
  have r1 := (R2 1 _ rfl).1
  have z0 := (R2 0 _ rfl).2
  have z1 := (R2 1 _ rfl).2
  have hlt := cell_lt (HR0.out.kept hk 0 _ rfl).1
  clear R2 hk
  go_wp2_with fail
  all_goals
    refine bodyPost_ret (v := .tuple #[.agg #[.int .i64 x, .int .i64 y], .bool (z == 0)]) (by simp [results, Tryz.results75, go_sem, r0, r1, hlt]) rfl ⟨rfl, ?_⟩
    first
      | exact ((K2.out.setCell (by first | (simp; done) | (simp; omega)) _).setCell (by first | (simp; done) | (simp; omega)) _).alloc _
      | exact (((K2.out.setCell (by first | (simp; done) | (simp; omega)) _).setCell (by first | (simp; done) | (simp; omega)) _).alloc _).drew
      | fail

set_option maxRecDepth 100000 in
theorem lprod_any (an ad bn bd : Int) (w : World) :
    Calls Tryz.prog 76 #[.agg #[.int .i64 an, .int .i64 ad], .agg #[.int .i64 bn, .int .i64 bd]] w fun e w' => e = .returned (.tuple #[.agg #[.int .i64 (mulS an ad bn bd).1, .int .i64 (mulS an ad bn bd).2.1], .bool ((mulS an ad bn bd).2.2 == 0)]) ∧ Kept w w' := by
  have H0 := fun W => mul_any an ad bn bd W
  obtain ⟨x, hx⟩ : ∃ x, (mulS an ad bn bd).1 = x := ⟨_, rfl⟩
  obtain ⟨y, hy⟩ : ∃ x, (mulS an ad bn bd).2.1 = x := ⟨_, rfl⟩
  obtain ⟨z, hz⟩ : ∃ x, (mulS an ad bn bd).2.2 = x := ⟨_, rfl⟩
  simp only [hx, hy, hz] at H0 ⊢
  have H := Lib.hid H0
  clear hx hy hz H0
  have R0 : RowC (((w.alloc (.cells #[.int .i64 an, .int .i64 ad] 23)).alloc (.cells #[.int .i64 bn, .int .i64 bd] 23)).alloc (.cells #[.int .i64 0, .int .i64 0] 23)) (w.heap.size + 1 + 1) [.int .i64 0, .int .i64 0] := RowC.at1 (vs := [.int .i64 0, .int .i64 0]) (by simp)
  have HR0 := Lib.hid R0
  have K0 := Lib.hid ((((Kept.refl w).alloc (.cells #[.int .i64 an, .int .i64 ad] 23)).alloc (.cells #[.int .i64 bn, .int .i64 bd] 23)).alloc (.cells #[.int .i64 0, .int .i64 0] 23))
  clear R0
  go_enter Tryz.func76, Tryz.ntmps76
  go_wp2_with fail
  refine (H.out _).mono ?_
  rintro e w1 ⟨rfl, hk⟩
  have R2 := HR0.out.kept hk
  have K2 := Lib.hid (K0.out.trans hk)
  have HR2 := Lib.hid R2
  have r0 := (R2 0 _ rfl).1
  have r1 := (R2 1 _ rfl).1
  have z0 := (R2 0 _ rfl).2
  have z1 := (R2 1 _ rfl).2
  have hlt := cell_lt (HR0.out.kept hk 0 _ rfl).1
  clear R2 hk
  go_wp2_with fail
  all_goals
    refine bodyPost_ret (v := .tuple #[.agg #[.int .i64 x, .int .i64 y], .bool (z == 0)]) (by simp [results, Tryz.results76, go_sem, r0, r1, hlt]) rfl ⟨rfl, ?_⟩
    first
      | exact ((K2.out.setCell (by first | (simp; done) | (simp; omega)) _).setCell (by first | (simp; done) | (simp; omega)) _).alloc _
      | exact (((K2.out.setCell (by first | (simp; done) | (simp; omega)) _).setCell (by first | (simp; done) | (simp; omega)) _).alloc _).drew
      | fail

end Go.Proofs.YtcjpecdnenemaaaGreatDoor
