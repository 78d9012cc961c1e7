/-
  Fill: reckon over a closure that writes one block.
  Fill: the calculation.
-/
import Derived.Test.YtcjpecdnenemaaaGreatDoorGN
import Derived.Deep.CutRange
namespace Go.Proofs.YtcjpecdnenemaaaGreatDoor
set_option linter.all false
open Go.RowKit Go.Shelf

/-- w'' differs from w' in the blocks a and b alone -/
structure Apart2 (a b : Nat) (w' w'' : World) : Prop where
  os : w''.os = w'.os
  tape : w''.tape = w'.tape
  output : w''.output = w'.output
  size : w''.heap.size = w'.heap.size
  block : ∀ k, k ≠ a → k ≠ b → w''.heap[k]? = w'.heap[k]?
theorem Apart2.refl (a b : Nat) (w : World) : Apart2 a b w w := ⟨rfl, rfl, rfl, rfl, fun _ _ _ => rfl⟩
theorem Apart2.set {a b : Nat} {w w' : World} (h : Apart2 a b w w') (c j : Nat) (v : Value) (hc : c = a ∨ c = b) : Apart2 a b w (w'.setCell ⟨c, j, none⟩ v) :=
  ⟨h.os, h.tape, h.output, by rw [← h.size]; simp, fun k h1 h2 => by
    rw [← h.block k h1 h2]
    exact Below.heap_setCell w' ⟨c, j, none⟩ v k (by rcases hc with rfl | rfl <;> assumption)⟩
/-- reckon, whatever its closure does to memory -/
def RecRes (w : World) (x y : Int) (Post : World → World → Prop) (e : Ending) (w'' : World) : Prop :=
  e = .returned (.tuple #[.agg #[.int .i64 x, .int .i64 y], .int .i64 0]) ∧ ∃ w1 w', Kept w w1 ∧ w1.heap.size = w.heap.size + 1 + 1 ∧ Post w1 w' ∧ Apart2 w.heap.size (w.heap.size + 1) w' w''
set_option maxRecDepth 100000 in
theorem reckon_any (g : Nat) (cap : Array Value) (x y : Int) (Post : World → World → Prop) (w : World) (eg : ∀ args w, (callFunc g args).run Tryz.prog w = .ok (.enter g args) w)
    (hp : ∀ w1 w', Post w1 w' → ∀ k, w.heap.size ≤ k → k < w1.heap.size → w'.heap[k]? = w1.heap[k]?)
    (h : ∀ w1, Kept w w1 → w1.heap.size = w.heap.size + 1 + 1 → Calls Tryz.prog g cap w1 fun e w' => e = .returned (.agg #[.int .i64 x, .int .i64 y]) ∧ Post w1 w') :
    Calls Tryz.prog 83 #[.func (.func g) #[] cap] w (RecRes w x y Post) := by
  have hmf : ∀ (fn : Fn) (first cap : Array Value) (w : World), (Instr.makeFunc fn first cap).run Tryz.prog w = .ok (.func fn first cap) w := fun _ _ _ _ => rfl
  obtain ⟨W1, hW1⟩ : ∃ W1 : World, W1 = (w.alloc (.cells #[.int .i64 0, .int .i64 0] 23)).alloc (.cells #[.int .i64 0] 24) := ⟨_, rfl⟩
  have K1 : Kept w W1 := by rw [hW1]; exact ((Kept.refl w).alloc _).alloc _
  have Z1 : W1.heap.size = w.heap.size + 1 + 1 := by rw [hW1]; simp
  have r0 : RowC W1 w.heap.size [.int .i64 0, .int .i64 0] := by rw [hW1]; exact (RowC.new w [.int .i64 0, .int .i64 0] 23).kept ((Kept.refl _).alloc _)
  have r1 : RowC W1 (w.heap.size + 1) [.int .i64 0] := by
    have := RowC.new (w.alloc (.cells #[.int .i64 0, .int .i64 0] 23)) [.int .i64 0] 24
    rw [World.size_alloc] at this
    rw [hW1]; exact this
  have H := Lib.hid (h W1 K1 Z1)
  have HP := Lib.hid (hp W1)
  have HW1 := Lib.hid hW1
  have HZ1 := Lib.hid Z1
  have R0 := Lib.hid r0
  have R1 := Lib.hid r1
  clear h hp hW1 Z1 r0 r1
  go_enter_defers Tryz.func83, Tryz.ntmps83
  go_wp2_with fail
  rw [← HW1.out]
  refine H.out.mono ?_
  rintro e w1 ⟨rfl, hpost⟩
  have hb := HP.out w1 hpost
  have hz := HZ1.out
  have c0 : RowC w1 w.heap.size [.int .i64 0, .int .i64 0] := fun j v hv => by
    have hk := hb w.heap.size (Nat.le_refl _) (by omega)
    exact ⟨(World.cell?_of_block hk).trans (R0.out j v hv).1, (World.frozen?_of_block hk).trans (R0.out j v hv).2⟩
  have c1 : RowC w1 (w.heap.size + 1) [.int .i64 0] := fun j v hv => by
    have hk := hb (w.heap.size + 1) (by omega) (by omega)
    exact ⟨(World.cell?_of_block hk).trans (R1.out j v hv).1, (World.frozen?_of_block hk).trans (R1.out j v hv).2⟩
  have e0 := (c0 0 _ rfl).1
  have e1 := (c0 1 _ rfl).1
  have e2 := (c1 0 _ rfl).1
  have z0 := (c0 0 _ rfl).2
  have z1 := (c0 1 _ rfl).2
  have z2 := (c1 0 _ rfl).2
  clear c0 c1 hb hz
  have HPo := Lib.hid hpost
  clear hpost
  go_wp2
  refine leaves_cons (f := 143) (args := #[.pointer (some ⟨w.heap.size, 0, none⟩), .pointer (some ⟨w.heap.size + 1, 0, none⟩)]) (by simp) (by simp [go_sem]) ?_
  refine (catch_idle ⟨w.heap.size, 0, none⟩ ⟨w.heap.size + 1, 0, none⟩ _).mono ?_
  rintro e u' w'' ⟨rfl, rfl, rfl⟩
  simp [Leaves, settle, results, Tryz.results83, go_sem, e0, e1, e2]
  refine ⟨rfl, W1, w1, K1, HZ1.out, HPo.out, ?_⟩
  exact (((Apart2.refl _ _ w1).set _ _ _ (.inl rfl)).set _ _ _ (.inl rfl)).set _ _ _ (.inr rfl)
end Go.Proofs.YtcjpecdnenemaaaGreatDoor

namespace Go.Proofs.YtcjpecdnenemaaaGreatDoor
set_option linter.all false
open Go.RowKit Go.Shelf

def stepF (acc : Option ((Int × Int) × List Hd)) (e : (Int × Int) × Hd) : Option ((Int × Int) × List Hd) :=
  match acc with
  | some a => match mulF e.1.1 e.1.2 (min e.2.num (fitS a.1.1 a.1.2 e.1.1 e.1.2)) 1 with
    | some m => match lowF (a.1.1 * m.2 + -m.1 * a.1.2) (a.1.2 * m.2) with
      | some l => some (l, a.2 ++ [⟨e.2.sort, min e.2.num (fitS a.1.1 a.1.2 e.1.1 e.1.2)⟩])
      | none => none
    | none => none
  | none => none
/-- how many beasts of each head fit, one head behind the other, if all is in range -/
def fillS (st : Int × Int) (es : List ((Int × Int) × Hd)) : Option ((Int × Int) × List Hd) := es.foldl stepF (some (st, []))
theorem stepF_none (es : List ((Int × Int) × Hd)) : es.foldl stepF none = none := by
  induction es with
  | nil => rfl
  | cons e es ih => rw [List.foldl_cons]; exact ih
theorem fillS_snoc (st : Int × Int) (es : List ((Int × Int) × Hd)) (e : (Int × Int) × Hd) : fillS st (es ++ [e]) = stepF (fillS st es) e := by simp [fillS]
theorem fillS_take {st : Int × Int} {es : List ((Int × Int) × Hd)} {r : (Int × Int) × List Hd} (h : fillS st es = some r) (k : Nat) : ∃ a, fillS st (es.take k) = some a := by
  rcases hu : fillS st (es.take k) with _ | a
  · have : fillS st es = (es.drop k).foldl stepF (fillS st (es.take k)) := by unfold fillS; rw [← List.foldl_append, List.take_append_drop]
    rw [hu, stepF_none] at this
    rw [this] at h; cases h
  · exact ⟨a, rfl⟩
theorem stepF_some {a r : (Int × Int) × List Hd} {e : (Int × Int) × Hd} (h : stepF (some a) e = some r) :
    ∃ m, mulF e.1.1 e.1.2 (min e.2.num (fitS a.1.1 a.1.2 e.1.1 e.1.2)) 1 = some m ∧ lowF (a.1.1 * m.2 + -m.1 * a.1.2) (a.1.2 * m.2) = some r.1 ∧ r.2 = a.2 ++ [⟨e.2.sort, min e.2.num (fitS a.1.1 a.1.2 e.1.1 e.1.2)⟩] := by
  unfold stepF at h
  dsimp only at h
  split at h
  · rename_i m hm
    split at h
    · rename_i l hl
      simp at h
      subst h
      exact ⟨m, hm, hl, rfl⟩
    · cases h
  · cases h
theorem fillS_vld : ∀ (es : List ((Int × Int) × Hd)) (a r : (Int × Int) × List Hd), vld a.1.1 a.1.2 = true → es.foldl stepF (some a) = some r → vld r.1.1 r.1.2 = true
  | [], a, r, hv, h => by simp at h; subst h; exact hv
  | e :: es, a, r, hv, h => by
    rw [List.foldl_cons] at h
    rcases hs : stepF (some a) e with _ | b
    · rw [hs, stepF_none] at h; cases h
    · rw [hs] at h
      obtain ⟨m, _, hl, _⟩ := stepF_some hs
      exact fillS_vld es b r (lowF_vld hl) h
theorem fillS_len : ∀ (es : List ((Int × Int) × Hd)) (a r : (Int × Int) × List Hd), es.foldl stepF (some a) = some r → r.2.length = a.2.length + es.length
  | [], a, r, h => by simp at h; subst h; simp
  | e :: es, a, r, h => by
    rw [List.foldl_cons] at h
    rcases hs : stepF (some a) e with _ | b
    · rw [hs, stepF_none] at h; cases h
    · rw [hs] at h
      obtain ⟨m, _, _, h2⟩ := stepF_some hs
      have := fillS_len es b r h
      rw [this, h2]; simp; omega
theorem fitS_bd (sn sd en ed : Int) (h0 : 0 ≤ ed) (h1 : 0 ≤ sd * en) : 0 ≤ fitS sn sd en ed ∧ fitS sn sd en ed ≤ 100000 := by
  unfold fitS ratS
  by_cases h : sn < 0
  · rw [if_pos h]; omega
  · rw [if_neg h]
    have := Int.ediv_nonneg (Int.mul_nonneg (show 0 ≤ sn by omega) h0) h1
    omega
def hdFlat (hs : List Hd) : List Value := hs.flatMap hdCells
theorem hdFlat_snoc (hs : List Hd) (h : Hd) : hdFlat (hs ++ [h]) = hdFlat hs ++ hdCells h := by simp [hdFlat]
theorem hdFlat_len (hs : List Hd) : (hdFlat hs).length = hs.length * 2 := by
  induction hs with
  | nil => rfl
  | cons x l ih =>
    have : (hdFlat (x :: l)).length = 2 + (hdFlat l).length := by unfold hdFlat; rw [List.flatMap_cons, List.length_append]; rfl
    rw [this, ih, List.length_cons]; omega
theorem info84 : (Tryz.prog.info? 84).map (fun i => (i.zero, i.size, i.bytes)) = some (some (.agg #[.string ByteArray.empty, .int .i64 0]), 2, 24) := by kernel_rfl
theorem one2h (h : Hd) : ∀ u ∈ hdCells h, u.oneCell' = true := by
  intro u hu
  simp [hdCells] at hu
  rcases hu with rfl | rfl <;> rfl
theorem RowC.grown {W W' : World} {row : Option Nat} {b : Nat} {vs : List Value} (h : RowC W b vs) (hg : W.grownBy W' row) (hne : some b ≠ row) : RowC W' b vs := fun j v hv => by
  have hb := hg.block b (cell_lt (h j v hv).1) hne
  exact ⟨(World.cell?_of_block hb).trans (h j v hv).1, (World.frozen?_of_block hb).trans (h j v hv).2⟩
theorem S5_of {W W' : World} {t2 g k t7 t5 : Nat} {A : Option Addr} {n c : Nat} {en ed a b num : Int} (h1 : W.cell? ⟨t2, 0, none⟩ = some (.slice A n c)) (h2 : W.cell? ⟨g, k * 2, none⟩ = some (.int .i64 en)) (h3 : W.cell? ⟨g, k * 2 + 1, none⟩ = some (.int .i64 ed)) (h4 : W.cell? ⟨t7, 1, none⟩ = some (.int .i64 num)) (h5 : RowC W t5 [.int .i64 a, .int .i64 b])
    (h : Kept W W') : W'.cell? ⟨t2, 0, none⟩ = some (.slice A n c) ∧ W'.cell? ⟨g, k * 2, none⟩ = some (.int .i64 en) ∧ W'.cell? ⟨g, k * 2 + 1, none⟩ = some (.int .i64 ed) ∧ W'.cell? ⟨t7, 1, none⟩ = some (.int .i64 num) ∧ W'.cell? ⟨t5, 0, none⟩ = some (.int .i64 a) ∧ W'.cell? ⟨t5, 1, none⟩ = some (.int .i64 b) ∧ Kept W W' :=
  ⟨(h.cells _ _ (cell_lt h1)).trans h1, (h.cells _ _ (cell_lt h2)).trans h2, (h.cells _ _ (cell_lt h3)).trans h3, (h.cells _ _ (cell_lt h4)).trans h4, (h5.kept h 0 _ rfl).1, (h5.kept h 1 _ rfl).1, h⟩
theorem own_blocks {w w' : World} {b : Nat} {e : TypeId} {s : Nat} {v : Value} {n : Nat} {ys : List Value} (h : w.ownsRow b e s v n ys) (hk : ∀ k, b ≤ k → w'.heap[k]? = w.heap[k]?) : w'.ownsRow b e s v n ys := by
  obtain ⟨h1, h2⟩ := h
  refine ⟨h1, ?_⟩
  rcases h2 with h | ⟨g, c, cur, k1, k2, k3, k4⟩
  · exact .inl h
  · exact .inr ⟨g, c, cur, k1, k2, (hk g k2).trans k3, k4⟩
theorem S7_of {W W' : World} {t2 g k t5 : Nat} {A : Option Addr} {n c : Nat} {en ed a b : Int} (h1 : RowC W t2 [.slice A n c]) (h2 : W.cell? ⟨g, k * 2, none⟩ = some (.int .i64 en)) (h3 : W.cell? ⟨g, k * 2 + 1, none⟩ = some (.int .i64 ed)) (h5 : RowC W t5 [.int .i64 a, .int .i64 b])
    (h : Kept W W') : W'.cell? ⟨t2, 0, none⟩ = some (.slice A n c) ∧ W'.cell? ⟨g, k * 2, none⟩ = some (.int .i64 en) ∧ W'.cell? ⟨g, k * 2 + 1, none⟩ = some (.int .i64 ed) ∧ W'.cell? ⟨t5, 0, none⟩ = some (.int .i64 a) ∧ W'.cell? ⟨t5, 1, none⟩ = some (.int .i64 b) ∧ W'.frozen? ⟨t5, 0, none⟩ = false ∧ W'.frozen? ⟨t5, 1, none⟩ = false :=
  ⟨(h1.kept h 0 _ rfl).1, (h.cells _ _ (cell_lt h2)).trans h2, (h.cells _ _ (cell_lt h3)).trans h3, (h5.kept h 0 _ rfl).1, (h5.kept h 1 _ rfl).1, (h5.kept h 0 _ rfl).2, (h5.kept h 1 _ rfl).2⟩
theorem But.set_new {p : Nat} {a b : World} (h : But p a b) (c j : Nat) (v : Value) (hc : a.heap.size ≤ c) : But p a (b.setCell ⟨c, j, none⟩ v) := by
  obtain ⟨h1, h2, h3, h4, h5⟩ := h
  exact ⟨h1, h2, h3, by simpa using h4, fun i hi hne => (Below.heap_setCell b ⟨c, j, none⟩ v i (fun e => by have e' : i = c := e; omega)).trans (h5 i hi hne)⟩
theorem own_set {w : World} {b : Nat} {e : TypeId} {s : Nat} {v : Value} {n : Nat} {ys : List Value} (h : w.ownsRow b e s v n ys) (c j : Nat) (u : Value) (hc : c < b) : (w.setCell ⟨c, j, none⟩ u).ownsRow b e s v n ys :=
  own_blocks h (fun k hk => Below.heap_setCell w ⟨c, j, none⟩ u k (fun e => by have e' : k = c := e; omega))
theorem cell_grown {W W' : World} {row : Option Nat} {b o : Nat} {v : Value} (h : W.cell? ⟨b, o, none⟩ = some v) (hg : W.grownBy W' row) (hne : some b ≠ row) : W'.cell? ⟨b, o, none⟩ = some v :=
  (World.cell?_of_block (hg.block b (cell_lt h) hne)).trans h
end Go.Proofs.YtcjpecdnenemaaaGreatDoor
