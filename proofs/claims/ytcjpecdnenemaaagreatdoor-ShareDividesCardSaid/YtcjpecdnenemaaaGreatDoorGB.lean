/-
  A map that a call has made, with keys of one kind (ints, strings): what each key holds. Plain laws of the model's map operations.
  comparisons: a map of functions; Compare.
  Compare.
-/
import Derived.Test.YtcjpecdnenemaaaGreatDoorGA
import Derived.Maps.OwnOps
import Derived.Shelf.Abstract
namespace Go.Proofs.YtcjpecdnenemaaaGreatDoor
set_option linter.unusedVariables false
open Go.RowKit

/-- how keys stand as values -/
structure KeyKind (P : Program) (κ : Type) [DecidableEq κ] where
  K : TypeId
  kd : TypeDesc
  ek : κ → Value
  hu : P.underlying K = some kd
  same : ∀ a b, Instr.sameNow kd (ek a) (ek b) = some (decide (a = b))
  bits : ∀ a, Instr.sameBits 10000 (ek a) (ek a) = true
  check : ∀ (b : Bool) (a : κ) (w : World), (Instr.checkKey b 10000 K (ek a)).run P w = .ok () w

def assoc {κ : Type} [DecidableEq κ] : List (κ × Value) → κ → Option Value
  | [], _ => none
  | (a, v) :: l, k => if k = a then some v else assoc l k

section
variable {P : Program} {κ : Type} [DecidableEq κ] (kk : KeyKind P κ)

/-- block r is a map in which each key k holds f k -/
def MapA (w : World) (r : Nat) (f : κ → Option Value) : Prop :=
  ∃ (es : Array MapEntry) (clock : Nat) (l : List (κ × Value)), w.heap[r]? = some (.map es clock) ∧ es.toList.map (fun e => (e.key, e.val)) = l.map (fun p => (kk.ek p.1, p.2)) ∧ ∀ k, assoc l k = f k

theorem findNow_is (k : κ) : ∀ (es : List MapEntry) (l : List (κ × Value)) (i : Nat), es.map (fun e => (e.key, e.val)) = l.map (fun p => (kk.ek p.1, p.2)) →
    (assoc l k = none ∧ Instr.findNow kk.kd (kk.ek k) es i = some none) ∨
    (∃ v j, assoc l k = some v ∧ Instr.findNow kk.kd (kk.ek k) es i = some (some (i + j, v)) ∧ j < l.length ∧ (∃ u, l[j]? = some (k, u)) ∧ ∀ j' p, j' < j → l[j']? = some p → p.1 ≠ k)
  | [], [], _, _ => .inl ⟨rfl, rfl⟩
  | [], _ :: _, _, h => by simp at h
  | _ :: _, [], _, h => by simp at h
  | e :: es, (a, v) :: l, i, h => by
    simp only [List.map_cons, List.cons.injEq, Prod.mk.injEq] at h
    obtain ⟨⟨hk, hv⟩, ht⟩ := h
    by_cases hka : k = a
    · subst hka
      refine .inr ⟨v, 0, by simp [assoc], ?_, by simp, ⟨v, rfl⟩, fun j' p hj => by omega⟩
      simp [Instr.findNow, hk, kk.same, hv]
    · rcases findNow_is k es l (i + 1) ht with ⟨h1, h2⟩ | ⟨u, j, h1, h2, h3, h4, h5⟩
      · exact .inl ⟨by simp [assoc, hka, h1], by simp [Instr.findNow, hk, kk.same, hka, h2]⟩
      · refine .inr ⟨u, j + 1, by simp [assoc, hka, h1], ?_, by simp; omega, by simpa using h4, ?_⟩
        · simp [Instr.findNow, hk, kk.same, hka, h2]; omega
        · intro j' p hj hp
          cases j' with
          | zero => simp at hp; subst hp; exact fun e => hka e.symm
          | succ j' => exact h5 j' p (by omega) (by simpa using hp)

theorem run_findKey_is {k : κ} {es : List MapEntry} {r : Option (Nat × Value)} (h : Instr.findNow kk.kd (kk.ek k) es 0 = some r) (w : World) : (Instr.findKey kk.K (kk.ek k) es).run P w = .ok r w := by
  simp [Instr.findKey, run_underlying kk.hu, h]

/-- m[k] -/
theorem run_lookup_some {T E : TypeId} {w : World} {r : Nat} {f : κ → Option Value} (ht : P.underlying T = some (.map kk.K E)) (h : MapA kk w r f) {k : κ} {v : Value} (hf : f k = some v) :
    (Instr.lookup T (.map (some r)) (kk.ek k) false).run P w = .ok v w := by
  obtain ⟨es, clock, l, hb, hm, ha⟩ := h
  rcases findNow_is kk k es.toList l 0 hm with ⟨h1, _⟩ | ⟨u, j, h1, h2, _⟩
  · rw [ha, hf] at h1; cases h1
  · rw [ha, hf] at h1
    cases h1
    simp [Instr.lookup, run_underlying ht, MapKept.run_getObj_map hb, kk.check, run_findKey_is kk h2, Result.andThen]
theorem run_lookup_none {T E : TypeId} {w : World} {r : Nat} {f : κ → Option Value} {z : Value} (ht : P.underlying T = some (.map kk.K E)) (hz : ∀ w, (zeroValue E).run P w = .ok z w) (h : MapA kk w r f) {k : κ} (hf : f k = none) :
    (Instr.lookup T (.map (some r)) (kk.ek k) false).run P w = .ok z w := by
  obtain ⟨es, clock, l, hb, hm, ha⟩ := h
  rcases findNow_is kk k es.toList l 0 hm with ⟨h1, h2⟩ | ⟨u, j, h1, h2, _⟩
  · simp [Instr.lookup, run_underlying ht, MapKept.run_getObj_map hb, kk.check, run_findKey_is kk h2, Result.andThen, hz]
  · rw [ha, hf] at h1; cases h1

theorem assoc_append (l : List (κ × Value)) (k : κ) (v : Value) (h : assoc l k = none) (k' : κ) : assoc (l ++ [(k, v)]) k' = if k' = k then some v else assoc l k' := by
  induction l with
  | nil => simp [assoc]
  | cons p l ih =>
    obtain ⟨a, u⟩ := p
    have ha : k ≠ a := by intro e; subst e; simp [assoc] at h
    have h' : assoc l k = none := by simpa [assoc, ha] using h
    simp only [List.cons_append, assoc, ih h']
    by_cases e : k' = a
    · subst e; simp [Ne.symm ha]
    · simp [e]
theorem assoc_set : ∀ (l : List (κ × Value)) (k : κ) (v u : Value) (j : Nat), l[j]? = some (k, u) → (∀ j' p, j' < j → l[j']? = some p → p.1 ≠ k) → ∀ k', assoc (l.set j (k, v)) k' = if k' = k then some v else assoc l k'
  | [], _, _, _, _, h, _, _ => by simp at h
  | (a, b) :: l, k, v, u, 0, h, _, k' => by
    simp only [List.getElem?_cons_zero, Option.some.injEq, Prod.mk.injEq] at h
    obtain ⟨rfl, rfl⟩ := h
    simp only [List.set_cons_zero, assoc]
    by_cases e : k' = a <;> simp [e]
  | (a, b) :: l, k, v, u, j + 1, h, hn, k' => by
    have hne : a ≠ k := hn 0 (a, b) (by omega) rfl
    have ih := assoc_set l k v u j (by simpa using h) (fun j' p hj hp => hn (j' + 1) p (by omega) (by simpa using hp)) k'
    simp only [List.set_cons_succ, assoc, ih]
    by_cases e : k' = a
    · subst e; simp [hne]
    · simp [e]

theorem setObj_facts {w : World} {r : Nat} {o o' : Obj} (hlt : r < w.heap.size) : ({ w with heap := w.heap.setIfInBounds r o } : World).heap[r]? = some o ∧ (∀ B, B ≤ r → Below B w { w with heap := w.heap.setIfInBounds r o }) ∧ (∀ i, i ≠ r → ({ w with heap := w.heap.setIfInBounds r o } : World).heap[i]? = w.heap[i]?) := by
  have hne : ∀ i, i ≠ r → (w.heap.setIfInBounds r o)[i]? = w.heap[i]? := fun i hi => by rw [Array.getElem?_setIfInBounds_ne (Ne.symm hi)]
  refine ⟨by simp [hlt], fun B hB => ⟨rfl, rfl, rfl, by simp, fun k hk => hne k (by omega)⟩, hne⟩

/-- m[k] = v -/
theorem run_mapUpdate_is {T E : TypeId} {w : World} {r : Nat} {f : κ → Option Value} (ht : P.underlying T = some (.map kk.K E)) (h : MapA kk w r f) (k : κ) (v : Value) :
    ∃ w', (Instr.mapUpdate T (.map (some r)) (kk.ek k) v).run P w = .ok () w' ∧ MapA kk w' r (fun k' => if k' = k then some v else f k') ∧ (∀ B, B ≤ r → Below B w w') ∧ (∀ i, i ≠ r → w'.heap[i]? = w.heap[i]?) ∧ w'.heap.size = w.heap.size := by
  obtain ⟨es, clock, l, hb, hm, ha⟩ := h
  have hlt : r < w.heap.size := (Array.getElem?_eq_some_iff.1 hb).1
  have hlen : es.toList.length = l.length := by simpa using congrArg List.length hm
  rcases findNow_is kk k es.toList l 0 hm with ⟨h1, h2⟩ | ⟨u, j, h1, h2, h3, ⟨u', h4⟩, h5⟩
  · have F := setObj_facts (o := Obj.map (es.push { key := kk.ek k, val := v, born := clock }) (clock + 1)) (o' := .map es clock) hlt
    refine ⟨_, by simp [Instr.mapUpdate, run_underlying ht, MapKept.run_getObj_map hb, kk.check, run_findKey_is kk h2, Result.andThen, MapKept.run_setObj_map _ hb], ⟨es.push { key := kk.ek k, val := v, born := clock }, clock + 1, l ++ [(k, v)], F.1, ?_, ?_⟩, F.2.1, F.2.2, by simp⟩
    · simp [hm]
    · intro k'; rw [assoc_append l k v h1, ha]
  · have hjl : j < es.size := by have : es.toList.length = es.size := by simp
                                 omega
    have hkey : es[j].key = kk.ek k := by
      have e1 : (es.toList.map (fun e => (e.key, e.val)))[j]? = (l.map (fun p => (kk.ek p.1, p.2)))[j]? := by rw [hm]
      simp [h4, Array.getElem?_eq_getElem hjl] at e1
      exact e1.1
    have hstay : ∀ w, (Instr.keyThatStays (kk.ek k) (kk.ek k)).run P w = .ok (kk.ek k) w := fun w => by simp [Instr.keyThatStays, kk.bits]
    have F := setObj_facts (o := Obj.map (es.modify j fun e => { e with key := kk.ek k, val := v }) clock) (o' := .map es clock) hlt
    rw [Nat.zero_add] at h2
    refine ⟨_, by simp [Instr.mapUpdate, run_underlying ht, MapKept.run_getObj_map hb, kk.check, run_findKey_is kk h2, Result.andThen, MapKept.run_setObj_map _ hb, Array.getElem?_eq_getElem hjl, hkey, hstay], ⟨es.modify j fun e => { e with key := kk.ek k, val := v }, clock, l.set j (k, v), F.1, ?_, ?_⟩, F.2.1, F.2.2, by simp⟩
    · rw [Array.toList_modify]
      apply List.ext_getElem?
      intro i
      have hi : (es.toList.map (fun e => (e.key, e.val)))[i]? = (l.map (fun p => (kk.ek p.1, p.2)))[i]? := by rw [hm]
      simp only [List.getElem?_map, List.getElem?_modify, List.getElem?_set] at hi ⊢
      by_cases hij : j = i
      · subst hij
        simp [h3, Array.getElem?_eq_getElem hjl]
      · simp [hij]
        simpa using hi
    · intro k'; rw [assoc_set l k v u' j h4 h5, ha]

theorem MapA.of_block {w w' : World} {r : Nat} {f : κ → Option Value} (h : MapA kk w r f) (hb : w'.heap[r]? = w.heap[r]?) : MapA kk w' r f := by
  obtain ⟨es, clock, l, h1, h2, h3⟩ := h
  exact ⟨es, clock, l, hb.trans h1, h2, h3⟩
theorem MapA.lt {w : World} {r : Nat} {f : κ → Option Value} (h : MapA kk w r f) : r < w.heap.size := by
  obtain ⟨es, clock, l, h1, h2, h3⟩ := h
  exact (Array.getElem?_eq_some_iff.1 h1).1
theorem MapA.kept {w w' : World} {r : Nat} {f : κ → Option Value} (h : MapA kk w r f) (hk : Kept w w') : MapA kk w' r f := MapA.of_block kk h (hk.block r (MapA.lt kk h))
theorem MapA.new (w : World) : MapA kk (w.alloc (.map #[] 0)) w.heap.size (fun _ => none) :=
  ⟨#[], 0, [], heap_alloc_new w _, rfl, fun _ => rfl⟩
theorem MapA.congr {w : World} {r : Nat} {f g : κ → Option Value} (h : MapA kk w r f) (hg : ∀ k, f k = g k) : MapA kk w r g := by
  obtain ⟨es, clock, l, h1, h2, h3⟩ := h
  exact ⟨es, clock, l, h1, h2, fun k => (h3 k).trans (hg k)⟩
end

/-- keys that are ints -/
def intKeys {P : Program} {K : TypeId} (hu : P.underlying K = some (.int .i64)) : KeyKind P Int where
  K := K
  kd := .int .i64
  ek := fun n => .int .i64 n
  hu := hu
  same := fun a b => by simp [Instr.sameNow]; rfl
  bits := fun a => by simp [Instr.sameBits]
  check := fun b a w => by unfold Instr.checkKey; simp [run_underlying hu, Result.andThen]
def strKeys {P : Program} {K : TypeId} (hu : P.underlying K = some .string) : KeyKind P ByteArray where
  K := K
  kd := .string
  ek := fun s => .string s
  hu := hu
  same := fun a b => by
    simp only [Instr.sameNow, Option.some.injEq]
    rw [Bool.eq_iff_iff, MapKept.bytes_beq, decide_eq_true_iff]
  bits := fun a => by
    simp only [Instr.sameBits]
    exact (MapKept.bytes_beq a a).2 rfl
  check := fun b a w => by unfold Instr.checkKey; simp [run_underlying hu, Result.andThen]
end Go.Proofs.YtcjpecdnenemaaaGreatDoor

namespace Go.Proofs.YtcjpecdnenemaaaGreatDoor
set_option linter.unusedVariables false
open Go.RowKit Go.Shelf

/-- the keys of holds -/
def k3 : KeyKind Tryz.prog Int := intKeys Tryz.underlying3
/-- the map that comparisons returns -/
def cmpMap (k : Int) : Option Value := if k = 1 then some (.func (.func 146) #[] #[]) else if k = -1 then some (.func (.func 145) #[] #[]) else none

set_option maxRecDepth 100000 in
theorem comparisons_any (w : World) :
    Calls Tryz.prog 89 #[] w fun e w' => e = .returned (.map (some w.heap.size)) ∧ MapA k3 w' w.heap.size cmpMap ∧ Kept w w' := by
  have hmm := @run_makeMap Tryz.prog
  have hmf : ∀ (fn : Fn) (first cap : Array Value) (w : World), (Instr.makeFunc fn first cap).run Tryz.prog w = .ok (.func fn first cap) w := fun _ _ _ _ => rfl
  have m0 := MapA.new k3 w
  obtain ⟨w1, r1, m1, b1, _, _⟩ := run_mapUpdate_is k3 (T := 95) Tryz.underlying95 m0 (-1) (.func (.func 145) #[] #[])
  obtain ⟨w2, r2, m2, b2, _, _⟩ := run_mapUpdate_is k3 (T := 95) Tryz.underlying95 m1 1 (.func (.func 146) #[] #[])
  have M2 := Lib.hid (MapA.congr k3 m2 (g := cmpMap) (fun k => by simp [cmpMap]))
  have K2 : Kept w w2 := (((Kept.refl w).alloc (.map #[] 0)).below.trans (b1 _ (Nat.le_refl _))).trans (b2 _ (Nat.le_refl _))
  clear m0 m1 m2 b1 b2
  simp only [k3, intKeys] at r1 r2
  go_enter Tryz.func89, Tryz.ntmps89
  go_wp2
  go_ret
  exact ⟨rfl, M2.out, K2⟩
end Go.Proofs.YtcjpecdnenemaaaGreatDoor

namespace Go.Proofs.YtcjpecdnenemaaaGreatDoor
set_option linter.unusedVariables false
open Go.RowKit Go.Shelf

theorem e145 : ∀ args w, (callFunc 145 args).run Tryz.prog w = .ok (.enter 145 args) w := enters_of Tryz.func145 (by kernel_rfl) rfl
theorem e146 : ∀ args w, (callFunc 146 args).run Tryz.prog w = .ok (.enter 146 args) w := enters_of Tryz.func146 (by kernel_rfl) rfl

theorem lss_any (an ad bn bd : Int) (ha : Bd an ad) (hb : Bd bn bd) (w : World) :
    Calls Tryz.prog 145 #[.agg #[.int .i64 an, .int .i64 ad], .agg #[.int .i64 bn, .int .i64 bd]] w fun e w' => e = .returned (.bool (decide (an * bd < bn * ad))) ∧ Kept w w' := by
  obtain ⟨⟨a1, a2⟩, a3, a4⟩ := ha
  obtain ⟨⟨b1, b2⟩, b3, b4⟩ := hb
  obtain ⟨p11, p12⟩ := mul_bd 1000000000000 1000000 a3 a4 (by omega) b2 (by omega)
  obtain ⟨p21, p22⟩ := mul_bd 1000000000000 1000000 b3 b4 (by omega) a2 (by omega)
  go_enter Tryz.func145, Tryz.ntmps145
  go_wp2
  go_ret
  exact ⟨rfl, ((Kept.refl _).alloc _).alloc _⟩
theorem gtr_any (an ad bn bd : Int) (ha : Bd an ad) (hb : Bd bn bd) (w : World) :
    Calls Tryz.prog 146 #[.agg #[.int .i64 an, .int .i64 ad], .agg #[.int .i64 bn, .int .i64 bd]] w fun e w' => e = .returned (.bool (decide (an * bd > bn * ad))) ∧ Kept w w' := by
  obtain ⟨⟨a1, a2⟩, a3, a4⟩ := ha
  obtain ⟨⟨b1, b2⟩, b3, b4⟩ := hb
  obtain ⟨p11, p12⟩ := mul_bd 1000000000000 1000000 a3 a4 (by omega) b2 (by omega)
  obtain ⟨p21, p22⟩ := mul_bd 1000000000000 1000000 b3 b4 (by omega) a2 (by omega)
  go_enter Tryz.func146, Tryz.ntmps146
  go_wp2
  go_ret
  exact ⟨rfl, ((Kept.refl _).alloc _).alloc _⟩

theorem compare_bad1 (an ad bn bd : Int) (h : vld an ad = false) (w : World) :
    Calls Tryz.prog 21 #[.agg #[.int .i64 an, .int .i64 ad], .agg #[.int .i64 bn, .int .i64 bd]] w fun e w' => e = .returned (.int .i64 0) ∧ Kept w w' := by
  go_enter Tryz.func21, Tryz.ntmps21
  go_wp2_with fail
  refine (valid_any _ _ _).mono ?_
  rintro e w1 ⟨rfl, hk⟩
  obtain ⟨hc1, hf1, hz1⟩ := hk.facts
  go_wp2_with fail
  go_ret
  exact ⟨rfl, (((Kept.refl _).alloc _).alloc _).trans hk⟩
theorem compare_bad2 (an ad bn bd : Int) (h : vld an ad = true) (k : vld bn bd = false) (w : World) :
    Calls Tryz.prog 21 #[.agg #[.int .i64 an, .int .i64 ad], .agg #[.int .i64 bn, .int .i64 bd]] w fun e w' => e = .returned (.int .i64 0) ∧ Kept w w' := by
  go_enter Tryz.func21, Tryz.ntmps21
  go_wp2_with fail
  refine (valid_any _ _ _).mono ?_
  rintro e w1 ⟨rfl, hk⟩
  obtain ⟨hc1, hf1, hz1⟩ := hk.facts
  go_wp2_with fail
  refine (valid_any _ _ _).mono ?_
  rintro e w2 ⟨rfl, hk2'⟩
  have hk2 := hk.trans hk2'
  clear hc1 hf1 hz1
  go_wp2_with fail
  go_ret
  exact ⟨rfl, (((Kept.refl _).alloc _).alloc _).trans hk2⟩
def cmpI (an ad bn bd : Int) : Int := if an * bd < bn * ad then -1 else if an * bd > bn * ad then 1 else 0
def cmpS (an ad bn bd : Int) : Int := if (vld an ad && vld bn bd) = true then cmpI an ad bn bd else 0

set_option maxRecDepth 100000 in
theorem compare_ok (an ad bn bd : Int) (h : vld an ad = true) (k : vld bn bd = true) (w : World) :
    Calls Tryz.prog 21 #[.agg #[.int .i64 an, .int .i64 ad], .agg #[.int .i64 bn, .int .i64 bd]] w fun e w' => e = .returned (.int .i64 (cmpI an ad bn bd)) ∧ Kept w w' := by
  go_enter Tryz.func21, Tryz.ntmps21
  go_wp2_with fail
  refine (valid_any _ _ _).mono ?_
  rintro e w1 ⟨rfl, hk⟩
  obtain ⟨hc1, hf1, hz1⟩ := hk.facts
  go_wp2_with fail
  refine (valid_any _ _ _).mono ?_
  rintro e w2 ⟨rfl, hk2'⟩
  have hk2 := hk.trans hk2'
  obtain ⟨hc2, hf2, hz2⟩ := hk2.facts
  clear hc1 hf1 hz1
  go_wp2_with fail
  refine (comparisons_any _).mono ?_
  rintro e w3 ⟨rfl, hm3, hk3'⟩
  have hk3 := hk2.trans hk3'
  obtain ⟨hc3, hf3, hz3⟩ := hk3.facts
  clear hc2 hf2 hz2
  go_wp2_with fail
  have hm3' := MapA.kept k3 hm3 ((Kept.refl w3).alloc (.cells #[.int .i64 (-1), .int .i64 1] 3))
  have hK := hk3.alloc (.cells #[.int .i64 (-1), .int .i64 1] 3)
  have hs3 := hk3.size
  have hs4 := hk3'.size
  have q0 : (w3.alloc (.cells #[.int .i64 (-1), .int .i64 1] 3)).cell? ⟨w.heap.size, 0, none⟩ = some (.int .i64 an) := by rw [hK.cells _ _ (by first | (simp; done) | (simp; omega))]; simp [go_sem]
  have q1 : (w3.alloc (.cells #[.int .i64 (-1), .int .i64 1] 3)).cell? ⟨w.heap.size, 1, none⟩ = some (.int .i64 ad) := by rw [hK.cells _ _ (by first | (simp; done) | (simp; omega))]; simp [go_sem]
  have q2 : (w3.alloc (.cells #[.int .i64 (-1), .int .i64 1] 3)).cell? ⟨w.heap.size + 1, 0, none⟩ = some (.int .i64 bn) := by rw [hK.cells _ _ (by first | (simp; done) | (simp; omega))]; simp [go_sem]
  have q3 : (w3.alloc (.cells #[.int .i64 (-1), .int .i64 1] 3)).cell? ⟨w.heap.size + 1, 1, none⟩ = some (.int .i64 bd) := by rw [hK.cells _ _ (by first | (simp; done) | (simp; omega))]; simp [go_sem]
  have q4 : (w3.alloc (.cells #[.int .i64 (-1), .int .i64 1] 3)).cell? ⟨w3.heap.size, 0, none⟩ = some (.int .i64 (-1)) := by simp [go_sem]
  have q5 : (w3.alloc (.cells #[.int .i64 (-1), .int .i64 1] 3)).cell? ⟨w3.heap.size, 1, none⟩ = some (.int .i64 1) := by simp [go_sem]
  simp at hs3
  clear hc3 hf3 hz3
  go_loopw [19] (fun i wr => ∃ n : Nat, n ≤ 2 ∧ i = .int .i64 n ∧ Kept (w3.alloc (.cells #[.int .i64 (-1), .int .i64 1] 3)) wr ∧ (1 ≤ n → ¬ (an * bd < bn * ad)) ∧ (2 ≤ n → ¬ (an * bd > bn * ad))) (fun i _ => 2 - (intOf i).toNat)
  case atStart => exact ⟨0, by omega, rfl, Kept.refl _, by omega, by omega⟩
  case round =>
    obtain ⟨n, hn, rfl, hkr, g1, g2⟩ := hrel
    have r0 := (hkr.cells _ _ (by simp; omega)).trans q0
    have r1 := (hkr.cells _ _ (by simp; omega)).trans q1
    have r2 := (hkr.cells _ _ (by simp; omega)).trans q2
    have r3 := (hkr.cells _ _ (by simp; omega)).trans q3
    have r4 := (hkr.cells _ _ (by simp)).trans q4
    have r5 := (hkr.cells _ _ (by simp)).trans q5
    have hmr := MapA.kept k3 hm3' hkr
    have ha := vld_bd h
    have hb := vld_bd k
    have H1 := Lib.hid g1
    have H2 := Lib.hid g2
    clear g1 g2 q0 q1 q2 q3 q4 q5
    by_cases h0 : n = 0
    · subst h0
      have hl := run_lookup_some k3 (T := 95) Tryz.underlying95 hmr (k := -1) (v := .func (.func 145) #[] #[]) (by simp [cmpMap])
      simp only [k3, intKeys] at hl
      by_cases hlt : an * bd < bn * ad
      · have hd := Lib.hid hlt
        go_wp2_with fail
        refine (lss_any _ _ _ _ ha hb _).mono ?_
        rintro e w5 ⟨rfl, hk5⟩
        have hdd : decide (an * bd < bn * ad) = true := by simpa using hd.out
        go_wp2
        go_ret
        exact ⟨ret_int (by simp only [cmpI, if_pos hd.out]), (((Kept.refl _).alloc _).alloc _).trans ((hK.trans hkr).trans hk5)⟩
      · have hd := Lib.hid hlt
        have hdd : decide (an * bd < bn * ad) = false := by simpa using hlt
        clear hlt
        go_wp2_with fail
        refine (lss_any _ _ _ _ ha hb _).mono ?_
        rintro e w5 ⟨rfl, hk5⟩
        go_wp2
        go_roundw
        case rel => exact ⟨1, by omega, by first | rfl | go_num, hkr.trans hk5, fun _ => (by have := hd.out; omega), by omega⟩
        case measure => simp [intOf]
    · by_cases h1 : n = 1
      · subst h1
        have hl := run_lookup_some k3 (T := 95) Tryz.underlying95 hmr (k := 1) (v := .func (.func 146) #[] #[]) (by simp [cmpMap])
        simp only [k3, intKeys] at hl
        by_cases hlt : an * bd > bn * ad
        · have hd := Lib.hid hlt
          go_wp2_with fail
          refine (gtr_any _ _ _ _ ha hb _).mono ?_
          rintro e w5 ⟨rfl, hk5⟩
          have hdd : decide (an * bd > bn * ad) = true := by simpa using hd.out
          go_wp2
          go_ret
          exact ⟨ret_int (by rw [cmpI, if_neg (by have := H1.out (by omega); omega), if_pos hd.out]), (((Kept.refl _).alloc _).alloc _).trans ((hK.trans hkr).trans hk5)⟩
        · have hd := Lib.hid hlt
          have hdd : decide (an * bd > bn * ad) = false := by simpa using hlt
          clear hlt
          go_wp2_with fail
          refine (gtr_any _ _ _ _ ha hb _).mono ?_
          rintro e w5 ⟨rfl, hk5⟩
          go_wp2
          go_roundw
          case rel => exact ⟨2, by omega, by first | rfl | go_num, hkr.trans hk5, fun _ => (by have := H1.out (by omega); omega), fun _ => (by have := hd.out; omega)⟩
          case measure => simp [intOf]
      · obtain rfl : n = 2 := by omega
        go_wp2
        go_ret
        exact ⟨ret_int (by rw [cmpI, if_neg (by have := H1.out (by omega); omega), if_neg (by have := H2.out (by omega); omega)]), (((Kept.refl _).alloc _).alloc _).trans (hK.trans hkr)⟩

theorem compare_any (an ad bn bd : Int) (w : World) :
    Calls Tryz.prog 21 #[.agg #[.int .i64 an, .int .i64 ad], .agg #[.int .i64 bn, .int .i64 bd]] w fun e w' => e = .returned (.int .i64 (cmpS an ad bn bd)) ∧ Kept w w' := by
  by_cases h : vld an ad = true
  · by_cases k : vld bn bd = true
    · have hs : cmpS an ad bn bd = cmpI an ad bn bd := by simp [cmpS, h, k]
      rw [hs]
      exact compare_ok an ad bn bd h k w
    · have k' : vld bn bd = false := by simpa using k
      have hs : cmpS an ad bn bd = 0 := by simp [cmpS, k']
      rw [hs]
      exact compare_bad2 an ad bn bd h k' w
  · have h' : vld an ad = false := by simpa using h
    have hs : cmpS an ad bn bd = 0 := by simp [cmpS, h']
    rw [hs]
    exact compare_bad1 an ad bn bd h' w
end Go.Proofs.YtcjpecdnenemaaaGreatDoor
