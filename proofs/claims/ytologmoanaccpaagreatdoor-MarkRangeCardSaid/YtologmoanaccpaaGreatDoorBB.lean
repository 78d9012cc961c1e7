/-
  maps that a call has made, with keys of any kind: what each key holds; lookups, updates, entries that are appended to
  mark: the kinds of keys; repeats over fades
  mark: own rows of marks; families of rows in a map; the test of clashing
  mark: clashing
-/
import Derived.Test.YtologmoanaccpaaGreatDoorBA
import Derived.Maps.OwnOps
import Derived.Shelf.Abstract
import Derived.Laws.StructEq
import Derived.ChangeKeysEq
import Derived.OwnWalk
import Derived.WideKeyEntry
import Derived.Deep.RegionLaw
namespace Go.Proofs.YtologmoanaccpaaGreatDoor
set_option linter.all false
open Go Go.RowKit

def assoc {κ : Type} [DecidableEq κ] : List (κ × Value) → κ → Option Value
  | [], _ => none
  | (a, v) :: l, k => if k = a then some v else assoc l k
def fnd {κ : Type} [DecidableEq κ] : List (κ × Value) → κ → Nat → Option (Nat × Value)
  | [], _, _ => none
  | (a, v) :: l, k, i => if k = a then some (i, v) else fnd l k (i + 1)
theorem fnd_is {κ : Type} [DecidableEq κ] (k : κ) : ∀ (l : List (κ × Value)) (i : Nat),
    (assoc l k = none ∧ fnd l k i = none ∧ ∀ p ∈ l, p.1 ≠ k) ∨ (∃ v j, assoc l k = some v ∧ fnd l k i = some (i + j, v) ∧ l[j]? = some (k, v) ∧ ∀ j' p, j' < j → l[j']? = some p → p.1 ≠ k)
  | [], i => .inl ⟨rfl, rfl, fun p hp => by cases hp⟩
  | (a, v) :: l, i => by
    by_cases hka : k = a
    · subst hka
      exact .inr ⟨v, 0, by simp [assoc], by simp [fnd], by simp, fun j' p hj => by omega⟩
    · rcases fnd_is k l (i + 1) with ⟨h1, h2, h3⟩ | ⟨u, j, h1, h2, h3, h4⟩
      · refine .inl ⟨by simp [assoc, hka, h1], by simp [fnd, hka, h2], fun p hp => ?_⟩
        rcases List.mem_cons.1 hp with rfl | hp
        · exact fun e => hka e.symm
        · exact h3 p hp
      · refine .inr ⟨u, j + 1, by simp [assoc, hka, h1], by simp [fnd, hka, h2]; omega, by simpa using h3, ?_⟩
        intro j' p hj hp
        cases j' with
        | zero => simp at hp; subst hp; exact fun e => hka e.symm
        | succ j' => exact h4 j' p (by omega) (by simpa using hp)

/-- how keys stand as values, and are found -/
structure KeyG (P : Program) (κ : Type) [DecidableEq κ] where
  K : TypeId
  ek : κ → Value
  find : ∀ (k : κ) (es : List MapEntry) (l : List (κ × Value)), es.map (fun e => (e.key, e.val)) = l.map (fun p => (ek p.1, p.2)) → ∀ w, (Instr.findKey K (ek k) es).run P w = .ok (fnd l k 0) w
  bits : ∀ a, Instr.sameBits 10000 (ek a) (ek a) = true
  check : ∀ (b : Bool) (a : κ) (w : World), (Instr.checkKey b 10000 K (ek a)).run P w = .ok () w

theorem findNow_is {κ : Type} [DecidableEq κ] {kd : TypeDesc} {ek : κ → Value} (same : ∀ a b, Instr.sameNow kd (ek a) (ek b) = some (decide (a = b))) (k : κ) : ∀ (es : List MapEntry) (l : List (κ × Value)) (i : Nat), es.map (fun e => (e.key, e.val)) = l.map (fun p => (ek p.1, p.2)) →
    Instr.findNow kd (ek k) es i = some (fnd l k i)
  | [], [], _, _ => rfl
  | [], _ :: _, _, h => by simp at h
  | _ :: _, [], _, h => by simp at h
  | e :: es, (a, v) :: l, i, h => by
    simp only [List.map_cons, List.cons.injEq, Prod.mk.injEq] at h
    obtain ⟨⟨hk, hv⟩, ht⟩ := h
    by_cases hka : k = a
    · subst hka
      simp [Instr.findNow, hk, same, hv, fnd]
    · simp [Instr.findNow, hk, same, hka, fnd, findNow_is same k es l (i + 1) ht]
theorem findAsking_is {P : Program} {κ : Type} [DecidableEq κ] {K : TypeId} {ek : κ → Value} (eql : ∀ a b w, (Op.equal K (ek a) (ek b)).run P w = .ok (decide (a = b)) w) (k : κ) (w : World) : ∀ (es : List MapEntry) (l : List (κ × Value)) (i : Nat), es.map (fun e => (e.key, e.val)) = l.map (fun p => (ek p.1, p.2)) →
    (Instr.findAsking K (ek k) es i).run P w = .ok (fnd l k i) w
  | [], [], _, _ => rfl
  | [], _ :: _, _, h => by simp at h
  | _ :: _, [], _, h => by simp at h
  | e :: es, (a, v) :: l, i, h => by
    simp only [List.map_cons, List.cons.injEq, Prod.mk.injEq] at h
    obtain ⟨⟨hk, hv⟩, ht⟩ := h
    by_cases hka : k = a
    · subst hka
      simp [Instr.findAsking, hk, eql, hv, fnd, Result.andThen]
    · simp [Instr.findAsking, hk, eql, hka, fnd, Result.andThen, findAsking_is eql k w es l (i + 1) ht]
/-- keys that are ints -/
def intKeys {P : Program} {K : TypeId} (hu : P.underlying K = some (.int .i64)) : KeyG P Int where
  K := K
  ek := fun n => .int .i64 n
  find := fun k es l h w => by
    have := findNow_is (kd := .int .i64) (ek := fun n => Value.int .i64 n) (fun a b => by simp [Instr.sameNow]; rfl) k es l 0 h
    simp [Instr.findKey, run_underlying hu, this]
  bits := fun a => by simp [Instr.sameBits]
  check := fun b a w => by unfold Instr.checkKey; simp [run_underlying hu, Result.andThen]
/-- keys that are compared item by item -/
def eqlKeys {P : Program} {K : TypeId} {κ : Type} [DecidableEq κ] (ek : κ → Value) {kd : TypeDesc} (hu : P.underlying K = some kd) (no : ∀ a b, Instr.sameNow kd (ek a) (ek b) = none) (eql : ∀ a b w, (Op.equal K (ek a) (ek b)).run P w = .ok (decide (a = b)) w) (bits : ∀ a, Instr.sameBits 10000 (ek a) (ek a) = true)
    (check : ∀ (b : Bool) (a : κ) (w : World), (Instr.checkKey b 10000 K (ek a)).run P w = .ok () w) : KeyG P κ where
  K := K
  ek := ek
  find := fun k es l h w => by
    cases es with
    | nil =>
      cases l with
      | nil => simp [Instr.findKey, run_underlying hu, Instr.findNow, fnd]
      | cons p l => simp at h
    | cons e es =>
      cases l with
      | nil => simp at h
      | cons p l =>
        have h' := h
        simp only [List.map_cons, List.cons.injEq, Prod.mk.injEq] at h'
        have hn : Instr.findNow kd (ek k) (e :: es) 0 = none := by simp [Instr.findNow, h'.1.1, no]
        simp only [Instr.findKey, Sem.run_bind, run_underlying hu, Result.andThen_ok, hn]
        exact findAsking_is eql k w (e :: es) (p :: l) 0 h
  bits := bits
  check := check

section
variable {P : Program} {κ : Type} [DecidableEq κ] (kk : KeyG P κ)

def MapL (es : Array MapEntry) (clock : Nat) (l : List (κ × Value)) (f : κ → Option Value) : Prop :=
  es.toList.map (fun e => (e.key, e.val)) = l.map (fun p => (kk.ek p.1, p.2)) ∧ (es.toList.map (·.born)).Nodup ∧ (∀ e ∈ es.toList, e.born < clock) ∧ ∀ k, assoc l k = f k
/-- block r is a map in which each key k holds f k -/
def MapG (w : World) (r : Nat) (f : κ → Option Value) : Prop :=
  ∃ (es : Array MapEntry) (clock : Nat) (l : List (κ × Value)), w.heap[r]? = some (.map es clock) ∧ MapL kk es clock l f
/-- .. and the entry of k bears the stamp s -/
def MapS (w : World) (r : Nat) (f : κ → Option Value) (k : κ) (s : Nat) : Prop :=
  ∃ (es : Array MapEntry) (clock : Nat) (l : List (κ × Value)) (j : Nat) (e : MapEntry) (v : Value), w.heap[r]? = some (.map es clock) ∧ MapL kk es clock l f ∧ es.toList[j]? = some e ∧ e.born = s ∧ l[j]? = some (k, v) ∧ ∀ j' p, j' < j → l[j']? = some p → p.1 ≠ k

/-- m[k] -/
theorem run_lookup_some {T E : TypeId} {w : World} {r : Nat} {f : κ → Option Value} (ht : P.underlying T = some (.map kk.K E)) (h : MapG kk w r f) {k : κ} {v : Value} (hf : f k = some v) :
    (Instr.lookup T (.map (some r)) (kk.ek k) false).run P w = .ok v w := by
  obtain ⟨es, clock, l, hb, hm, _, _, ha⟩ := h
  have hfi := kk.find k es.toList l hm w
  rcases fnd_is k l 0 with ⟨h1, _⟩ | ⟨u, j, h1, h2, _⟩
  · rw [ha, hf] at h1; cases h1
  · rw [ha, hf] at h1
    cases h1
    rw [h2] at hfi
    simp [Instr.lookup, run_underlying ht, MapKept.run_getObj_map hb, kk.check, hfi, Result.andThen]
theorem run_lookup_none {T E : TypeId} {w : World} {r : Nat} {f : κ → Option Value} {z : Value} (ht : P.underlying T = some (.map kk.K E)) (hz : ∀ w, (zeroValue E).run P w = .ok z w) (h : MapG kk w r f) {k : κ} (hf : f k = none) :
    (Instr.lookup T (.map (some r)) (kk.ek k) false).run P w = .ok z w := by
  obtain ⟨es, clock, l, hb, hm, _, _, ha⟩ := h
  have hfi := kk.find k es.toList l hm w
  rcases fnd_is k l 0 with ⟨h1, h2, _⟩ | ⟨u, j, h1, h2, _⟩
  · rw [h2] at hfi
    simp [Instr.lookup, run_underlying ht, MapKept.run_getObj_map hb, kk.check, hfi, Result.andThen, hz]
  · rw [ha, hf] at h1; cases h1

theorem assoc_append (l : List (κ × Value)) (k : κ) (v : Value) (h : assoc l k = none) (k' : κ) : assoc (l ++ [(k, v)]) k' = if k' = k then some v else assoc l k' := by
  induction l with
  | nil => simp [assoc]
  | cons p l ih =>
    obtain ⟨a, u⟩ := p
    have ha : k ≠ a := by intro e; subst e; simp [assoc] at h
    have h' : assoc l k = none := by simpa [assoc, ha] using h
    simp only [List.cons_append, assoc, ih h']
    by_cases e : k' = a
    · subst e; simp [Ne.symm ha]
    · simp [e]
theorem assoc_set : ∀ (l : List (κ × Value)) (k : κ) (v u : Value) (j : Nat), l[j]? = some (k, u) → (∀ j' p, j' < j → l[j']? = some p → p.1 ≠ k) → ∀ k', assoc (l.set j (k, v)) k' = if k' = k then some v else assoc l k'
  | [], _, _, _, _, h, _, _ => by simp at h
  | (a, b) :: l, k, v, u, 0, h, _, k' => by
    simp only [List.getElem?_cons_zero, Option.some.injEq, Prod.mk.injEq] at h
    obtain ⟨rfl, rfl⟩ := h
    simp only [List.set_cons_zero, assoc]
    by_cases e : k' = a <;> simp [e]
  | (a, b) :: l, k, v, u, j + 1, h, hn, k' => by
    have hne : a ≠ k := hn 0 (a, b) (by omega) rfl
    have ih := assoc_set l k v u j (by simpa using h) (fun j' p hj hp => hn (j' + 1) p (by omega) (by simpa using hp)) k'
    simp only [List.set_cons_succ, assoc, ih]
    by_cases e : k' = a
    · subst e; simp [hne]
    · simp [e]

theorem setObj_facts {w : World} {r : Nat} {o o' : Obj} (hlt : r < w.heap.size) : ({ w with heap := w.heap.setIfInBounds r o } : World).heap[r]? = some o ∧ (∀ B, B ≤ r → Below B w { w with heap := w.heap.setIfInBounds r o }) ∧ (∀ i, i ≠ r → ({ w with heap := w.heap.setIfInBounds r o } : World).heap[i]? = w.heap[i]?) := by
  have hne : ∀ i, i ≠ r → (w.heap.setIfInBounds r o)[i]? = w.heap[i]? := fun i hi => by rw [Array.getElem?_setIfInBounds_ne (Ne.symm hi)]
  refine ⟨by simp [hlt], fun B hB => ⟨rfl, rfl, rfl, by simp, fun k hk => hne k (by omega)⟩, hne⟩
/-- what a write of a map's block leaves -/
def OnlyB (r : Nat) (w w' : World) : Prop := (∀ B, B ≤ r → Below B w w') ∧ (∀ i, i ≠ r → w'.heap[i]? = w.heap[i]?) ∧ w'.heap.size = w.heap.size

theorem MapL.push {es : Array MapEntry} {clock : Nat} {l : List (κ × Value)} {f : κ → Option Value} (h : MapL kk es clock l f) {k : κ} (hk : assoc l k = none) (v : Value) :
    MapL kk (es.push { key := kk.ek k, val := v, born := clock }) (clock + 1) (l ++ [(k, v)]) (fun k' => if k' = k then some v else f k') := by
  obtain ⟨hm, hn, hb, ha⟩ := h
  refine ⟨by simp [hm], ?_, ?_, fun k' => by rw [assoc_append l k v hk, ha]⟩
  · rw [Array.toList_push, List.map_append, List.nodup_append]
    refine ⟨hn, by simp, ?_⟩
    intro a ha b hb' e
    simp at hb'
    rw [List.mem_map] at ha
    obtain ⟨x, hx, rfl⟩ := ha
    have := hb x hx
    omega
  · intro e he
    rw [Array.toList_push, List.mem_append] at he
    rcases he with he | he
    · have := hb e he; omega
    · simp at he; subst he; exact Nat.lt_succ_self _
theorem MapL.put {es : Array MapEntry} {clock : Nat} {l : List (κ × Value)} {f : κ → Option Value} (h : MapL kk es clock l f) {k : κ} {u : Value} {j : Nat} (h4 : l[j]? = some (k, u)) (h5 : ∀ j' p, j' < j → l[j']? = some p → p.1 ≠ k) (v : Value) (g : MapEntry → MapEntry) (hg : ∀ e, e.key = kk.ek k → (g e).key = kk.ek k ∧ (g e).val = v ∧ (g e).born = e.born) :
    MapL kk (es.modify j g) clock (l.set j (k, v)) (fun k' => if k' = k then some v else f k') := by
  obtain ⟨hm, hn, hb, ha⟩ := h
  have hlen : es.toList.length = l.length := by simpa using congrArg List.length hm
  have hjl : j < es.size := by
    have := (List.getElem?_eq_some_iff.1 h4).1
    have : es.toList.length = es.size := by simp
    omega
  have hjl' : j < es.toList.length := by simpa using hjl
  have hkey : es.toList[j].key = kk.ek k := by
    have e1 : (es.toList.map (fun e => (e.key, e.val)))[j]? = (l.map (fun p => (kk.ek p.1, p.2)))[j]? := by rw [hm]
    rw [List.getElem?_map, List.getElem?_map, h4, List.getElem?_eq_getElem hjl'] at e1
    simp at e1
    exact e1.1
  obtain ⟨g1, g2, g3⟩ := hg _ hkey
  have et : es.toList[j] = es[j] := by simp
  rw [et] at g1 g2 g3
  have hborn : ((es.modify j g).toList.map (·.born)) = es.toList.map (·.born) := by
    rw [Array.toList_modify]
    apply List.ext_getElem?
    intro i
    simp only [List.getElem?_map, List.getElem?_modify]
    by_cases hij : j = i
    · subst hij
      rw [List.getElem?_eq_getElem hjl']
      simp [g3]
    · simp [hij]
  refine ⟨?_, by rw [hborn]; exact hn, ?_, fun k' => by rw [assoc_set l k v u j h4 h5, ha]⟩
  · rw [Array.toList_modify]
    apply List.ext_getElem?
    intro i
    have hi : (es.toList.map (fun e => (e.key, e.val)))[i]? = (l.map (fun p => (kk.ek p.1, p.2)))[i]? := by rw [hm]
    simp only [List.getElem?_map, List.getElem?_modify, List.getElem?_set] at hi ⊢
    by_cases hij : j = i
    · subst hij
      rw [List.getElem?_eq_getElem hjl']
      simp [g1, g2, (List.getElem?_eq_some_iff.1 h4).1]
    · simp [hij]
      simpa using hi
  · intro e he
    have : e.born ∈ (es.modify j g).toList.map (·.born) := List.mem_map_of_mem he
    rw [hborn, List.mem_map] at this
    obtain ⟨x, hx, hxe⟩ := this
    have := hb x hx
    omega

/-- m[k] = v -/
theorem run_mapUpdate_is {T E : TypeId} {w : World} {r : Nat} {f : κ → Option Value} (ht : P.underlying T = some (.map kk.K E)) (h : MapG kk w r f) (k : κ) (v : Value) :
    ∃ w', (Instr.mapUpdate T (.map (some r)) (kk.ek k) v).run P w = .ok () w' ∧ MapG kk w' r (fun k' => if k' = k then some v else f k') ∧ OnlyB r w w' := by
  obtain ⟨es, clock, l, hb, hL⟩ := h
  have hm := hL.1
  have hlt : r < w.heap.size := (Array.getElem?_eq_some_iff.1 hb).1
  have hfi := kk.find k es.toList l hm w
  rcases fnd_is k l 0 with ⟨h1, h2, h3⟩ | ⟨u, j, h1, h2, h4, h5⟩
  · rw [h2] at hfi
    have F := setObj_facts (o := Obj.map (es.push { key := kk.ek k, val := v, born := clock }) (clock + 1)) (o' := .map es clock) hlt
    exact ⟨_, by simp [Instr.mapUpdate, run_underlying ht, MapKept.run_getObj_map hb, kk.check, hfi, Result.andThen, MapKept.run_setObj_map _ hb], ⟨_, _, _, F.1, MapL.push kk hL h1 v⟩, F.2.1, F.2.2, by simp⟩
  · have hlen : es.toList.length = l.length := by simpa using congrArg List.length hm
    have hjl : j < es.size := by have := (List.getElem?_eq_some_iff.1 h4).1
                                 have : es.toList.length = es.size := by simp
                                 omega
    have hkey : es[j].key = kk.ek k := by
      have e1 : (es.toList.map (fun e => (e.key, e.val)))[j]? = (l.map (fun p => (kk.ek p.1, p.2)))[j]? := by rw [hm]
      simp [h4, Array.getElem?_eq_getElem hjl] at e1
      exact e1.1
    have hstay : ∀ w, (Instr.keyThatStays (kk.ek k) (kk.ek k)).run P w = .ok (kk.ek k) w := fun w => by simp [Instr.keyThatStays, kk.bits]
    have F := setObj_facts (o := Obj.map (es.modify j fun e => { e with key := kk.ek k, val := v }) clock) (o' := .map es clock) hlt
    rw [h2, Nat.zero_add] at hfi
    exact ⟨_, by simp [Instr.mapUpdate, run_underlying ht, MapKept.run_getObj_map hb, kk.check, hfi, Result.andThen, MapKept.run_setObj_map _ hb, Array.getElem?_eq_getElem hjl, hkey, hstay], ⟨_, _, _, F.1, MapL.put kk hL h4 h5 v _ (fun e _ => ⟨rfl, rfl, rfl⟩)⟩, F.2.1, F.2.2, by simp⟩

/-- the entry of k, for a store behind it -/
theorem run_mapEntry_is {T E : TypeId} {w : World} {r : Nat} {f : κ → Option Value} {z : Value} (ht : P.underlying T = some (.map kk.K E)) (hz : ∀ w, (zeroValue E).run P w = .ok z w) (h : MapG kk w r f) (k : κ) :
    ∃ w' s, (Instr.mapEntry T (.map (some r)) (kk.ek k)).run P w = .ok (.tuple #[(f k).getD z, .int .i64 ((s : Nat) : Int)]) w' ∧ MapS kk w' r (fun k' => if k' = k then some ((f k).getD z) else f k') k s ∧ OnlyB r w w' := by
  obtain ⟨es, clock, l, hb, hL⟩ := h
  have hm := hL.1
  have hlt : r < w.heap.size := (Array.getElem?_eq_some_iff.1 hb).1
  have hfi := kk.find k es.toList l hm w
  have hlen : es.toList.length = l.length := by simpa using congrArg List.length hm
  rcases fnd_is k l 0 with ⟨h1, h2, h3⟩ | ⟨u, j, h1, h2, h4, h5⟩
  · rw [h2] at hfi
    have hfk : f k = none := by rw [← hL.2.2.2]; exact h1
    rw [hfk]
    have F := setObj_facts (o := Obj.map (es.push { key := kk.ek k, val := z, born := clock }) (clock + 1)) (o' := .map es clock) hlt
    refine ⟨_, clock, by simp [Instr.mapEntry, run_underlying ht, MapKept.run_getObj_map hb, kk.check, hfi, Result.andThen, MapKept.run_setObj_map _ hb, hz, goInt], ⟨_, _, _, l.length, { key := kk.ek k, val := z, born := clock }, z, F.1, MapL.push kk hL h1 z, ?_, rfl, by simp, ?_⟩, F.2.1, F.2.2, by simp⟩
    · rw [Array.toList_push, ← hlen]; simp
    · intro j' p hj hp
      rw [List.getElem?_append_left hj] at hp
      exact h3 p (List.mem_of_getElem? hp)
  · have hjl : j < es.size := by have := (List.getElem?_eq_some_iff.1 h4).1
                                 have : es.toList.length = es.size := by simp
                                 omega
    have hfk : f k = some u := by rw [← hL.2.2.2]; exact h1
    rw [hfk]
    have hkey : es[j].key = kk.ek k := by
      have e1 : (es.toList.map (fun e => (e.key, e.val)))[j]? = (l.map (fun p => (kk.ek p.1, p.2)))[j]? := by rw [hm]
      simp [h4, Array.getElem?_eq_getElem hjl] at e1
      exact e1.1
    have hval : es[j].val = u := by
      have e1 : (es.toList.map (fun e => (e.key, e.val)))[j]? = (l.map (fun p => (kk.ek p.1, p.2)))[j]? := by rw [hm]
      simp [h4, Array.getElem?_eq_getElem hjl] at e1
      exact e1.2
    have hstay : ∀ w, (Instr.keyThatStays (kk.ek k) (kk.ek k)).run P w = .ok (kk.ek k) w := fun w => by simp [Instr.keyThatStays, kk.bits]
    have F := setObj_facts (o := Obj.map (es.modify j fun e => { e with key := kk.ek k }) clock) (o' := .map es clock) hlt
    rw [h2, Nat.zero_add] at hfi
    have hkk : (es.modify j fun e => { e with key := kk.ek k }) = (es.modify j fun e => { e with key := kk.ek k, val := u }) := by
      apply Array.ext'
      rw [Array.toList_modify, Array.toList_modify]
      apply List.ext_getElem?
      intro i
      simp only [List.getElem?_modify]
      by_cases hij : j = i
      · subst hij
        have : es.toList[j]? = some es[j] := by simp [Array.getElem?_eq_getElem hjl]
        rw [this]
        simp [hval]
      · simp [hij]
    have hP := MapL.put kk hL h4 h5 u (fun e => { e with key := kk.ek k, val := u }) (fun e _ => ⟨rfl, rfl, rfl⟩)
    rw [← hkk] at hP
    refine ⟨_, es[j].born, by simp [Instr.mapEntry, run_underlying ht, MapKept.run_getObj_map hb, kk.check, hfi, Result.andThen, MapKept.run_setObj_map _ hb, Array.getElem?_eq_getElem hjl, hkey, hstay, goInt], ⟨_, _, _, j, { es[j] with key := kk.ek k }, u, F.1, hP, ?_, rfl, ?_, ?_⟩, F.2.1, F.2.2, by simp⟩
    · rw [Array.toList_modify, List.getElem?_modify]
      have : es.toList[j]? = some es[j] := by simp [Array.getElem?_eq_getElem hjl]
      rw [this]; simp
    · rw [List.getElem?_set_self (List.getElem?_eq_some_iff.1 h4).1]
    · intro j' p hj hp
      rw [List.getElem?_set_ne (by omega)] at hp
      exact h5 j' p hj hp
/-- .. and the store -/
theorem run_entryStore_is {T : TypeId} {w : World} {r : Nat} {f : κ → Option Value} {k : κ} {s : Nat} (h : MapS kk w r f k s) (v : Value) :
    ∃ w', (Instr.entryStore T (.map (some r)) (.int .i64 ((s : Nat) : Int)) v).run P w = .ok () w' ∧ MapG kk w' r (fun k' => if k' = k then some v else f k') ∧ OnlyB r w w' := by
  obtain ⟨es, clock, l, j, e0, u, hb, hL, he, hs, hl, h5⟩ := h
  have hm := hL.1
  have hlt : r < w.heap.size := (Array.getElem?_eq_some_iff.1 hb).1
  have hfi : es.findIdx? (fun e => ((e.born : Nat) : Int) == ((s : Nat) : Int)) = some j := by
    rw [WideElems.findIdx_arr, ← hs]
    exact WideElems.findIdx_born hL.2.1 he
  have F := setObj_facts (o := Obj.map (es.modify j fun e => { e with val := v }) clock) (o' := .map es clock) hlt
  refine ⟨_, by simp [Instr.entryStore, MapKept.run_getObj_map hb, Result.andThen, hfi, asInt, asIntOf, MapKept.run_setObj_map _ hb], ⟨_, _, _, F.1, MapL.put kk hL hl h5 v _ (fun e he => ⟨he, rfl, rfl⟩)⟩, F.2.1, F.2.2, by simp⟩

theorem MapG.of_block {w w' : World} {r : Nat} {f : κ → Option Value} (h : MapG kk w r f) (hb : w'.heap[r]? = w.heap[r]?) : MapG kk w' r f := by
  obtain ⟨es, clock, l, h1, h2⟩ := h
  exact ⟨es, clock, l, hb.trans h1, h2⟩
theorem MapS.of_block {w w' : World} {r : Nat} {f : κ → Option Value} {k : κ} {s : Nat} (h : MapS kk w r f k s) (hb : w'.heap[r]? = w.heap[r]?) : MapS kk w' r f k s := by
  obtain ⟨es, clock, l, j, e, v, h1, h2⟩ := h
  exact ⟨es, clock, l, j, e, v, hb.trans h1, h2⟩
theorem MapS.lt {w : World} {r : Nat} {f : κ → Option Value} {k : κ} {s : Nat} (h : MapS kk w r f k s) : r < w.heap.size := by
  obtain ⟨es, clock, l, j, e, v, h1, h2⟩ := h
  exact (Array.getElem?_eq_some_iff.1 h1).1
theorem MapG.lt {w : World} {r : Nat} {f : κ → Option Value} (h : MapG kk w r f) : r < w.heap.size := by
  obtain ⟨es, clock, l, h1, h2⟩ := h
  exact (Array.getElem?_eq_some_iff.1 h1).1
theorem MapG.kept {w w' : World} {r : Nat} {f : κ → Option Value} (h : MapG kk w r f) (hk : Kept w w') : MapG kk w' r f := MapG.of_block kk h (hk.block r (MapG.lt kk h))
theorem MapS.kept {w w' : World} {r : Nat} {f : κ → Option Value} {k : κ} {s : Nat} (h : MapS kk w r f k s) (hk : Kept w w') : MapS kk w' r f k s := MapS.of_block kk h (hk.block r (MapS.lt kk h))
theorem MapG.new (w : World) : MapG kk (w.alloc (.map #[] 0)) w.heap.size (fun _ => none) :=
  ⟨#[], 0, [], heap_alloc_new w _, by simp [MapL, assoc]⟩
theorem MapG.congr {w : World} {r : Nat} {f g : κ → Option Value} (h : MapG kk w r f) (hg : ∀ k, f k = g k) : MapG kk w r g := by
  obtain ⟨es, clock, l, h1, h2, h3, h4, h5⟩ := h
  exact ⟨es, clock, l, h1, h2, h3, h4, fun k => (h5 k).trans (hg k)⟩
end
theorem Kept.only {w w1 w2 : World} {r : Nat} (h : Kept w w1) (ho : OnlyB r w1 w2) (hr : w.heap.size ≤ r) : Kept w w2 := Below.trans h (ho.1 _ hr)
end Go.Proofs.YtologmoanaccpaaGreatDoor

namespace Go.Proofs.YtologmoanaccpaaGreatDoor
set_option linter.all false
open Go Go.RowKit

theorem chk87 (b : Bool) (x y : Int) (w : World) : (Instr.checkKey b 10000 87 (.agg #[.int .u8 x, .int .u8 y])).run Tryz.prog w = .ok () w := by kernel_rfl
theorem chk30 (b : Bool) (x0 x1 x2 x3 x4 x5 : Int) (w : World) : (Instr.checkKey b 10000 30 (.agg #[.int .u8 x0, .int .u8 x1, .int .u8 x2, .int .u8 x3, .int .u8 x4, .int .u8 x5])).run Tryz.prog w = .ok () w := by kernel_rfl
theorem eql87 (x y x' y' : Int) (w : World) : (Op.equal 87 (.agg #[.int .u8 x, .int .u8 y]) (.agg #[.int .u8 x', .int .u8 y'])).run Tryz.prog w = .ok ((x == x') && (y == y')) w := by
  by_cases h1 : x = x' <;> by_cases h2 : y = y' <;> simp [Op.equal, Op.maxDepth, go_sem, h1, h2]
theorem eql30 (x0 x1 x2 x3 x4 x5 y0 y1 y2 y3 y4 y5 : Int) (w : World) : (Op.equal 30 (.agg #[.int .u8 x0, .int .u8 x1, .int .u8 x2, .int .u8 x3, .int .u8 x4, .int .u8 x5]) (.agg #[.int .u8 y0, .int .u8 y1, .int .u8 y2, .int .u8 y3, .int .u8 y4, .int .u8 y5])).run Tryz.prog w = .ok ((x0 == y0) && ((x1 == y1) && ((x2 == y2) && ((x3 == y3) && ((x4 == y4) && (x5 == y5)))))) w := by
  obtain ⟨i5, hi5, hz0, hz1, hz2⟩ := info_parts (P := Tryz.prog) (e := 5) (z := .int .u8 0) (size := 1) (bytes := 1) (by kernel_rfl)
  have hc : Tryz.prog.cellsOf 5 = 1 := by kernel_rfl
  have hp : ∀ (xs : Array Value) (j : Nat) (v : Value), xs[j]? = some v → (part 5 xs j).run Tryz.prog w = .ok v w := by
    intro xs j v h
    have ha : (isAgg 5).run Tryz.prog w = .ok false w := by kernel_rfl
    simp [part, ha, h]
  rw [show Op.equal = Op.equalIn Op.maxDepth from rfl, show Op.maxDepth = 9999 + 1 from rfl, run_equalIn_array w 9999 _ _ Tryz.underlying30 hi5, hc]
  have hl : List.range 6 = [0, 1, 2, 3, 4, 5] := rfl
  rw [hl]
  have q : ∀ a b : Int, (Op.equalIn 9999 5 (.int .u8 a) (.int .u8 b)).run Tryz.prog w = .ok (a == b) w := fun a b => run_equalIn_int w 9998 5 .u8 .u8 a b Tryz.underlying5
  simp only [Op.eqItems, Sem.run_bind, Nat.zero_mul, Nat.mul_one]
  rw [hp _ 0 (.int .u8 x0) rfl, Result.andThen_ok, hp _ 0 (.int .u8 y0) rfl]
  simp only [Result.andThen_ok, q]
  cases h0 : (x0 == y0)
  · simp
  simp only [Result.andThen_ok, Bool.not_true, Bool.false_eq_true, if_false, Sem.run_bind, Bool.true_and]
  rw [hp _ 1 (.int .u8 x1) rfl, Result.andThen_ok, hp _ 1 (.int .u8 y1) rfl]
  simp only [Result.andThen_ok, q]
  cases h1 : (x1 == y1)
  · simp
  simp only [Result.andThen_ok, Bool.not_true, Bool.false_eq_true, if_false, Sem.run_bind, Bool.true_and]
  rw [hp _ 2 (.int .u8 x2) rfl, Result.andThen_ok, hp _ 2 (.int .u8 y2) rfl]
  simp only [Result.andThen_ok, q]
  cases h2 : (x2 == y2)
  · simp
  simp only [Result.andThen_ok, Bool.not_true, Bool.false_eq_true, if_false, Sem.run_bind, Bool.true_and]
  rw [hp _ 3 (.int .u8 x3) rfl, Result.andThen_ok, hp _ 3 (.int .u8 y3) rfl]
  simp only [Result.andThen_ok, q]
  cases h3 : (x3 == y3)
  · simp
  simp only [Result.andThen_ok, Bool.not_true, Bool.false_eq_true, if_false, Sem.run_bind, Bool.true_and]
  rw [hp _ 4 (.int .u8 x4) rfl, Result.andThen_ok, hp _ 4 (.int .u8 y4) rfl]
  simp only [Result.andThen_ok, q]
  cases h4 : (x4 == y4)
  · simp
  simp only [Result.andThen_ok, Bool.not_true, Bool.false_eq_true, if_false, Sem.run_bind, Bool.true_and]
  rw [hp _ 5 (.int .u8 x5) rfl, Result.andThen_ok, hp _ 5 (.int .u8 y5) rfl]
  simp only [Result.andThen_ok, q]
  cases h5 : (x5 == y5)
  · simp
  · simp
def k87 : KeyG Tryz.prog Fd := eqlKeys (fun f => .agg #[.int .u8 f.sign, .int .u8 f.seen]) Tryz.underlying87 (fun a b => rfl)
  (fun a b w => by
    rw [eql87]
    congr 1
    rw [Bool.eq_iff_iff]
    obtain ⟨a1, a2⟩ := a
    obtain ⟨b1, b2⟩ := b
    simp) (fun a => by simp [Instr.sameBits]) (fun b a w => chk87 b _ _ w)
def k30 : KeyG Tryz.prog Sg := eqlKeys (fun s => .agg #[.int .u8 s.s0, .int .u8 s.s1, .int .u8 s.s2, .int .u8 s.s3, .int .u8 s.s4, .int .u8 s.s5]) Tryz.underlying30 (fun a b => rfl)
  (fun a b w => by
    rw [eql30]
    congr 1
    rw [Bool.eq_iff_iff]
    obtain ⟨a0, a1, a2, a3, a4, a5⟩ := a
    obtain ⟨b0, b1, b2, b3, b4, b5⟩ := b
    simp) (fun a => by simp [Instr.sameBits]) (fun b a w => chk30 b _ _ _ _ _ _ w)
def k3 : KeyG Tryz.prog Int := intKeys Tryz.underlying3
theorem zeroValue4 (w : World) : (zeroValue 4).run Tryz.prog w = .ok (.bool false) w := by kernel_rfl
theorem zeroValue22 (w : World) : (zeroValue 22).run Tryz.prog w = .ok (.slice none 0 0) w := by kernel_rfl

/-- whether something comes twice -/
def repB {α : Type} [DecidableEq α] (l : List α) : Bool := decide (¬ l.Nodup)
def seenF {α : Type} [DecidableEq α] (l : List α) (x : α) : Option Value := if x ∈ l then some (.bool true) else none
theorem seenF_snoc {α : Type} [DecidableEq α] (l : List α) (x : α) : ∀ k, (if k = x then some (Value.bool true) else seenF l k) = seenF (l ++ [x]) k := by
  intro k
  unfold seenF
  by_cases h : k = x
  · subst h; simp
  · simp [h]
theorem nodup_snoc {α : Type} {l : List α} {x : α} (h : l.Nodup) (hx : x ∉ l) : (l ++ [x]).Nodup := by
  rw [List.nodup_append]
  refine ⟨h, by simp, fun a ha b hb e => ?_⟩
  simp at hb
  subst hb; subst e
  exact hx ha
theorem rep_yes {α : Type} [DecidableEq α] {l : List α} {k : Nat} {x : α} (h : l[k]? = some x) (hx : x ∈ l.take k) : repB l = true := by
  unfold repB
  rw [decide_eq_true_eq]
  intro hn
  have hs : l = l.take k ++ l.drop k := (List.take_append_drop k l).symm
  rw [hs] at hn
  refine (List.nodup_append.1 hn).2.2 x hx x ?_ rfl
  rw [List.mem_iff_getElem?]
  exact ⟨0, by rw [List.getElem?_drop, Nat.add_zero]; exact h⟩
theorem rep_no {α : Type} [DecidableEq α] {l : List α} (h : l.Nodup) : repB l = false := by
  unfold repB; simp [h]

set_option maxRecDepth 100000 in
set_option maxHeartbeats 3200000 in
theorem repeats_fd (A : Option Addr) (n c : Nat) (xs : List Fd) (w : World) (hs : SlA fdC 2 Fd.ok w A n c xs) :
    Calls Tryz.prog 85 #[.slice A n c] w fun e w' => e = .returned (.bool (repB xs)) ∧ Kept w w' := by
  have HS := Lib.hid hs
  have hnc := hs.2.1
  have hcm := hs.2.2.1
  have hmm := @run_makeMap Tryz.prog
  have m0 := Lib.hid (MapG.new k87 w)
  clear hs
  go_enter Tryz.func85, Tryz.ntmps85
  go_wp2_with fail
  go_loopw [9] (fun i wr => ∃ k : Nat, k ≤ n ∧ i = .int .i64 k ∧ (xs.take k).Nodup ∧ MapG k87 wr w.heap.size (seenF (xs.take k)) ∧ Kept w wr) (fun i _ => n - (intOf i).toNat)
  case atStart => exact ⟨0, by omega, by first | rfl | go_num, by simp, MapG.congr k87 m0.out (fun k => by simp [seenF]), (Kept.refl _).alloc _⟩
  case round =>
    obtain ⟨k, hk, rfl, ho, hmap, hkr⟩ := hrel
    have Ho := Lib.hid ho
    have HKR := Lib.hid hkr
    have hsz := hkr.size
    clear ho hkr
    by_cases hlt : k < n
    · obtain ⟨x, hx⟩ : ∃ x, xs[k]? = some x := ⟨_, List.getElem?_eq_getElem (by rw [HS.out.1]; exact hlt)⟩
      obtain ⟨b, off, hA, ht⟩ := HS.out.2.2.2.2 (by omega)
      subst hA
      have hcc := fun j v hv => (HKR.out.cells _ _ (cell_lt (ht k x hx j v hv))).trans (ht k x hx j v hv)
      have c0 := hcc 0 _ rfl
      have c1 := hcc 1 _ rfl
      simp only [Nat.add_zero] at c0
      have Hx := Lib.hid hx
      have m2 := MapG.kept k87 hmap ((Kept.refl wr).alloc (.cells #[.int .u8 x.sign, .int .u8 x.seen] 87))
      clear hx ht hcc hmap
      by_cases hin : x ∈ xs.take k
      · have r2 := run_lookup_some k87 (T := 191) Tryz.underlying191 m2 (k := x) (v := .bool true) (by unfold seenF; rw [if_pos hin])
        simp only [k87, eqlKeys] at r2
        have HIN := Lib.hid hin
        clear hin m2
        go_wp2
        go_ret
        exact ⟨ret_bool (rep_yes Hx.out HIN.out).symm, HKR.out.alloc _⟩
      · have r2 := run_lookup_none k87 (T := 191) Tryz.underlying191 (z := .bool false) zeroValue4 m2 (k := x) (by unfold seenF; rw [if_neg hin])
        obtain ⟨w2, r3, m3, b3⟩ := run_mapUpdate_is k87 (T := 191) Tryz.underlying191 m2 x (.bool true)
        have M3 := Lib.hid (MapG.congr k87 m3 (seenF_snoc (xs.take k) x))
        have K3 := Lib.hid (Kept.only (HKR.out.alloc (.cells #[.int .u8 x.sign, .int .u8 x.seen] 87)) b3 (Nat.le_refl _))
        simp only [k87, eqlKeys] at r2 r3
        have HIN := Lib.hid hin
        clear hin m2 m3 b3
        go_wp2
        go_roundw
        case rel => exact ⟨k + 1, by omega, by go_num, by rw [take_snoc' Hx.out]; exact nodup_snoc Ho.out HIN.out, by rw [take_snoc' Hx.out]; exact M3.out, K3.out⟩
        case measure => simp [intOf]; omega
    · obtain rfl : k = n := by omega
      have hT : xs.take k = xs := List.take_of_length_le (by rw [HS.out.1]; exact Nat.le_refl _)
      have ho := Ho.out
      rw [hT] at ho
      have HO := Lib.hid ho
      clear hT ho
      go_wp2
      go_ret
      exact ⟨ret_bool (rep_no HO.out).symm, HKR.out⟩
end Go.Proofs.YtologmoanaccpaaGreatDoor

namespace Go.Proofs.YtologmoanaccpaaGreatDoor
set_option linter.all false
open Go Go.RowKit

theorem flat_at {α : Type} {enc : α → List Value} {k : Nat} (hk : ∀ x, (enc x).length = k) : ∀ (l : List α) (i : Nat) (x : α) (j : Nat) (v : Value), l[i]? = some x → (enc x)[j]? = some v → (l.flatMap enc)[i * k + j]? = some v
  | [], i, x, j, v, h, _ => by simp at h
  | y :: l, 0, x, j, v, h, hv => by
    simp at h; subst h
    rw [List.flatMap_cons, Nat.zero_mul, Nat.zero_add, List.getElem?_append_left (List.getElem?_eq_some_iff.1 hv).1, hv]
  | y :: l, i + 1, x, j, v, h, hv => by
    have ih := flat_at hk l i x j v (by simpa using h) hv
    rw [List.flatMap_cons, List.getElem?_append_right (by rw [hk, Nat.add_mul]; omega), hk, show (i + 1) * k + j - k = i * k + j by rw [Nat.add_mul]; omega]
    exact ih
theorem flat_snoc {α : Type} (enc : α → List Value) (l : List α) (x : α) : (l ++ [x]).flatMap enc = l.flatMap enc ++ enc x := by simp
theorem flat_len {α : Type} {enc : α → List Value} {k : Nat} (hk : ∀ x, (enc x).length = k) (l : List α) : (l.flatMap enc).length = l.length * k := by
  induction l with
  | nil => simp
  | cons x l ih => rw [List.flatMap_cons, List.length_append, ih, hk, List.length_cons, Nat.add_mul]; omega
/-- an own row of elements, as a slice -/
theorem own_sl {α : Type} {enc : α → List Value} {k : Nat} {ok : α → Prop} (hk : ∀ x, (enc x).length = k) {W : World} {B t : Nat} {v : Value} {l : List α} (h : W.ownsRow B t k v l.length (l.flatMap enc)) (ho : ∀ x ∈ l, ok x) : ∃ A c, v = .slice A l.length c ∧ SlA enc k ok W A l.length c l := by
  rcases h.2 with ⟨rfl, h0⟩ | ⟨g, cap, cur, rfl, hb, hh, h1, h2, _⟩
  · rw [h0]
    exact ⟨none, 0, rfl, ⟨h0, by omega, by omega, ho, fun h => absurd h (by omega)⟩⟩
  · refine ⟨some ⟨g, 0, none⟩, cap, rfl, rfl, h1, by unfold maxLen at h2; omega, ho, fun _ => ⟨g, 0, rfl, fun i x hx j u hu => ?_⟩⟩
    rw [Nat.zero_add]
    exact (own_rowC h _ _ (flat_at hk l i x j u hx hu)).1
theorem mkC_len (m : Mk) : (mkC m).length = 9 := rfl
theorem mk_one (m : Mk) : ∀ u ∈ mkC m, u.oneCell' = true := by
  intro u hu
  simp [mkC] at hu
  rcases hu with h | h | h | h | h | h | h | h | h <;> subst h <;> rfl
theorem own_only {w w' : World} {b r : Nat} {e : TypeId} {s : Nat} {v : Value} {n : Nat} {ys : List Value} (h : w.ownsRow b e s v n ys) (ho : OnlyB r w w') (hr : r < b) : w'.ownsRow b e s v n ys := by
  refine ⟨h.1, ?_⟩
  rcases h.2 with h0 | ⟨g, cap, cur, hv, hb, hh, hrr⟩
  · exact .inl h0
  · exact .inr ⟨g, cap, cur, hv, hb, (ho.2.1 g (by omega)).trans hh, hrr⟩
theorem OnlyB.refl (r : Nat) (w : World) : OnlyB r w w := ⟨fun B _ => Below.refl _ _, fun _ _ => rfl, rfl⟩
theorem rowC_only {w w' : World} {b r : Nat} {vs : List Value} (h : RowC w b vs) (ho : OnlyB r w w') (hne : b ≠ r) : RowC w' b vs := fun j v hv =>
  ⟨(World.cell?_of_block (a := ⟨b, j, none⟩) (ho.2.1 b hne)).trans (h j v hv).1, (World.frozen?_of_block (a := ⟨b, j, none⟩) (ho.2.1 b hne)).trans (h j v hv).2⟩
theorem own_ge {w : World} {b : Nat} {e : TypeId} {s : Nat} {v : Value} {n : Nat} {ys : List Value} (h : w.ownsRow b e s v n ys) {g : Nat} (hg : v.ownBlock = some g) : b ≤ g := by
  rcases h.2 with ⟨rfl, _⟩ | ⟨k, cap, cur, rfl, hb, hh, hr⟩
  · cases hg
  · injection hg with hg
    subst hg
    exact hb

/-- the marks of a key -/
def ofKey {κ : Type} [DecidableEq κ] (key : Mk → κ) (pre : List Mk) (k : κ) : List Mk := pre.filter fun m => decide (key m = k)
theorem ofKey_snoc {κ : Type} [DecidableEq κ] (key : Mk → κ) (pre : List Mk) (m : Mk) (k : κ) : ofKey key (pre ++ [m]) k = if k = key m then ofKey key pre k ++ [m] else ofKey key pre k := by
  unfold ofKey
  rw [List.filter_append]
  by_cases h : k = key m
  · subst h; simp
  · rw [if_neg h]
    simp [Ne.symm h]
/-- a map's rows: what lies under each key -/
structure Fam {κ : Type} [DecidableEq κ] (kk : KeyG Tryz.prog κ) (key : Mk → κ) (B r : Nat) (W : World) (pre : List Mk) (F : κ → Value) : Prop where
  map : MapG kk W r (fun k => if ofKey key pre k = [] then none else some (F k))
  own : ∀ k, W.ownsRow B 32 9 (F k) (ofKey key pre k).length ((ofKey key pre k).flatMap mkC)
  nil : ∀ k, ofKey key pre k = [] → F k = .slice none 0 0
  far : ∀ k k', k ≠ k' → Apart (F k) (F k')
section
variable {κ : Type} [DecidableEq κ] {kk : KeyG Tryz.prog κ} {key : Mk → κ} {B r : Nat} {W W1 W2 : World} {pre : List Mk} {F : κ → Value}
theorem Fam.kept (h : Fam kk key B r W pre F) (hk : Kept W W1) : Fam kk key B r W1 pre F :=
  ⟨MapG.kept kk h.map hk, fun k => own_kept (h.own k) hk, h.nil, h.far⟩
/-- what a write of another map's block leaves -/
theorem Fam.only (h : Fam kk key B r W pre F) {q : Nat} (ho : OnlyB q W W1) (hq : q < B) (hne : r ≠ q) : Fam kk key B r W1 pre F :=
  ⟨MapG.of_block kk h.map (ho.2.1 r hne), fun k => own_only (h.own k) ho hq, h.nil, h.far⟩
/-- what an append to a row that is apart leaves -/
theorem Fam.grown (h : Fam kk key B r W pre F) (hr : r < B) {v : Value} {n : Nat} {ys : List Value} (hv : W.ownsRow B 32 9 v n ys) (hg : W.grownBy W1 v.ownBlock) (ha : ∀ k, Apart (F k) v) : Fam kk key B r W1 pre F :=
  ⟨MapG.of_block kk h.map (hg.block r (MapG.lt kk h.map) (fun e => by have := own_ge hv e.symm; omega)), fun k => own_far (h.own k) hg (fun g hg' => (ha k g hg')), h.nil, h.far⟩
theorem Fam.lookup (h : Fam kk key B r W pre F) {T : Nat} (ht : Tryz.prog.underlying T = some (.map kk.K 22)) (k : κ) : (Instr.lookup T (.map (some r)) (kk.ek k) false).run Tryz.prog W = .ok (F k) W := by
  by_cases he : ofKey key pre k = []
  · rw [h.nil k he]
    exact run_lookup_none kk ht zeroValue22 h.map (by rw [if_pos he])
  · exact run_lookup_some kk ht h.map (by rw [if_neg he])
/-- one mark more under its key -/
theorem Fam.more (h : Fam kk key B r W pre F) (hr : r < B) {Wm : World} (h0 : OnlyB r W Wm) {m : Mk} {g c H : Nat} (hH : W.heap.size ≤ H)
    (hown : W1.ownsRow B 32 9 (.slice (some ⟨g, 0, none⟩) ((ofKey key pre (key m)).length + 1) c) ((ofKey key pre (key m)).length + 1) ((ofKey key pre (key m)).flatMap mkC ++ mkC m))
    (hg : Wm.grownBy W1 (F (key m)).ownBlock) (hat : (F (key m)).ownBlock = some g ∨ g = H)
    (hm : MapG kk W2 r (fun k => if k = key m then some (.slice (some ⟨g, 0, none⟩) ((ofKey key pre (key m)).length + 1) c) else (if ofKey key pre k = [] then none else some (F k)))) (ho : OnlyB r W1 W2) :
    Fam kk key B r W2 (pre ++ [m]) (fun k => if k = key m then .slice (some ⟨g, 0, none⟩) ((ofKey key pre (key m)).length + 1) c else F k) := by
  have hfar : ∀ k, k ≠ key m → Apart (.slice (some ⟨g, 0, none⟩) ((ofKey key pre (key m)).length + 1) c) (F k) := fun k hk =>
    Apart.next (H := H) (h.far (key m) k (Ne.symm hk)) (fun q hq => by have := own_lt (h.own k) hq; omega) hat
  refine ⟨MapG.congr kk hm (fun k => ?_), fun k => ?_, fun k hk => ?_, fun k k' hne => ?_⟩
  · rw [ofKey_snoc]
    by_cases e : k = key m
    · rw [if_pos e, if_pos e, if_neg (by simp), if_pos e]
    · rw [if_neg e, if_neg e]
      simp only [if_neg e]
  · rw [ofKey_snoc]
    by_cases e : k = key m
    · subst e
      rw [if_pos rfl, if_pos rfl, List.length_append, flat_snoc]
      exact own_only hown ho hr
    · rw [if_neg e, if_neg e]
      exact own_only (own_far (own_only (h.own k) h0 hr) hg (fun q hq => (h.far k (key m) e q hq))) ho hr
  · rw [ofKey_snoc] at hk
    by_cases e : k = key m
    · rw [if_pos e] at hk; simp at hk
    · rw [if_neg e] at hk ⊢; exact h.nil k hk
  · by_cases e : k = key m
    · rw [if_pos e, if_neg (by rw [← e]; exact Ne.symm hne)]
      exact hfar k' (by rw [← e]; exact Ne.symm hne)
    · by_cases e' : k' = key m
      · rw [if_neg e, if_pos e']
        exact (hfar k e).symm
      · rw [if_neg e, if_neg e']
        exact h.far k k' hne
/-- what is read of an entry -/
theorem Fam.getD (h : Fam kk key B r W pre F) (k : κ) : ((if ofKey key pre k = [] then none else some (F k)).getD (.slice none 0 0)) = F k := by
  by_cases e : ofKey key pre k = []
  · rw [if_pos e, h.nil k e]; rfl
  · rw [if_neg e]; rfl
end
theorem fam_new {κ : Type} [DecidableEq κ] (kk : KeyG Tryz.prog κ) (key : Mk → κ) {B r : Nat} {W : World} (h : MapG kk W r (fun _ => none)) : Fam kk key B r W [] (fun _ => .slice none 0 0) :=
  ⟨MapG.congr kk h (fun k => by simp [ofKey]), fun k => ⟨by simp [ofKey], .inl ⟨rfl, by simp [ofKey]⟩⟩, fun _ _ => rfl, fun k k' _ g hg => by cases hg⟩

def meetsB (m o : Mk) : Bool := decide (m.frm ≤ o.unt) && decide (o.frm ≤ m.unt)
/-- whether a mark clashes with one of those before it -/
def clashL (pre : List Mk) (m : Mk) : Bool := pre.any fun o => (decide (o.own = m.own) || decide (o.sg = m.sg)) && meetsB m o
def clashB (ms : List Mk) : Bool := (List.range ms.length).any fun k => match ms[k]? with | some m => clashL (ms.take k) m | none => false
theorem clash_yes {ms : List Mk} {k : Nat} {m : Mk} (h : ms[k]? = some m) (hc : clashL (ms.take k) m = true) : clashB ms = true := by
  unfold clashB
  rw [List.any_eq_true]
  exact ⟨k, List.mem_range.2 (List.getElem?_eq_some_iff.1 h).1, by rw [h]; exact hc⟩
theorem clash_no {ms : List Mk} (h : ∀ (k : Nat) m, ms[k]? = some m → clashL (ms.take k) m = false) : clashB ms = false := by
  unfold clashB
  rw [List.any_eq_false]
  intro k hk
  cases hm : ms[k]? with
  | none => simp
  | some m => simp [h k m hm]
theorem clashL_or (pre : List Mk) (m : Mk) : clashL pre m = ((ofKey Mk.own pre m.own).any (meetsB m) || (ofKey Mk.sg pre m.sg).any (meetsB m)) := by
  unfold clashL ofKey
  rw [Bool.eq_iff_iff]
  simp only [List.any_eq_true, Bool.or_eq_true, List.mem_filter, decide_eq_true_eq, Bool.and_eq_true]
  constructor
  · rintro ⟨o, ho, h1 | h1, h2⟩
    · exact .inl ⟨o, ⟨ho, h1⟩, h2⟩
    · exact .inr ⟨o, ⟨ho, h1⟩, h2⟩
  · rintro (⟨o, ⟨ho, h1⟩, h2⟩ | ⟨o, ⟨ho, h1⟩, h2⟩)
    · exact ⟨o, ho, .inl h1, h2⟩
    · exact ⟨o, ho, .inr h1, h2⟩
theorem e153 : ∀ args w, (callFunc 153 args).run Tryz.prog w = .ok (.enter 153 args) w := enters_of Tryz.func153 (by kernel_rfl) rfl
set_option maxRecDepth 100000 in
theorem pred153 (bm : Nat) (m : Mk) (w : World) (h : RowC w bm (mkC m)) : PredG mkC Mk.ok 153 #[.pointer (some ⟨bm, 0, none⟩)] (meetsB m) w := by
  intro W o ho hk
  have r := h.kept hk
  have c1 := (r 1 _ rfl).1
  have c2 := (r 2 _ rfl).1
  have lc := cell_lt c1
  clear r
  show Calls Tryz.prog 153 #[.agg (mkC o).toArray, .pointer (some ⟨bm, 0, none⟩)] W _
  unfold mkC
  obtain ⟨b1, hb1⟩ : ∃ b, decide (m.frm ≤ o.unt) = b := ⟨_, rfl⟩
  obtain ⟨b2, hb2⟩ : ∃ b, decide (o.frm ≤ m.unt) = b := ⟨_, rfl⟩
  have HB : RowKit.Hid (meetsB m o = (b1 && b2)) := Lib.hid (by unfold meetsB; rw [hb1, hb2])
  cases b1
  · clear hb2
    go_enter Tryz.func153, Tryz.ntmps153
    go_wp2
    go_ret
    exact ⟨ret_bool (by rw [HB.out]; rfl), (Kept.refl _).alloc _⟩
  cases b2
  all_goals
    go_enter Tryz.func153, Tryz.ntmps153
    go_wp2
    go_ret
    exact ⟨ret_bool (by rw [HB.out]; rfl), (Kept.refl _).alloc _⟩
end Go.Proofs.YtologmoanaccpaaGreatDoor

namespace Go.Proofs.YtologmoanaccpaaGreatDoor
set_option linter.all false
open Go Go.RowKit

theorem info32 : (Tryz.prog.info? 32).map (fun i => (i.zero, i.size, i.bytes)) = some (some (.agg #[.int .i64 0, .int .i64 0, .int .i64 0, .int .u8 0, .int .u8 0, .int .u8 0, .int .u8 0, .int .u8 0, .int .u8 0]), 9, 32) := by kernel_rfl
theorem rowC_grown {W W' : World} {row : Option Nat} {b : Nat} {vs : List Value} (h : RowC W b vs) (hg : W.grownBy W' row) (hne : row ≠ some b) : RowC W' b vs := fun j v hv => by
  have hlt := cell_lt (h j v hv).1
  have hb := hg.block b hlt (fun e => hne e.symm)
  exact ⟨(World.cell?_of_block (a := ⟨b, j, none⟩) hb).trans (h j v hv).1, (World.frozen?_of_block (a := ⟨b, j, none⟩) hb).trans (h j v hv).2⟩
set_option maxRecDepth 100000 in
set_option maxHeartbeats 6400000 in
theorem clashing_any (A : Option Addr) (n c : Nat) (xs : List Mk) (w : World) (hn : n ≤ 1000) (hs : SlA mkC 9 Mk.ok w A n c xs) :
    Calls Tryz.prog 86 #[.slice A n c] w fun e w' => e = .returned (.bool (clashB xs)) ∧ Kept w w' := by
  obtain ⟨i0, hi0, hz0, hz1, hz2⟩ := info_parts info32
  have HS := Lib.hid hs
  have hnc := hs.2.1
  have hcm := hs.2.2.1
  have hmm := @run_makeMap Tryz.prog
  have hmf : ∀ (fn : Fn) (first cap : Array Value) (w : World), (Instr.makeFunc fn first cap).run Tryz.prog w = .ok (.func fn first cap) w := fun _ _ _ _ => rfl
  have m0 := MapG.new k3 w
  have m1 := MapG.new k30 (w.alloc (.map #[] 0))
  rw [World.size_alloc] at m1
  have F0 := Lib.hid (fam_new k3 Mk.own (B := w.heap.size + 2) (MapG.kept k3 m0 ((Kept.refl _).alloc (.map #[] 0))))
  have G0 := Lib.hid (fam_new k30 Mk.sg (B := w.heap.size + 2) m1)
  clear hs m0 m1
  go_enter Tryz.func86, Tryz.ntmps86
  go_wp2_with fail
  go_loopw [12] (fun i wr => ∃ (k : Nat) (F : Int → Value) (G : Sg → Value), k ≤ n ∧ i = .int .i64 k ∧ (∀ j m, j < k → xs[j]? = some m → clashL (xs.take j) m = false) ∧ Fam k3 Mk.own (w.heap.size + 2) w.heap.size wr (xs.take k) F ∧ Fam k30 Mk.sg (w.heap.size + 2) (w.heap.size + 1) wr (xs.take k) G ∧ (∀ o s, Apart (F o) (G s)) ∧ Kept w wr ∧ w.heap.size + 2 ≤ wr.heap.size) (fun i _ => n - (intOf i).toNat)
  case atStart => exact ⟨0, _, _, by omega, by first | rfl | go_num, fun j x hj => by omega, F0.out, G0.out, (fun o s g hg => by cases hg), ((Kept.refl _).alloc _).alloc _, by simp⟩
  case round =>
    obtain ⟨k, F, G, hk, rfl, ho, hF, hG, hFG, hkr, hsz⟩ := hrel
    have Ho := Lib.hid ho
    have HKR := Lib.hid hkr
    have HF := Lib.hid hF
    have HG := Lib.hid hG
    have HFG := Lib.hid hFG
    clear ho hkr hF hG hFG
    by_cases hlt : k < n
    · obtain ⟨x, hx⟩ : ∃ x, xs[k]? = some x := ⟨_, List.getElem?_eq_getElem (by rw [HS.out.1]; exact hlt)⟩
      have hok : ∀ m ∈ xs.take k, m.ok := fun m hm => HS.out.2.2.2.1 m (List.mem_of_mem_take hm)
      have hokF : ∀ o, ∀ m ∈ ofKey Mk.own (xs.take k) o, m.ok := fun o m hm => hok m ((List.mem_filter.1 hm).1)
      have hokG : ∀ o, ∀ m ∈ ofKey Mk.sg (xs.take k) o, m.ok := fun o m hm => hok m ((List.mem_filter.1 hm).1)
      obtain ⟨b, off, hA, ht⟩ := HS.out.2.2.2.2 (by omega)
      subst hA
      have hcc := fun j v hv => (HKR.out.cells _ _ (cell_lt (ht k x hx j v hv))).trans (ht k x hx j v hv)
      have c0 := hcc 0 _ rfl
      have c1 := hcc 1 _ rfl
      have c2 := hcc 2 _ rfl
      have c3 := hcc 3 _ rfl
      have c4 := hcc 4 _ rfl
      have c5 := hcc 5 _ rfl
      have c6 := hcc 6 _ rfl
      have c7 := hcc 7 _ rfl
      have c8 := hcc 8 _ rfl
      simp only [Nat.add_zero] at c0
      have Hx := Lib.hid hx
      obtain ⟨Wa, hWa⟩ : ∃ Wa, Wa = wr.alloc (.cells #[.int .i64 x.own, .int .i64 x.frm, .int .i64 x.unt, .int .u8 x.sg.s0, .int .u8 x.sg.s1, .int .u8 x.sg.s2, .int .u8 x.sg.s3, .int .u8 x.sg.s4, .int .u8 x.sg.s5] 32) := ⟨_, rfl⟩
      have KA := Lib.hid (show Kept wr Wa by rw [hWa]; exact (Kept.refl _).alloc _)
      have RA := Lib.hid (show RowC Wa wr.heap.size (mkC x) by rw [hWa]; exact RowC.new wr (mkC x) 32)
      have HWa := Lib.hid hWa
      have FA := Lib.hid (HF.out.kept KA.out)
      have GA := Lib.hid (HG.out.kept KA.out)
      have l1 := FA.out.lookup (T := 192) Tryz.underlying192 x.own
      obtain ⟨A1, c1', e1, s1⟩ := own_sl mkC_len (FA.out.own x.own) (hokF x.own)
      obtain ⟨A2, c2', e2, s2⟩ := own_sl mkC_len (GA.out.own x.sg) (hokG x.sg)
      rw [e1] at l1
      obtain ⟨q1, hq1⟩ : ∃ q, (ofKey Mk.own (xs.take k) x.own).any (meetsB x) = q := ⟨_, rfl⟩
      obtain ⟨q2, hq2⟩ : ∃ q, (ofKey Mk.sg (xs.take k) x.sg).any (meetsB x) = q := ⟨_, rfl⟩
      have HQ : RowKit.Hid (clashL (xs.take k) x = (q1 || q2)) := Lib.hid (by rw [clashL_or, hq1, hq2])
      have H1 : RowKit.Hid (∀ W, Kept Wa W → Calls Tryz.prog 154 #[.slice A1 (ofKey Mk.own (xs.take k) x.own).length c1', .func (.func 153) #[] #[.pointer (some ⟨wr.heap.size, 0, none⟩)]] W fun e w' => e = .returned (.bool q1) ∧ Kept W w') := Lib.hid (fun W hW => by
        rw [← hq1]; exact contains_mk 153 _ _ e153 _ _ _ _ W (s1.kept hW) (pred153 _ _ _ (RA.out.kept hW)))
      have H2 : RowKit.Hid (∀ W, Kept Wa W → Calls Tryz.prog 154 #[.slice A2 (ofKey Mk.sg (xs.take k) x.sg).length c2', .func (.func 153) #[] #[.pointer (some ⟨wr.heap.size, 0, none⟩)]] W fun e w' => e = .returned (.bool q2) ∧ Kept W w') := Lib.hid (fun W hW => by
        rw [← hq2]; exact contains_mk 153 _ _ e153 _ _ _ _ W (s2.kept hW) (pred153 _ _ _ (RA.out.kept hW)))
      have E1 := Lib.hid e1
      have E2 := Lib.hid e2
      simp only [k3, intKeys] at l1
      clear hx ht hcc hWa hok hokF hokG e1 e2 s1 s2 hq1 hq2
      go_upto_region 5 with (fail)
      rw [← HWa.out]
      have ra := RA.out
      have a0 := (ra 0 _ rfl).1
      have a1 := (ra 1 _ rfl).1
      have a2 := (ra 2 _ rfl).1
      have a3 := (ra 3 _ rfl).1
      have a4 := (ra 4 _ rfl).1
      have a5 := (ra 5 _ rfl).1
      have a6 := (ra 6 _ rfl).1
      have a7 := (ra 7 _ rfl).1
      have a8 := (ra 8 _ rfl).1
      have la := cell_lt a0
      clear ra
      go_wp2_with fail
      refine (H1.out _ (Kept.refl _)).mono ?_
      rintro e w1 ⟨rfl, hk1⟩
      have K1 := Lib.hid hk1
      clear l1 a0 a1 a2 a3 a4 a5 a6 a7 a8 la
      cases q1
      · have ra := RA.out.kept hk1
        have a0 := (ra 0 _ rfl).1
        have a1 := (ra 1 _ rfl).1
        have a2 := (ra 2 _ rfl).1
        have a3 := (ra 3 _ rfl).1
        have a4 := (ra 4 _ rfl).1
        have a5 := (ra 5 _ rfl).1
        have a6 := (ra 6 _ rfl).1
        have a7 := (ra 7 _ rfl).1
        have a8 := (ra 8 _ rfl).1
        have la := cell_lt a0
        have l2 := (GA.out.kept hk1).lookup (T := 193) Tryz.underlying193 x.sg
        rw [E2.out] at l2
        simp only [k30, eqlKeys] at l2
        clear hk1 ra
        go_wp2_with fail
        refine (H2.out _ K1.out).mono ?_
        rintro e w2 ⟨rfl, hk2⟩
        have K2 := Lib.hid (K1.out.trans hk2)
        clear l2 a0 a1 a2 a3 a4 a5 a6 a7 a8 la hk2
        cases q2
        · have KC := Lib.hid (KA.out.trans K2.out)
          have FC := Lib.hid (FA.out.kept K2.out)
          have GC := Lib.hid (GA.out.kept K2.out)
          have RC := Lib.hid (RA.out.kept K2.out)
          have hsz2 := KC.out.size
          have hno : (ofKey Mk.own (xs.take k) x.own).length ≤ 1000 := Nat.le_trans (List.length_filter_le _ _) (by rw [List.length_take]; omega)
          have hns : (ofKey Mk.sg (xs.take k) x.sg).length ≤ 1000 := Nat.le_trans (List.length_filter_le _ _) (by rw [List.length_take]; omega)
          obtain ⟨N1, hN1⟩ : ∃ N, (ofKey Mk.own (xs.take k) x.own).length = N := ⟨_, rfl⟩
          obtain ⟨N2, hN2⟩ : ∃ N, (ofKey Mk.sg (xs.take k) x.sg).length = N := ⟨_, rfl⟩
          rw [hN1] at hno
          rw [hN2] at hns
          have HN1 := Lib.hid hN1
          have HN2 := Lib.hid hN2
          have e1 := E1.out
          have e2 := E2.out
          rw [hN1] at e1
          rw [hN2] at e2
          rw [hN1, hN2]
          have EE1 := Lib.hid e1
          have EE2 := Lib.hid e2
          clear hN1 hN2 e1 e2
          go_wp2_with fail
          go_cut [] (fun wx => ∃ (F' : Int → Value), Fam k3 Mk.own (w.heap.size + 2) w.heap.size wx (xs.take k ++ [x]) F' ∧ (∀ o s, Apart (F' o) (G s)) ∧ Fam k30 Mk.sg (w.heap.size + 2) (w.heap.size + 1) wx (xs.take k) G ∧ RowC wx wr.heap.size (mkC x) ∧ Kept w wx ∧ w2.heap.size ≤ wx.heap.size)
          case first =>
            have rc := RC.out
            have a0 := (rc 0 _ rfl).1
            have a1 := (rc 1 _ rfl).1
            have a2 := (rc 2 _ rfl).1
            have a3 := (rc 3 _ rfl).1
            have a4 := (rc 4 _ rfl).1
            have a5 := (rc 5 _ rfl).1
            have a6 := (rc 6 _ rfl).1
            have a7 := (rc 7 _ rfl).1
            have a8 := (rc 8 _ rfl).1
            have la := cell_lt a0
            have kd : Kept w2 w2.drew := (Kept.refl _).drew
            have kda : Kept w2 (w2.alloc (.cells #[.int .i64 x.own, .int .i64 x.frm, .int .i64 x.unt, .int .u8 x.sg.s0, .int .u8 x.sg.s1, .int .u8 x.sg.s2, .int .u8 x.sg.s3, .int .u8 x.sg.s4, .int .u8 x.sg.s5] 32)).drew := ((Kept.refl _).alloc _).drew
            have l1 := (FC.out.kept kd).lookup (T := 192) Tryz.underlying192 x.own
            have l2 := (FC.out.kept kda).lookup (T := 192) Tryz.underlying192 x.own
            rw [EE1.out] at l1 l2
            simp only [k3, intKeys] at l1 l2
            have FD := Lib.hid (FC.out.kept kda)
            have OD := FD.out.own x.own
            rw [HN1.out, EE1.out] at OD
            have HOD := Lib.hid OD
            have HNW := Lib.hid (news_of (W := w2) (cs := mkC x) (t := 32) (m := w2.heap.size) rfl)
            have HA3 : RowKit.Hid (N1 + 1 ≤ maxLen) := Lib.hid (by unfold maxLen; omega)
            have HA4 : RowKit.Hid ((N1 + 1) * 32 ≤ 140737488355328) := Lib.hid (by omega)
            have HNE : RowKit.Hid ((Value.slice A1 N1 c1').ownBlock ≠ some wr.heap.size) := Lib.hid (fun e => by
              have h1 := own_lt (HF.out.own x.own) (g := wr.heap.size)
              have h2 : F x.own = .slice A1 N1 c1' := EE1.out
              rw [h2] at h1
              exact absurd (h1 e) (by omega))
            clear rc kd OD
            go_region_law (first
              | (refine step_append_lies _ (by rfl) (.tmp 37) (.tmp 39) 22 (by rfl) (w.heap.size + 2) 32 i0 _ 9 32 Tryz.underlying22 hi0 hz0 hz1 hz2 rfl (by omega) _ N1 _ (by rfl) HOD.out ⟨w2.heap.size, 0, none⟩ 1 1 (mkC x) (by rfl) (by rfl) HNW.out (mk_one x) (by omega) HA3.out HA4.out (by have := HKR.out.size; simp; omega) (w2.heap.size + 1) (by simp) ?_; intro g cap w6 hown6 hgrow6 hat6 hlt6
                 obtain ⟨w7, r7, m7, b7⟩ := run_mapUpdate_is k3 (T := 192) Tryz.underlying192 (MapG.of_block k3 FD.out.map (hgrow6.block _ (MapG.lt k3 FD.out.map) (fun e => by have := own_ge HOD.out e.symm; omega))) x.own (.slice (some ⟨g, 0, none⟩) (N1 + 1) cap)
                 simp only [k3, intKeys] at r7
                 have r6 := rowC_grown (RC.out.kept kda) hgrow6 (fun e => HNE.out e)
                 have d0 := (r6 0 _ rfl).1)
              | fail)
            all_goals go_wp2
            all_goals go_meet
            all_goals
              have EF : F x.own = .slice A1 N1 c1' := EE1.out
              have NF : (ofKey Mk.own (xs.take k) (Mk.own x)).length = N1 := HN1.out
              refine ⟨_, FD.out.more (by omega) (OnlyB.refl _ _) (m := x) (g := g) (c := cap) (H := w2.heap.size + 1) (by simp) (by rw [NF]; exact hown6) (by rw [EF]; exact hgrow6) (by rw [EF]; exact hat6) (by rw [NF]; exact m7) b7, ?_, ((GC.out.kept kda).grown (by omega) HOD.out hgrow6 (fun s => by have := (HFG.out x.own s).symm; rw [EF] at this; exact this)).only b7 (by omega) (by omega), rowC_only r6 b7 (by omega), (((HKR.out.trans KC.out).trans kda).grown hgrow6 (fun q hq => by have := own_ge HOD.out hq; omega)).only b7 (Nat.le_refl _), ?_⟩
              · intro o s
                by_cases e : o = x.own
                · rw [if_pos e]
                  exact Apart.next (H := w2.heap.size + 1) (by have := HFG.out x.own s; rw [EF] at this; exact this) (fun q hq => by have := own_lt (GC.out.own s) hq; omega) hat6
                · rw [if_neg e]; exact HFG.out o s
              · have h1 := hgrow6.size
                have h2 := b7.2.2
                simp at h1
                omega
          case rest =>
            obtain ⟨F', hF', hFG', hG', hR', hK', hS'⟩ := hcut
            obtain ⟨wd, rfl⟩ : ∃ wd, wd = wc := ⟨_, rfl⟩
            have a0 := (hR' 0 _ rfl).1
            have a1 := (hR' 1 _ rfl).1
            have a2 := (hR' 2 _ rfl).1
            have a3 := (hR' 3 _ rfl).1
            have a4 := (hR' 4 _ rfl).1
            have a5 := (hR' 5 _ rfl).1
            have a6 := (hR' 6 _ rfl).1
            have a7 := (hR' 7 _ rfl).1
            have a8 := (hR' 8 _ rfl).1
            have la := cell_lt a0
            have ka : Kept wd (wd.alloc (.cells #[.int .i64 x.own, .int .i64 x.frm, .int .i64 x.unt, .int .u8 x.sg.s0, .int .u8 x.sg.s1, .int .u8 x.sg.s2, .int .u8 x.sg.s3, .int .u8 x.sg.s4, .int .u8 x.sg.s5] 32)) := (Kept.refl _).alloc _
            obtain ⟨w4, s, r4, m4, b4⟩ := run_mapEntry_is k30 (T := 193) Tryz.underlying193 zeroValue22 (MapG.kept k30 hG'.map ka) x.sg
            have g4 := hG'.getD x.sg
            have EG : G x.sg = .slice A2 N2 c2' := EE2.out
            have NG : (ofKey Mk.sg (xs.take k) (Mk.sg x)).length = N2 := HN2.out
            rw [g4, EG] at r4
            simp only [k30, eqlKeys] at r4
            have OD := own_only (own_kept (hG'.own x.sg) ka) b4 (by omega)
            rw [NG, EG] at OD
            have HOD := Lib.hid OD
            have HNW : RowKit.Hid (∀ j u, (mkC x)[j]? = some u → w4.cell? ((⟨wd.heap.size, 0, none⟩ : Addr).add j) = some u) := Lib.hid (fun j u hu => by
              rw [addr_add, Nat.zero_add]
              exact (rowC_only (RowC.new wd (mkC x) 32) b4 (by omega) j u hu).1)
            have HA3 : RowKit.Hid (N2 + 1 ≤ maxLen) := Lib.hid (by unfold maxLen; omega)
            have HA4 : RowKit.Hid ((N2 + 1) * 32 ≤ 140737488355328) := Lib.hid (by omega)
            have hz4 := b4.2.2
            have HB4 : RowKit.Hid (w.heap.size + 2 ≤ w4.heap.size) := Lib.hid (by rw [hz4]; simp; omega)
            have HF' := Lib.hid hF'
            have HG' := Lib.hid hG'
            have HFG' := Lib.hid hFG'
            have HK' := Lib.hid hK'
            have KAx := Lib.hid ka
            have M4 := Lib.hid m4
            have B4 := Lib.hid b4
            have EGx := Lib.hid EG
            have NGx := Lib.hid NG
            clear hF' hG' hFG' hR' hK' ka m4 b4 g4 OD hz4 EG NG
            go_wp2_with (at_builtin; refine wpList_append_lies _ rfl (.tmp 44) (.tmp 46) 22 rfl (w.heap.size + 2) 32 i0 _ 9 32 Tryz.underlying22 hi0 hz0 hz1 hz2 rfl (by decide) _ N2 _ rfl HOD.out ⟨wd.heap.size, 0, none⟩ 1 1 (mkC x) rfl rfl HNW.out (mk_one x) (by decide) HA3.out HA4.out HB4.out _ rfl ?_; intro g2 cap2 w6 hown6 hgrow6 hat6 hlt6
                         have M6 := Lib.hid (MapS.of_block k30 M4.out (hgrow6.block _ (MapS.lt k30 M4.out) (fun e => by have := own_ge HOD.out e.symm; omega)))
                         obtain ⟨w7, r7, m7, b7⟩ := run_entryStore_is k30 (T := 193) M6.out (.slice (some ⟨g2, 0, none⟩) (N2 + 1) cap2)
                         have HOW6 := Lib.hid hown6
                         have HGR6 := Lib.hid hgrow6
                         have HAT6 := Lib.hid hat6
                         have M7 := Lib.hid m7
                         have B7 := Lib.hid b7
                         clear hown6 hgrow6 hat6 hlt6 m7 b7)
            go_roundw
            case rel =>
              have EG := EGx.out
              have NG := NGx.out
              have hb4 := B4.out
              have hb7 := B7.out
              have hg6 := HGR6.out
              have hz4 := hb4.2.2
              have hz7 := hb7.2.2
              have hz6 := hg6.size
              simp at hz4
              refine ⟨k + 1, F', (fun q => if q = x.sg then .slice (some ⟨g2, 0, none⟩) (N2 + 1) cap2 else G q), by omega, by go_num, ?_, ?_, ?_, ?_, ?_, by omega⟩
              · intro j m hj hm
                rcases Nat.lt_or_eq_of_le (Nat.le_of_lt_succ hj) with h | h
                · exact Ho.out j m h hm
                · subst h
                  have := Hx.out
                  rw [hm] at this
                  cases this
                  rw [HQ.out]; rfl
              · rw [take_snoc' Hx.out]
                exact (((HF'.out.kept KAx.out).only hb4 (by omega) (by omega)).grown (by omega) HOD.out hg6 (fun o => by have := HFG'.out o x.sg; rw [EG] at this; exact this)).only hb7 (by omega) (by omega)
              · rw [take_snoc' Hx.out]
                have hm7 : MapG k30 w7 (w.heap.size + 1) (fun k' => if k' = Mk.sg x then some (.slice (some ⟨g2, 0, none⟩) ((ofKey Mk.sg (xs.take k) (Mk.sg x)).length + 1) cap2) else (if ofKey Mk.sg (xs.take k) k' = [] then none else some (G k'))) := by
                  rw [NG]
                  refine MapG.congr k30 M7.out (fun k' => ?_)
                  by_cases e : k' = x.sg
                  · rw [if_pos e, if_pos e]
                  · rw [if_neg e, if_neg e, if_neg e]
                have h8 := (HG'.out.kept KAx.out).more (by omega) hb4 (m := x) (g := g2) (c := cap2) (H := w4.heap.size) (by simp; omega) (by rw [NG]; exact HOW6.out) (by rw [EG]; exact hg6) (by rw [EG]; exact HAT6.out) hm7 hb7
                rw [NG] at h8
                exact h8
              · intro o q
                by_cases e : q = x.sg
                · simp only [if_pos e]
                  exact (Apart.next (H := w4.heap.size) (by have := (HFG'.out o x.sg).symm; rw [EG] at this; exact this) (fun p hp => own_lt (own_only (own_kept (HF'.out.own o) KAx.out) hb4 (by omega)) hp) HAT6.out).symm
                · simp only [if_neg e]; exact HFG'.out o q
              · exact (((HK'.out.trans KAx.out).only hb4 (by omega)).grown hg6 (fun p hp => by have := own_ge HOD.out hp; omega)).only hb7 (by omega)
            case measure => simp [intOf]; omega
        · go_wp2
          go_ret
          exact ⟨ret_bool (clash_yes Hx.out (by rw [HQ.out]; rfl)).symm, HKR.out.trans (KA.out.trans K2.out)⟩
      · clear hk1
        go_wp2
        go_ret
        exact ⟨ret_bool (clash_yes Hx.out (by rw [HQ.out]; rfl)).symm, HKR.out.trans (KA.out.trans K1.out)⟩
    · obtain rfl : k = n := by omega
      go_wp2
      go_ret
      exact ⟨ret_bool (clash_no (fun j m hm => Ho.out j m (by rw [← HS.out.1]; exact (List.getElem?_eq_some_iff.1 hm).1) hm)).symm, HKR.out⟩
end Go.Proofs.YtologmoanaccpaaGreatDoor
