/-
  maps that a call has made, with keys of any kind: what each key holds; lookups, updates, entries that are appended to
-/
import Derived.Test.YtologmoanaccpaaGreatDoorMe
import Derived.Maps.OwnOps
import Derived.Shelf.Abstract
import Derived.Laws.StructEq
import Derived.ChangeKeysEq
import Derived.OwnWalk
import Derived.WideKeyEntry
namespace Go.Proofs.YtologmoanaccpaaGreatDoor
set_option linter.all false
open Go Go.RowKit

def assoc {κ : Type} [DecidableEq κ] : List (κ × Value) → κ → Option Value
  | [], _ => none
  | (a, v) :: l, k => if k = a then some v else assoc l k
def fnd {κ : Type} [DecidableEq κ] : List (κ × Value) → κ → Nat → Option (Nat × Value)
  | [], _, _ => none
  | (a, v) :: l, k, i => if k = a then some (i, v) else fnd l k (i + 1)
theorem fnd_is {κ : Type} [DecidableEq κ] (k : κ) : ∀ (l : List (κ × Value)) (i : Nat),
    (assoc l k = none ∧ fnd l k i = none ∧ ∀ p ∈ l, p.1 ≠ k) ∨ (∃ v j, assoc l k = some v ∧ fnd l k i = some (i + j, v) ∧ l[j]? = some (k, v) ∧ ∀ j' p, j' < j → l[j']? = some p → p.1 ≠ k)
  | [], i => .inl ⟨rfl, rfl, fun p hp => by cases hp⟩
  | (a, v) :: l, i => by
    by_cases hka : k = a
    · subst hka
      exact .inr ⟨v, 0, by simp [assoc], by simp [fnd], by simp, fun j' p hj => by omega⟩
    · rcases fnd_is k l (i + 1) with ⟨h1, h2, h3⟩ | ⟨u, j, h1, h2, h3, h4⟩
      · refine .inl ⟨by simp [assoc, hka, h1], by simp [fnd, hka, h2], fun p hp => ?_⟩
        rcases List.mem_cons.1 hp with rfl | hp
        · exact fun e => hka e.symm
        · exact h3 p hp
      · refine .inr ⟨u, j + 1, by simp [assoc, hka, h1], by simp [fnd, hka, h2]; omega, by simpa using h3, ?_⟩
        intro j' p hj hp
        cases j' with
        | zero => simp at hp; subst hp; exact fun e => hka e.symm
        | succ j' => exact h4 j' p (by omega) (by simpa using hp)

/-- how keys stand as values, and are found -/
structure KeyG (P : Program) (κ : Type) [DecidableEq κ] where
  K : TypeId
  ek : κ → Value
  find : ∀ (k : κ) (es : List MapEntry) (l : List (κ × Value)), es.map (fun e => (e.key, e.val)) = l.map (fun p => (ek p.1, p.2)) → ∀ w, (Instr.findKey K (ek k) es).run P w = .ok (fnd l k 0) w
  bits : ∀ a, Instr.sameBits 10000 (ek a) (ek a) = true
  check : ∀ (b : Bool) (a : κ) (w : World), (Instr.checkKey b 10000 K (ek a)).run P w = .ok () w

theorem findNow_is {κ : Type} [DecidableEq κ] {kd : TypeDesc} {ek : κ → Value} (same : ∀ a b, Instr.sameNow kd (ek a) (ek b) = some (decide (a = b))) (k : κ) : ∀ (es : List MapEntry) (l : List (κ × Value)) (i : Nat), es.map (fun e => (e.key, e.val)) = l.map (fun p => (ek p.1, p.2)) →
    Instr.findNow kd (ek k) es i = some (fnd l k i)
  | [], [], _, _ => rfl
  | [], _ :: _, _, h => by simp at h
  | _ :: _, [], _, h => by simp at h
  | e :: es, (a, v) :: l, i, h => by
    simp only [List.map_cons, List.cons.injEq, Prod.mk.injEq] at h
    obtain ⟨⟨hk, hv⟩, ht⟩ := h
    by_cases hka : k = a
    · subst hka
      simp [Instr.findNow, hk, same, hv, fnd]
    · simp [Instr.findNow, hk, same, hka, fnd, findNow_is same k es l (i + 1) ht]
theorem findAsking_is {P : Program} {κ : Type} [DecidableEq κ] {K : TypeId} {ek : κ → Value} (eql : ∀ a b w, (Op.equal K (ek a) (ek b)).run P w = .ok (decide (a = b)) w) (k : κ) (w : World) : ∀ (es : List MapEntry) (l : List (κ × Value)) (i : Nat), es.map (fun e => (e.key, e.val)) = l.map (fun p => (ek p.1, p.2)) →
    (Instr.findAsking K (ek k) es i).run P w = .ok (fnd l k i) w
  | [], [], _, _ => rfl
  | [], _ :: _, _, h => by simp at h
  | _ :: _, [], _, h => by simp at h
  | e :: es, (a, v) :: l, i, h => by
    simp only [List.map_cons, List.cons.injEq, Prod.mk.injEq] at h
    obtain ⟨⟨hk, hv⟩, ht⟩ := h
    by_cases hka : k = a
    · subst hka
      simp [Instr.findAsking, hk, eql, hv, fnd, Result.andThen]
    · simp [Instr.findAsking, hk, eql, hka, fnd, Result.andThen, findAsking_is eql k w es l (i + 1) ht]
/-- keys that are ints -/
def intKeys {P : Program} {K : TypeId} (hu : P.underlying K = some (.int .i64)) : KeyG P Int where
  K := K
  ek := fun n => .int .i64 n
  find := fun k es l h w => by
    have := findNow_is (kd := .int .i64) (ek := fun n => Value.int .i64 n) (fun a b => by simp [Instr.sameNow]; rfl) k es l 0 h
    simp [Instr.findKey, run_underlying hu, this]
  bits := fun a => by simp [Instr.sameBits]
  check := fun b a w => by unfold Instr.checkKey; simp [run_underlying hu, Result.andThen]
/-- keys that are compared item by item -/
def eqlKeys {P : Program} {K : TypeId} {κ : Type} [DecidableEq κ] (ek : κ → Value) {kd : TypeDesc} (hu : P.underlying K = some kd) (no : ∀ a b, Instr.sameNow kd (ek a) (ek b) = none) (eql : ∀ a b w, (Op.equal K (ek a) (ek b)).run P w = .ok (decide (a = b)) w) (bits : ∀ a, Instr.sameBits 10000 (ek a) (ek a) = true)
    (check : ∀ (b : Bool) (a : κ) (w : World), (Instr.checkKey b 10000 K (ek a)).run P w = .ok () w) : KeyG P κ where
  K := K
  ek := ek
  find := fun k es l h w => by
    cases es with
    | nil =>
      cases l with
      | nil => simp [Instr.findKey, run_underlying hu, Instr.findNow, fnd]
      | cons p l => simp at h
    | cons e es =>
      cases l with
      | nil => simp at h
      | cons p l =>
        have h' := h
        simp only [List.map_cons, List.cons.injEq, Prod.mk.injEq] at h'
        have hn : Instr.findNow kd (ek k) (e :: es) 0 = none := by simp [Instr.findNow, h'.1.1, no]
        simp only [Instr.findKey, Sem.run_bind, run_underlying hu, Result.andThen_ok, hn]
        exact findAsking_is eql k w (e :: es) (p :: l) 0 h
  bits := bits
  check := check

section
variable {P : Program} {κ : Type} [DecidableEq κ] (kk : KeyG P κ)

def MapL (es : Array MapEntry) (clock : Nat) (l : List (κ × Value)) (f : κ → Option Value) : Prop :=
  es.toList.map (fun e => (e.key, e.val)) = l.map (fun p => (kk.ek p.1, p.2)) ∧ (es.toList.map (·.born)).Nodup ∧ (∀ e ∈ es.toList, e.born < clock) ∧ ∀ k, assoc l k = f k
/-- block r is a map in which each key k holds f k -/
def MapG (w : World) (r : Nat) (f : κ → Option Value) : Prop :=
  ∃ (es : Array MapEntry) (clock : Nat) (l : List (κ × Value)), w.heap[r]? = some (.map es clock) ∧ MapL kk es clock l f
/-- .. and the entry of k bears the stamp s -/
def MapS (w : World) (r : Nat) (f : κ → Option Value) (k : κ) (s : Nat) : Prop :=
  ∃ (es : Array MapEntry) (clock : Nat) (l : List (κ × Value)) (j : Nat) (e : MapEntry) (v : Value), w.heap[r]? = some (.map es clock) ∧ MapL kk es clock l f ∧ es.toList[j]? = some e ∧ e.born = s ∧ l[j]? = some (k, v) ∧ ∀ j' p, j' < j → l[j']? = some p → p.1 ≠ k

/-- m[k] -/
theorem run_lookup_some {T E : TypeId} {w : World} {r : Nat} {f : κ → Option Value} (ht : P.underlying T = some (.map kk.K E)) (h : MapG kk w r f) {k : κ} {v : Value} (hf : f k = some v) :
    (Instr.lookup T (.map (some r)) (kk.ek k) false).run P w = .ok v w := by
  obtain ⟨es, clock, l, hb, hm, _, _, ha⟩ := h
  have hfi := kk.find k es.toList l hm w
  rcases fnd_is k l 0 with ⟨h1, _⟩ | ⟨u, j, h1, h2, _⟩
  · rw [ha, hf] at h1; cases h1
  · rw [ha, hf] at h1
    cases h1
    rw [h2] at hfi
    simp [Instr.lookup, run_underlying ht, MapKept.run_getObj_map hb, kk.check, hfi, Result.andThen]
theorem run_lookup_none {T E : TypeId} {w : World} {r : Nat} {f : κ → Option Value} {z : Value} (ht : P.underlying T = some (.map kk.K E)) (hz : ∀ w, (zeroValue E).run P w = .ok z w) (h : MapG kk w r f) {k : κ} (hf : f k = none) :
    (Instr.lookup T (.map (some r)) (kk.ek k) false).run P w = .ok z w := by
  obtain ⟨es, clock, l, hb, hm, _, _, ha⟩ := h
  have hfi := kk.find k es.toList l hm w
  rcases fnd_is k l 0 with ⟨h1, h2, _⟩ | ⟨u, j, h1, h2, _⟩
  · rw [h2] at hfi
    simp [Instr.lookup, run_underlying ht, MapKept.run_getObj_map hb, kk.check, hfi, Result.andThen, hz]
  · rw [ha, hf] at h1; cases h1

theorem assoc_append (l : List (κ × Value)) (k : κ) (v : Value) (h : assoc l k = none) (k' : κ) : assoc (l ++ [(k, v)]) k' = if k' = k then some v else assoc l k' := by
  induction l with
  | nil => simp [assoc]
  | cons p l ih =>
    obtain ⟨a, u⟩ := p
    have ha : k ≠ a := by intro e; subst e; simp [assoc] at h
    have h' : assoc l k = none := by simpa [assoc, ha] using h
    simp only [List.cons_append, assoc, ih h']
    by_cases e : k' = a
    · subst e; simp [Ne.symm ha]
    · simp [e]
theorem assoc_set : ∀ (l : List (κ × Value)) (k : κ) (v u : Value) (j : Nat), l[j]? = some (k, u) → (∀ j' p, j' < j → l[j']? = some p → p.1 ≠ k) → ∀ k', assoc (l.set j (k, v)) k' = if k' = k then some v else assoc l k'
  | [], _, _, _, _, h, _, _ => by simp at h
  | (a, b) :: l, k, v, u, 0, h, _, k' => by
    simp only [List.getElem?_cons_zero, Option.some.injEq, Prod.mk.injEq] at h
    obtain ⟨rfl, rfl⟩ := h
    simp only [List.set_cons_zero, assoc]
    by_cases e : k' = a <;> simp [e]
  | (a, b) :: l, k, v, u, j + 1, h, hn, k' => by
    have hne : a ≠ k := hn 0 (a, b) (by omega) rfl
    have ih := assoc_set l k v u j (by simpa using h) (fun j' p hj hp => hn (j' + 1) p (by omega) (by simpa using hp)) k'
    simp only [List.set_cons_succ, assoc, ih]
    by_cases e : k' = a
    · subst e; simp [hne]
    · simp [e]

theorem setObj_facts {w : World} {r : Nat} {o o' : Obj} (hlt : r < w.heap.size) : ({ w with heap := w.heap.setIfInBounds r o } : World).heap[r]? = some o ∧ (∀ B, B ≤ r → Below B w { w with heap := w.heap.setIfInBounds r o }) ∧ (∀ i, i ≠ r → ({ w with heap := w.heap.setIfInBounds r o } : World).heap[i]? = w.heap[i]?) := by
  have hne : ∀ i, i ≠ r → (w.heap.setIfInBounds r o)[i]? = w.heap[i]? := fun i hi => by rw [Array.getElem?_setIfInBounds_ne (Ne.symm hi)]
  refine ⟨by simp [hlt], fun B hB => ⟨rfl, rfl, rfl, by simp, fun k hk => hne k (by omega)⟩, hne⟩
/-- what a write of a map's block leaves -/
def OnlyB (r : Nat) (w w' : World) : Prop := (∀ B, B ≤ r → Below B w w') ∧ (∀ i, i ≠ r → w'.heap[i]? = w.heap[i]?) ∧ w'.heap.size = w.heap.size

theorem MapL.push {es : Array MapEntry} {clock : Nat} {l : List (κ × Value)} {f : κ → Option Value} (h : MapL kk es clock l f) {k : κ} (hk : assoc l k = none) (v : Value) :
    MapL kk (es.push { key := kk.ek k, val := v, born := clock }) (clock + 1) (l ++ [(k, v)]) (fun k' => if k' = k then some v else f k') := by
  obtain ⟨hm, hn, hb, ha⟩ := h
  refine ⟨by simp [hm], ?_, ?_, fun k' => by rw [assoc_append l k v hk, ha]⟩
  · rw [Array.toList_push, List.map_append, List.nodup_append]
    refine ⟨hn, by simp, ?_⟩
    intro a ha b hb' e
    simp at hb'
    rw [List.mem_map] at ha
    obtain ⟨x, hx, rfl⟩ := ha
    have := hb x hx
    omega
  · intro e he
    rw [Array.toList_push, List.mem_append] at he
    rcases he with he | he
    · have := hb e he; omega
    · simp at he; subst he; exact Nat.lt_succ_self _
theorem MapL.put {es : Array MapEntry} {clock : Nat} {l : List (κ × Value)} {f : κ → Option Value} (h : MapL kk es clock l f) {k : κ} {u : Value} {j : Nat} (h4 : l[j]? = some (k, u)) (h5 : ∀ j' p, j' < j → l[j']? = some p → p.1 ≠ k) (v : Value) (g : MapEntry → MapEntry) (hg : ∀ e, e.key = kk.ek k → (g e).key = kk.ek k ∧ (g e).val = v ∧ (g e).born = e.born) :
    MapL kk (es.modify j g) clock (l.set j (k, v)) (fun k' => if k' = k then some v else f k') := by
  obtain ⟨hm, hn, hb, ha⟩ := h
  have hlen : es.toList.length = l.length := by simpa using congrArg List.length hm
  have hjl : j < es.size := by
    have := (List.getElem?_eq_some_iff.1 h4).1
    have : es.toList.length = es.size := by simp
    omega
  have hjl' : j < es.toList.length := by simpa using hjl
  have hkey : es.toList[j].key = kk.ek k := by
    have e1 : (es.toList.map (fun e => (e.key, e.val)))[j]? = (l.map (fun p => (kk.ek p.1, p.2)))[j]? := by rw [hm]
    rw [List.getElem?_map, List.getElem?_map, h4, List.getElem?_eq_getElem hjl'] at e1
    simp at e1
    exact e1.1
  obtain ⟨g1, g2, g3⟩ := hg _ hkey
  have et : es.toList[j] = es[j] := by simp
  rw [et] at g1 g2 g3
  have hborn : ((es.modify j g).toList.map (·.born)) = es.toList.map (·.born) := by
    rw [Array.toList_modify]
    apply List.ext_getElem?
    intro i
    simp only [List.getElem?_map, List.getElem?_modify]
    by_cases hij : j = i
    · subst hij
      rw [List.getElem?_eq_getElem hjl']
      simp [g3]
    · simp [hij]
  refine ⟨?_, by rw [hborn]; exact hn, ?_, fun k' => by rw [assoc_set l k v u j h4 h5, ha]⟩
  · rw [Array.toList_modify]
    apply List.ext_getElem?
    intro i
    have hi : (es.toList.map (fun e => (e.key, e.val)))[i]? = (l.map (fun p => (kk.ek p.1, p.2)))[i]? := by rw [hm]
    simp only [List.getElem?_map, List.getElem?_modify, List.getElem?_set] at hi ⊢
    by_cases hij : j = i
    · subst hij
      rw [List.getElem?_eq_getElem hjl']
      simp [g1, g2, (List.getElem?_eq_some_iff.1 h4).1]
    · simp [hij]
      simpa using hi
  · intro e he
    have : e.born ∈ (es.modify j g).toList.map (·.born) := List.mem_map_of_mem he
    rw [hborn, List.mem_map] at this
    obtain ⟨x, hx, hxe⟩ := this
    have := hb x hx
    omega

/-- m[k] = v -/
theorem run_mapUpdate_is {T E : TypeId} {w : World} {r : Nat} {f : κ → Option Value} (ht : P.underlying T = some (.map kk.K E)) (h : MapG kk w r f) (k : κ) (v : Value) :
    ∃ w', (Instr.mapUpdate T (.map (some r)) (kk.ek k) v).run P w = .ok () w' ∧ MapG kk w' r (fun k' => if k' = k then some v else f k') ∧ OnlyB r w w' := by
  obtain ⟨es, clock, l, hb, hL⟩ := h
  have hm := hL.1
  have hlt : r < w.heap.size := (Array.getElem?_eq_some_iff.1 hb).1
  have hfi := kk.find k es.toList l hm w
  rcases fnd_is k l 0 with ⟨h1, h2, h3⟩ | ⟨u, j, h1, h2, h4, h5⟩
  · rw [h2] at hfi
    have F := setObj_facts (o := Obj.map (es.push { key := kk.ek k, val := v, born := clock }) (clock + 1)) (o' := .map es clock) hlt
    exact ⟨_, by simp [Instr.mapUpdate, run_underlying ht, MapKept.run_getObj_map hb, kk.check, hfi, Result.andThen, MapKept.run_setObj_map _ hb], ⟨_, _, _, F.1, MapL.push kk hL h1 v⟩, F.2.1, F.2.2, by simp⟩
  · have hlen : es.toList.length = l.length := by simpa using congrArg List.length hm
    have hjl : j < es.size := by have := (List.getElem?_eq_some_iff.1 h4).1
                                 have : es.toList.length = es.size := by simp
                                 omega
    have hkey : es[j].key = kk.ek k := by
      have e1 : (es.toList.map (fun e => (e.key, e.val)))[j]? = (l.map (fun p => (kk.ek p.1, p.2)))[j]? := by rw [hm]
      simp [h4, Array.getElem?_eq_getElem hjl] at e1
      exact e1.1
    have hstay : ∀ w, (Instr.keyThatStays (kk.ek k) (kk.ek k)).run P w = .ok (kk.ek k) w := fun w => by simp [Instr.keyThatStays, kk.bits]
    have F := setObj_facts (o := Obj.map (es.modify j fun e => { e with key := kk.ek k, val := v }) clock) (o' := .map es clock) hlt
    rw [h2, Nat.zero_add] at hfi
    exact ⟨_, by simp [Instr.mapUpdate, run_underlying ht, MapKept.run_getObj_map hb, kk.check, hfi, Result.andThen, MapKept.run_setObj_map _ hb, Array.getElem?_eq_getElem hjl, hkey, hstay], ⟨_, _, _, F.1, MapL.put kk hL h4 h5 v _ (fun e _ => ⟨rfl, rfl, rfl⟩)⟩, F.2.1, F.2.2, by simp⟩

/-- the entry of k, for a store behind it -/
theorem run_mapEntry_is {T E : TypeId} {w : World} {r : Nat} {f : κ → Option Value} {z : Value} (ht : P.underlying T = some (.map kk.K E)) (hz : ∀ w, (zeroValue E).run P w = .ok z w) (h : MapG kk w r f) (k : κ) :
    ∃ w' s, (Instr.mapEntry T (.map (some r)) (kk.ek k)).run P w = .ok (.tuple #[(f k).getD z, .int .i64 ((s : Nat) : Int)]) w' ∧ MapS kk w' r (fun k' => if k' = k then some ((f k).getD z) else f k') k s ∧ OnlyB r w w' := by
  obtain ⟨es, clock, l, hb, hL⟩ := h
  have hm := hL.1
  have hlt : r < w.heap.size := (Array.getElem?_eq_some_iff.1 hb).1
  have hfi := kk.find k es.toList l hm w
  have hlen : es.toList.length = l.length := by simpa using congrArg List.length hm
  rcases fnd_is k l 0 with ⟨h1, h2, h3⟩ | ⟨u, j, h1, h2, h4, h5⟩
  · rw [h2] at hfi
    have hfk : f k = none := by rw [← hL.2.2.2]; exact h1
    rw [hfk]
    have F := setObj_facts (o := Obj.map (es.push { key := kk.ek k, val := z, born := clock }) (clock + 1)) (o' := .map es clock) hlt
    refine ⟨_, clock, by simp [Instr.mapEntry, run_underlying ht, MapKept.run_getObj_map hb, kk.check, hfi, Result.andThen, MapKept.run_setObj_map _ hb, hz, goInt], ⟨_, _, _, l.length, { key := kk.ek k, val := z, born := clock }, z, F.1, MapL.push kk hL h1 z, ?_, rfl, by simp, ?_⟩, F.2.1, F.2.2, by simp⟩
    · rw [Array.toList_push, ← hlen]; simp
    · intro j' p hj hp
      rw [List.getElem?_append_left hj] at hp
      exact h3 p (List.mem_of_getElem? hp)
  · have hjl : j < es.size := by have := (List.getElem?_eq_some_iff.1 h4).1
                                 have : es.toList.length = es.size := by simp
                                 omega
    have hfk : f k = some u := by rw [← hL.2.2.2]; exact h1
    rw [hfk]
    have hkey : es[j].key = kk.ek k := by
      have e1 : (es.toList.map (fun e => (e.key, e.val)))[j]? = (l.map (fun p => (kk.ek p.1, p.2)))[j]? := by rw [hm]
      simp [h4, Array.getElem?_eq_getElem hjl] at e1
      exact e1.1
    have hval : es[j].val = u := by
      have e1 : (es.toList.map (fun e => (e.key, e.val)))[j]? = (l.map (fun p => (kk.ek p.1, p.2)))[j]? := by rw [hm]
      simp [h4, Array.getElem?_eq_getElem hjl] at e1
      exact e1.2
    have hstay : ∀ w, (Instr.keyThatStays (kk.ek k) (kk.ek k)).run P w = .ok (kk.ek k) w := fun w => by simp [Instr.keyThatStays, kk.bits]
    have F := setObj_facts (o := Obj.map (es.modify j fun e => { e with key := kk.ek k }) clock) (o' := .map es clock) hlt
    rw [h2, Nat.zero_add] at hfi
    have hkk : (es.modify j fun e => { e with key := kk.ek k }) = (es.modify j fun e => { e with key := kk.ek k, val := u }) := by
      apply Array.ext'
      rw [Array.toList_modify, Array.toList_modify]
      apply List.ext_getElem?
      intro i
      simp only [List.getElem?_modify]
      by_cases hij : j = i
      · subst hij
        have : es.toList[j]? = some es[j] := by simp [Array.getElem?_eq_getElem hjl]
        rw [this]
        simp [hval]
      · simp [hij]
    have hP := MapL.put kk hL h4 h5 u (fun e => { e with key := kk.ek k, val := u }) (fun e _ => ⟨rfl, rfl, rfl⟩)
    rw [← hkk] at hP
    refine ⟨_, es[j].born, by simp [Instr.mapEntry, run_underlying ht, MapKept.run_getObj_map hb, kk.check, hfi, Result.andThen, MapKept.run_setObj_map _ hb, Array.getElem?_eq_getElem hjl, hkey, hstay, goInt], ⟨_, _, _, j, { es[j] with key := kk.ek k }, u, F.1, hP, ?_, rfl, ?_, ?_⟩, F.2.1, F.2.2, by simp⟩
    · rw [Array.toList_modify, List.getElem?_modify]
      have : es.toList[j]? = some es[j] := by simp [Array.getElem?_eq_getElem hjl]
      rw [this]; simp
    · rw [List.getElem?_set_self (List.getElem?_eq_some_iff.1 h4).1]
    · intro j' p hj hp
      rw [List.getElem?_set_ne (by omega)] at hp
      exact h5 j' p hj hp
/-- .. and the store -/
theorem run_entryStore_is {T : TypeId} {w : World} {r : Nat} {f : κ → Option Value} {k : κ} {s : Nat} (h : MapS kk w r f k s) (v : Value) :
    ∃ w', (Instr.entryStore T (.map (some r)) (.int .i64 ((s : Nat) : Int)) v).run P w = .ok () w' ∧ MapG kk w' r (fun k' => if k' = k then some v else f k') ∧ OnlyB r w w' := by
  obtain ⟨es, clock, l, j, e0, u, hb, hL, he, hs, hl, h5⟩ := h
  have hm := hL.1
  have hlt : r < w.heap.size := (Array.getElem?_eq_some_iff.1 hb).1
  have hfi : es.findIdx? (fun e => ((e.born : Nat) : Int) == ((s : Nat) : Int)) = some j := by
    rw [WideElems.findIdx_arr, ← hs]
    exact WideElems.findIdx_born hL.2.1 he
  have F := setObj_facts (o := Obj.map (es.modify j fun e => { e with val := v }) clock) (o' := .map es clock) hlt
  refine ⟨_, by simp [Instr.entryStore, MapKept.run_getObj_map hb, Result.andThen, hfi, asInt, asIntOf, MapKept.run_setObj_map _ hb], ⟨_, _, _, F.1, MapL.put kk hL hl h5 v _ (fun e he => ⟨he, rfl, rfl⟩)⟩, F.2.1, F.2.2, by simp⟩

theorem MapG.of_block {w w' : World} {r : Nat} {f : κ → Option Value} (h : MapG kk w r f) (hb : w'.heap[r]? = w.heap[r]?) : MapG kk w' r f := by
  obtain ⟨es, clock, l, h1, h2⟩ := h
  exact ⟨es, clock, l, hb.trans h1, h2⟩
theorem MapS.of_block {w w' : World} {r : Nat} {f : κ → Option Value} {k : κ} {s : Nat} (h : MapS kk w r f k s) (hb : w'.heap[r]? = w.heap[r]?) : MapS kk w' r f k s := by
  obtain ⟨es, clock, l, j, e, v, h1, h2⟩ := h
  exact ⟨es, clock, l, j, e, v, hb.trans h1, h2⟩
theorem MapS.lt {w : World} {r : Nat} {f : κ → Option Value} {k : κ} {s : Nat} (h : MapS kk w r f k s) : r < w.heap.size := by
  obtain ⟨es, clock, l, j, e, v, h1, h2⟩ := h
  exact (Array.getElem?_eq_some_iff.1 h1).1
theorem MapG.lt {w : World} {r : Nat} {f : κ → Option Value} (h : MapG kk w r f) : r < w.heap.size := by
  obtain ⟨es, clock, l, h1, h2⟩ := h
  exact (Array.getElem?_eq_some_iff.1 h1).1
theorem MapG.kept {w w' : World} {r : Nat} {f : κ → Option Value} (h : MapG kk w r f) (hk : Kept w w') : MapG kk w' r f := MapG.of_block kk h (hk.block r (MapG.lt kk h))
theorem MapS.kept {w w' : World} {r : Nat} {f : κ → Option Value} {k : κ} {s : Nat} (h : MapS kk w r f k s) (hk : Kept w w') : MapS kk w' r f k s := MapS.of_block kk h (hk.block r (MapS.lt kk h))
theorem MapG.new (w : World) : MapG kk (w.alloc (.map #[] 0)) w.heap.size (fun _ => none) :=
  ⟨#[], 0, [], heap_alloc_new w _, by simp [MapL, assoc]⟩
theorem MapG.congr {w : World} {r : Nat} {f g : κ → Option Value} (h : MapG kk w r f) (hg : ∀ k, f k = g k) : MapG kk w r g := by
  obtain ⟨es, clock, l, h1, h2, h3, h4, h5⟩ := h
  exact ⟨es, clock, l, h1, h2, h3, h4, fun k => (h5 k).trans (hg k)⟩
end
theorem Kept.only {w w1 w2 : World} {r : Nat} (h : Kept w w1) (ho : OnlyB r w1 w2) (hr : w.heap.size ≤ r) : Kept w w2 := Below.trans h (ho.1 _ hr)
end Go.Proofs.YtologmoanaccpaaGreatDoor
