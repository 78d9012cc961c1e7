/-
  mark: own rows of marks; families of rows in a map; the test of clashing
-/
import Derived.Test.YtologmoanaccpaaGreatDoorMh
namespace Go.Proofs.YtologmoanaccpaaGreatDoor
set_option linter.all false
open Go Go.RowKit

theorem flat_at {α : Type} {enc : α → List Value} {k : Nat} (hk : ∀ x, (enc x).length = k) : ∀ (l : List α) (i : Nat) (x : α) (j : Nat) (v : Value), l[i]? = some x → (enc x)[j]? = some v → (l.flatMap enc)[i * k + j]? = some v
  | [], i, x, j, v, h, _ => by simp at h
  | y :: l, 0, x, j, v, h, hv => by
    simp at h; subst h
    rw [List.flatMap_cons, Nat.zero_mul, Nat.zero_add, List.getElem?_append_left (List.getElem?_eq_some_iff.1 hv).1, hv]
  | y :: l, i + 1, x, j, v, h, hv => by
    have ih := flat_at hk l i x j v (by simpa using h) hv
    rw [List.flatMap_cons, List.getElem?_append_right (by rw [hk, Nat.add_mul]; omega), hk, show (i + 1) * k + j - k = i * k + j by rw [Nat.add_mul]; omega]
    exact ih
theorem flat_snoc {α : Type} (enc : α → List Value) (l : List α) (x : α) : (l ++ [x]).flatMap enc = l.flatMap enc ++ enc x := by simp
theorem flat_len {α : Type} {enc : α → List Value} {k : Nat} (hk : ∀ x, (enc x).length = k) (l : List α) : (l.flatMap enc).length = l.length * k := by
  induction l with
  | nil => simp
  | cons x l ih => rw [List.flatMap_cons, List.length_append, ih, hk, List.length_cons, Nat.add_mul]; omega
/-- an own row of elements, as a slice -/
theorem own_sl {α : Type} {enc : α → List Value} {k : Nat} {ok : α → Prop} (hk : ∀ x, (enc x).length = k) {W : World} {B t : Nat} {v : Value} {l : List α} (h : W.ownsRow B t k v l.length (l.flatMap enc)) (ho : ∀ x ∈ l, ok x) : ∃ A c, v = .slice A l.length c ∧ SlA enc k ok W A l.length c l := by
  rcases h.2 with ⟨rfl, h0⟩ | ⟨g, cap, cur, rfl, hb, hh, h1, h2, _⟩
  · rw [h0]
    exact ⟨none, 0, rfl, ⟨h0, by omega, by omega, ho, fun h => absurd h (by omega)⟩⟩
  · refine ⟨some ⟨g, 0, none⟩, cap, rfl, rfl, h1, by unfold maxLen at h2; omega, ho, fun _ => ⟨g, 0, rfl, fun i x hx j u hu => ?_⟩⟩
    rw [Nat.zero_add]
    exact (own_rowC h _ _ (flat_at hk l i x j u hx hu)).1
theorem mkC_len (m : Mk) : (mkC m).length = 9 := rfl
theorem mk_one (m : Mk) : ∀ u ∈ mkC m, u.oneCell' = true := by
  intro u hu
  simp [mkC] at hu
  rcases hu with h | h | h | h | h | h | h | h | h <;> subst h <;> rfl
theorem own_only {w w' : World} {b r : Nat} {e : TypeId} {s : Nat} {v : Value} {n : Nat} {ys : List Value} (h : w.ownsRow b e s v n ys) (ho : OnlyB r w w') (hr : r < b) : w'.ownsRow b e s v n ys := by
  refine ⟨h.1, ?_⟩
  rcases h.2 with h0 | ⟨g, cap, cur, hv, hb, hh, hrr⟩
  · exact .inl h0
  · exact .inr ⟨g, cap, cur, hv, hb, (ho.2.1 g (by omega)).trans hh, hrr⟩
theorem OnlyB.refl (r : Nat) (w : World) : OnlyB r w w := ⟨fun B _ => Below.refl _ _, fun _ _ => rfl, rfl⟩
theorem rowC_only {w w' : World} {b r : Nat} {vs : List Value} (h : RowC w b vs) (ho : OnlyB r w w') (hne : b ≠ r) : RowC w' b vs := fun j v hv =>
  ⟨(World.cell?_of_block (a := ⟨b, j, none⟩) (ho.2.1 b hne)).trans (h j v hv).1, (World.frozen?_of_block (a := ⟨b, j, none⟩) (ho.2.1 b hne)).trans (h j v hv).2⟩
theorem own_ge {w : World} {b : Nat} {e : TypeId} {s : Nat} {v : Value} {n : Nat} {ys : List Value} (h : w.ownsRow b e s v n ys) {g : Nat} (hg : v.ownBlock = some g) : b ≤ g := by
  rcases h.2 with ⟨rfl, _⟩ | ⟨k, cap, cur, rfl, hb, hh, hr⟩
  · cases hg
  · injection hg with hg
    subst hg
    exact hb

/-- the marks of a key -/
def ofKey {κ : Type} [DecidableEq κ] (key : Mk → κ) (pre : List Mk) (k : κ) : List Mk := pre.filter fun m => decide (key m = k)
theorem ofKey_snoc {κ : Type} [DecidableEq κ] (key : Mk → κ) (pre : List Mk) (m : Mk) (k : κ) : ofKey key (pre ++ [m]) k = if k = key m then ofKey key pre k ++ [m] else ofKey key pre k := by
  unfold ofKey
  rw [List.filter_append]
  by_cases h : k = key m
  · subst h; simp
  · rw [if_neg h]
    simp [Ne.symm h]
/-- a map's rows: what lies under each key -/
structure Fam {κ : Type} [DecidableEq κ] (kk : KeyG Tryz.prog κ) (key : Mk → κ) (B r : Nat) (W : World) (pre : List Mk) (F : κ → Value) : Prop where
  map : MapG kk W r (fun k => if ofKey key pre k = [] then none else some (F k))
  own : ∀ k, W.ownsRow B 32 9 (F k) (ofKey key pre k).length ((ofKey key pre k).flatMap mkC)
  nil : ∀ k, ofKey key pre k = [] → F k = .slice none 0 0
  far : ∀ k k', k ≠ k' → Apart (F k) (F k')
section
variable {κ : Type} [DecidableEq κ] {kk : KeyG Tryz.prog κ} {key : Mk → κ} {B r : Nat} {W W1 W2 : World} {pre : List Mk} {F : κ → Value}
theorem Fam.kept (h : Fam kk key B r W pre F) (hk : Kept W W1) : Fam kk key B r W1 pre F :=
  ⟨MapG.kept kk h.map hk, fun k => own_kept (h.own k) hk, h.nil, h.far⟩
/-- what a write of another map's block leaves -/
theorem Fam.only (h : Fam kk key B r W pre F) {q : Nat} (ho : OnlyB q W W1) (hq : q < B) (hne : r ≠ q) : Fam kk key B r W1 pre F :=
  ⟨MapG.of_block kk h.map (ho.2.1 r hne), fun k => own_only (h.own k) ho hq, h.nil, h.far⟩
/-- what an append to a row that is apart leaves -/
theorem Fam.grown (h : Fam kk key B r W pre F) (hr : r < B) {v : Value} {n : Nat} {ys : List Value} (hv : W.ownsRow B 32 9 v n ys) (hg : W.grownBy W1 v.ownBlock) (ha : ∀ k, Apart (F k) v) : Fam kk key B r W1 pre F :=
  ⟨MapG.of_block kk h.map (hg.block r (MapG.lt kk h.map) (fun e => by have := own_ge hv e.symm; omega)), fun k => own_far (h.own k) hg (fun g hg' => (ha k g hg')), h.nil, h.far⟩
theorem Fam.lookup (h : Fam kk key B r W pre F) {T : Nat} (ht : Tryz.prog.underlying T = some (.map kk.K 22)) (k : κ) : (Instr.lookup T (.map (some r)) (kk.ek k) false).run Tryz.prog W = .ok (F k) W := by
  by_cases he : ofKey key pre k = []
  · rw [h.nil k he]
    exact run_lookup_none kk ht zeroValue22 h.map (by rw [if_pos he])
  · exact run_lookup_some kk ht h.map (by rw [if_neg he])
/-- one mark more under its key -/
theorem Fam.more (h : Fam kk key B r W pre F) (hr : r < B) {Wm : World} (h0 : OnlyB r W Wm) {m : Mk} {g c H : Nat} (hH : W.heap.size ≤ H)
    (hown : W1.ownsRow B 32 9 (.slice (some ⟨g, 0, none⟩) ((ofKey key pre (key m)).length + 1) c) ((ofKey key pre (key m)).length + 1) ((ofKey key pre (key m)).flatMap mkC ++ mkC m))
    (hg : Wm.grownBy W1 (F (key m)).ownBlock) (hat : (F (key m)).ownBlock = some g ∨ g = H)
    (hm : MapG kk W2 r (fun k => if k = key m then some (.slice (some ⟨g, 0, none⟩) ((ofKey key pre (key m)).length + 1) c) else (if ofKey key pre k = [] then none else some (F k)))) (ho : OnlyB r W1 W2) :
    Fam kk key B r W2 (pre ++ [m]) (fun k => if k = key m then .slice (some ⟨g, 0, none⟩) ((ofKey key pre (key m)).length + 1) c else F k) := by
  have hfar : ∀ k, k ≠ key m → Apart (.slice (some ⟨g, 0, none⟩) ((ofKey key pre (key m)).length + 1) c) (F k) := fun k hk =>
    Apart.next (H := H) (h.far (key m) k (Ne.symm hk)) (fun q hq => by have := own_lt (h.own k) hq; omega) hat
  refine ⟨MapG.congr kk hm (fun k => ?_), fun k => ?_, fun k hk => ?_, fun k k' hne => ?_⟩
  · rw [ofKey_snoc]
    by_cases e : k = key m
    · rw [if_pos e, if_pos e, if_neg (by simp), if_pos e]
    · rw [if_neg e, if_neg e]
      simp only [if_neg e]
  · rw [ofKey_snoc]
    by_cases e : k = key m
    · subst e
      rw [if_pos rfl, if_pos rfl, List.length_append, flat_snoc]
      exact own_only hown ho hr
    · rw [if_neg e, if_neg e]
      exact own_only (own_far (own_only (h.own k) h0 hr) hg (fun q hq => (h.far k (key m) e q hq))) ho hr
  · rw [ofKey_snoc] at hk
    by_cases e : k = key m
    · rw [if_pos e] at hk; simp at hk
    · rw [if_neg e] at hk ⊢; exact h.nil k hk
  · by_cases e : k = key m
    · rw [if_pos e, if_neg (by rw [← e]; exact Ne.symm hne)]
      exact hfar k' (by rw [← e]; exact Ne.symm hne)
    · by_cases e' : k' = key m
      · rw [if_neg e, if_pos e']
        exact (hfar k e).symm
      · rw [if_neg e, if_neg e']
        exact h.far k k' hne
/-- what is read of an entry -/
theorem Fam.getD (h : Fam kk key B r W pre F) (k : κ) : ((if ofKey key pre k = [] then none else some (F k)).getD (.slice none 0 0)) = F k := by
  by_cases e : ofKey key pre k = []
  · rw [if_pos e, h.nil k e]; rfl
  · rw [if_neg e]; rfl
end
theorem fam_new {κ : Type} [DecidableEq κ] (kk : KeyG Tryz.prog κ) (key : Mk → κ) {B r : Nat} {W : World} (h : MapG kk W r (fun _ => none)) : Fam kk key B r W [] (fun _ => .slice none 0 0) :=
  ⟨MapG.congr kk h (fun k => by simp [ofKey]), fun k => ⟨by simp [ofKey], .inl ⟨rfl, by simp [ofKey]⟩⟩, fun _ _ => rfl, fun k k' _ g hg => by cases hg⟩

def meetsB (m o : Mk) : Bool := decide (m.frm ≤ o.unt) && decide (o.frm ≤ m.unt)
/-- whether a mark clashes with one of those before it -/
def clashL (pre : List Mk) (m : Mk) : Bool := pre.any fun o => (decide (o.own = m.own) || decide (o.sg = m.sg)) && meetsB m o
def clashB (ms : List Mk) : Bool := (List.range ms.length).any fun k => match ms[k]? with | some m => clashL (ms.take k) m | none => false
theorem clash_yes {ms : List Mk} {k : Nat} {m : Mk} (h : ms[k]? = some m) (hc : clashL (ms.take k) m = true) : clashB ms = true := by
  unfold clashB
  rw [List.any_eq_true]
  exact ⟨k, List.mem_range.2 (List.getElem?_eq_some_iff.1 h).1, by rw [h]; exact hc⟩
theorem clash_no {ms : List Mk} (h : ∀ (k : Nat) m, ms[k]? = some m → clashL (ms.take k) m = false) : clashB ms = false := by
  unfold clashB
  rw [List.any_eq_false]
  intro k hk
  cases hm : ms[k]? with
  | none => simp
  | some m => simp [h k m hm]
theorem clashL_or (pre : List Mk) (m : Mk) : clashL pre m = ((ofKey Mk.own pre m.own).any (meetsB m) || (ofKey Mk.sg pre m.sg).any (meetsB m)) := by
  unfold clashL ofKey
  rw [Bool.eq_iff_iff]
  simp only [List.any_eq_true, Bool.or_eq_true, List.mem_filter, decide_eq_true_eq, Bool.and_eq_true]
  constructor
  · rintro ⟨o, ho, h1 | h1, h2⟩
    · exact .inl ⟨o, ⟨ho, h1⟩, h2⟩
    · exact .inr ⟨o, ⟨ho, h1⟩, h2⟩
  · rintro (⟨o, ⟨ho, h1⟩, h2⟩ | ⟨o, ⟨ho, h1⟩, h2⟩)
    · exact ⟨o, ho, .inl h1, h2⟩
    · exact ⟨o, ho, .inr h1, h2⟩
theorem e153 : ∀ args w, (callFunc 153 args).run Tryz.prog w = .ok (.enter 153 args) w := enters_of Tryz.func153 (by kernel_rfl) rfl
set_option maxRecDepth 100000 in
theorem pred153 (bm : Nat) (m : Mk) (w : World) (h : RowC w bm (mkC m)) : PredG mkC Mk.ok 153 #[.pointer (some ⟨bm, 0, none⟩)] (meetsB m) w := by
  intro W o ho hk
  have r := h.kept hk
  have c1 := (r 1 _ rfl).1
  have c2 := (r 2 _ rfl).1
  have lc := cell_lt c1
  clear r
  show Calls Tryz.prog 153 #[.agg (mkC o).toArray, .pointer (some ⟨bm, 0, none⟩)] W _
  unfold mkC
  obtain ⟨b1, hb1⟩ : ∃ b, decide (m.frm ≤ o.unt) = b := ⟨_, rfl⟩
  obtain ⟨b2, hb2⟩ : ∃ b, decide (o.frm ≤ m.unt) = b := ⟨_, rfl⟩
  have HB : RowKit.Hid (meetsB m o = (b1 && b2)) := Lib.hid (by unfold meetsB; rw [hb1, hb2])
  cases b1
  · clear hb2
    go_enter Tryz.func153, Tryz.ntmps153
    go_wp2
    go_ret
    exact ⟨ret_bool (by rw [HB.out]; rfl), (Kept.refl _).alloc _⟩
  cases b2
  all_goals
    go_enter Tryz.func153, Tryz.ntmps153
    go_wp2
    go_ret
    exact ⟨ret_bool (by rw [HB.out]; rfl), (Kept.refl _).alloc _⟩
end Go.Proofs.YtologmoanaccpaaGreatDoor
