/- the reference's Whole: the math of its loops -/
import Derived.Test.YtcjpecdnenemaaaGreatDoorDw1
import Derived.Test.YtcjpecdnenemaaaGreatDoorOw
namespace Go.Proofs.YtcjpecdnenemaaaGreatDoor
set_option linter.all false
open Go.RowKit Go.Shelf Go.Sort

theorem take_at {l : List Int} {k i : Nat} {u : Int} : (l.take k)[i]? = some u ↔ i < k ∧ l[i]? = some u := by
  rw [List.getElem?_take]
  by_cases h : i < k
  · rw [if_pos h]; exact ⟨fun e => ⟨h, e⟩, fun e => e.2⟩
  · rw [if_neg h]; exact ⟨(fun e => by cases e), fun e => absurd e.1 h⟩
theorem best_lt {l : List Int} {k p : Nat} (h : isBest (l.take k) p) : p < k := by
  obtain ⟨v, hv, _⟩ := h
  exact (take_at.1 hv).1
theorem best_one {cut : List Int} (h : 0 < cut.length) : isBest (cut.take 1) 0 := by
  refine ⟨cut[0]'h, take_at.2 ⟨by omega, List.getElem?_eq_getElem h⟩, fun i u hu => ?_, fun i u hi hu => by omega⟩
  obtain ⟨hi, hu⟩ := take_at.1 hu
  have hi0 : i = 0 := by omega
  subst hi0
  rw [List.getElem?_eq_getElem h] at hu
  injection hu with hu
  omega
theorem best_new {cut : List Int} {k p : Nat} {u v : Int} (h : isBest (cut.take k) p) (hk : cut[k]? = some u) (hp : cut[p]? = some v) (huv : v < u) : isBest (cut.take (k + 1)) k := by
  obtain ⟨x, hx, hm, hf⟩ := h
  obtain ⟨hpk, hx⟩ := take_at.1 hx
  rw [hp] at hx
  injection hx with hx
  subst hx
  refine ⟨u, take_at.2 ⟨by omega, hk⟩, fun i y hy => ?_, fun i y hi hy => ?_⟩
  · have hyy := take_at.1 hy
    clear hy
    obtain ⟨hi, hy⟩ := hyy
    rcases Nat.lt_or_ge i k with h | h
    · have := hm i y (take_at.2 ⟨h, hy⟩); omega
    · have e : i = k := by omega
      subst e
      rw [hk] at hy; injection hy with hy; omega
  · obtain ⟨_, hy⟩ := take_at.1 hy
    have := hm i y (take_at.2 ⟨hi, hy⟩); omega
theorem best_old {cut : List Int} {k p : Nat} {u v : Int} (h : isBest (cut.take k) p) (hk : cut[k]? = some u) (hp : cut[p]? = some v) (huv : u ≤ v) : isBest (cut.take (k + 1)) p := by
  obtain ⟨x, hx, hm, hf⟩ := h
  obtain ⟨hpk, hx⟩ := take_at.1 hx
  rw [hp] at hx
  injection hx with hx
  subst hx
  refine ⟨v, take_at.2 ⟨by omega, hp⟩, fun i y hy => ?_, fun i y hi hy => ?_⟩
  · have hyy := take_at.1 hy
    clear hy
    obtain ⟨hi, hy⟩ := hyy
    rcases Nat.lt_or_ge i k with h | h
    · exact hm i y (take_at.2 ⟨h, hy⟩)
    · have e : i = k := by omega
      subst e
      rw [hk] at hy; injection hy with hy; omega
  · obtain ⟨_, hy⟩ := take_at.1 hy
    exact hf i y hi (take_at.2 ⟨by omega, hy⟩)
theorem cuts_snoc (total s : Int) (l : List Int) (z : Int) : (l ++ [z]).map (cutZ total s) = l.map (cutZ total s) ++ [total * z % s] := by rw [List.map_append]; rfl
theorem cut_bd {total s z : Int} (hs : 0 < s) : 0 ≤ cutZ total s z ∧ cutZ total s z < s := by
  unfold cutZ
  exact ⟨Int.emod_nonneg _ (by omega), Int.emod_lt_of_pos _ hs⟩
theorem zeroed_bd {l : List Int} {M : Int} (hM : 0 < M) (h : ∀ v ∈ l, 0 ≤ v ∧ v < M) : ∀ (os : List Nat) (v : Int), v ∈ zeroed l os → 0 ≤ v ∧ v < M := by
  intro os v hv
  obtain ⟨i, hi⟩ := List.getElem?_of_mem hv
  have hl : i < l.length := by
    have := (List.getElem?_eq_some_iff.1 hi).1
    rwa [zeroed_len] at this
  rw [zeroed_get os l i _ (List.getElem?_eq_getElem hl)] at hi
  injection hi with hi
  split at hi
  · omega
  · have := h _ (List.getElem_mem hl); omega
/-- an own row stays when another row grows -/
theorem own_far {w w' : World} {b : Nat} {e : TypeId} {s : Nat} {v : Value} {n : Nat} {ys : List Value} {row : Option Nat} (h : w.ownsRow b e s v n ys) (hg : w.grownBy w' row) (hne : ∀ g, v.ownBlock = some g → row ≠ some g) : w'.ownsRow b e s v n ys := by
  refine ⟨h.1, ?_⟩
  rcases h.2 with h0 | ⟨g, cap, cur, hv, hb, hh, hr⟩
  · exact .inl h0
  · refine .inr ⟨g, cap, cur, hv, hb, ?_, hr⟩
    have hlt : g < w.heap.size := (Array.getElem?_eq_some_iff.1 hh).1
    rw [hg.block g hlt (by subst hv; exact fun e => hne g rfl e.symm)]
    exact hh
/-- two rows that do not meet -/
def Apart (u v : Value) : Prop := ∀ g, u.ownBlock = some g → v.ownBlock ≠ some g
theorem Apart.symm {u v : Value} (h : Apart u v) : Apart v u := fun g hv hu => h g hu hv
theorem own_lt {w : World} {b : Nat} {e : TypeId} {s : Nat} {v : Value} {n : Nat} {ys : List Value} (h : w.ownsRow b e s v n ys) {g : Nat} (hg : v.ownBlock = some g) : g < w.heap.size := by
  rcases h.2 with ⟨rfl, _⟩ | ⟨k, cap, cur, rfl, hb, hh, hr⟩
  · cases hg
  · injection hg with hg
    subst hg
    exact (Array.getElem?_eq_some_iff.1 hh).1
/-- after an append -/
theorem Apart.next {u v : Value} {g n c : Nat} {H : Nat} (h : Apart u v) (hv : ∀ k, v.ownBlock = some k → k < H) (hg : u.ownBlock = some g ∨ g = H) : Apart (.slice (some ⟨g, 0, none⟩) n c) v := by
  intro k hk hvk
  injection hk with hk
  subst hk
  rcases hg with e | e
  · exact h _ e hvk
  · have := hv _ hvk; simp at this; omega
theorem own_rowI {w : World} {b : Nat} {v : Value} {n : Nat} {ys : List Value} (h : w.ownsRow b 3 1 v n ys) (hn : 0 < n) : ∃ g cap, v = .slice (some ⟨g, 0, none⟩) n cap ∧ b ≤ g ∧ g < w.heap.size ∧ n ≤ cap ∧ cap ≤ maxLen ∧ RowC w g ys := by
  rcases h.2 with ⟨_, h0⟩ | ⟨g, cap, cur, rfl, hb, hh, h1, h2, _⟩
  · omega
  · exact ⟨g, cap, rfl, hb, (Array.getElem?_eq_some_iff.1 hh).1, h1, h2, own_rowD h⟩
end Go.Proofs.YtcjpecdnenemaaaGreatDoor
