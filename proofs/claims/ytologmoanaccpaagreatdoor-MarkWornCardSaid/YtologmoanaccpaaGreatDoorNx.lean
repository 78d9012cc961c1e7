/-
  small things of slices
-/
import Derived.Test.YtologmoanaccpaaGreatDoorNc
namespace Go.Proofs.YtologmoanaccpaaGreatDoor
set_option linter.all false
open Go.RowKit Go.Shelf

theorem own_slice {w : World} {b : Nat} {e : TypeId} {s : Nat} {v : Value} {n : Nat} {ys : List Value} (h : w.ownsRow b e s v n ys) : ∃ A c, v = .slice A n c := by
  rcases h.2 with ⟨h1, h2⟩ | ⟨g, cap, cur, h1, _⟩
  · exact ⟨none, 0, by rw [h1, h2]⟩
  · exact ⟨_, cap, h1⟩
def inC (x : Int) : List Value := [.int .i64 x]
theorem sla_row {α : Type} {enc : α → List Value} {k : Nat} {ok : α → Prop} {W : World} {b n c : Nat} {xs : List α} (hk : ∀ x, (enc x).length = k) (hn : xs.length = n) (hc : n ≤ c) (hm : c ≤ 9223372036854775807) (ho : ∀ x ∈ xs, ok x) (hr : RowC W b (xs.flatMap enc)) : SlA enc k ok W (some ⟨b, 0, none⟩) n c xs := by
  refine ⟨hn, hc, hm, ho, fun _ => ⟨b, 0, rfl, fun i x hx j v hv => ?_⟩⟩
  rw [Nat.zero_add]
  refine (hr (i * k + j) v ?_).1
  have hj : j < k := by rw [← hk x]; exact (List.getElem?_eq_some_iff.1 hv).1
  clear hn ho hr hc hm
  induction xs generalizing i with
  | nil => simp at hx
  | cons y ys ih =>
    rw [List.flatMap_cons]
    cases i with
    | zero =>
      simp at hx
      subst hx
      rw [List.getElem?_append_left (by rw [hk]; omega)]
      simpa using hv
    | succ i =>
      rw [List.getElem?_append_right (by rw [hk, Nat.succ_mul]; omega), hk, show (i + 1) * k + j - k = i * k + j by rw [Nat.succ_mul]; omega]
      exact ih i (by simpa using hx)
end Go.Proofs.YtologmoanaccpaaGreatDoor
