/- fits, whatever the numbers; appending to a slice of numbers in a box -/
import Derived.Test.YtdeokdlkjgpffaaGreatDoorUg
import Derived.Test.YtdeokdlkjgpffaaGreatDoorTf
import Derived.RangeFuncBox
import Derived.Maps.AppendAt
namespace Go.Proofs.YtdeokdlkjgpffaaGreatDoor
set_option linter.all false
open Go.RowKit Go.Shelf
attribute [local go_sem] Oper.semAt_some

def loW (m n : Int) : Int := wrap64 (n - wrap64 ((wrap64 (n * m)).tdiv 1000))
def hiW (d n : Int) : Int := wrap64 (n + wrap64 ((wrap64 (n * d)).tdiv 1000))
theorem leastW_any (m d n : Int) (w : World) :
    Calls Tryz.prog 35 #[.agg #[.int .i64 m, .int .i64 d], .int .i64 n] w fun e w' => e = .returned (.int .i64 (loW m n)) ∧ Kept w w' := by
  go_enter Tryz.func35, Tryz.ntmps35
  go_wp2
  go_ret
  exact ⟨rfl, (Kept.refl _).alloc _⟩
theorem greatestW_any (m d n : Int) (w : World) :
    Calls Tryz.prog 36 #[.agg #[.int .i64 m, .int .i64 d], .int .i64 n] w fun e w' => e = .returned (.int .i64 (hiW d n)) ∧ Kept w w' := by
  go_enter Tryz.func36, Tryz.ntmps36
  go_wp2
  go_ret
  exact ⟨rfl, (Kept.refl _).alloc _⟩
theorem loW_eq {m n : Int} (h : 0 ≤ n) (h1 : n ≤ 100000) (k : 0 ≤ m) (k1 : m ≤ 500) : loW m n = loI m n := by
  obtain ⟨p0, p1⟩ := prod_bd h h1 k k1
  have q1 : wrap64 (n * m) = n * m := by unfold wrap64; omega
  unfold loW loI
  rw [q1, Int.tdiv_eq_ediv_of_nonneg p0]
  have q2 : wrap64 (n * m / 1000) = n * m / 1000 := by unfold wrap64; omega
  rw [q2]
  unfold wrap64; omega
theorem hiW_eq {d n : Int} (h : 0 ≤ n) (h1 : n ≤ 100000) (k : 0 ≤ d) (k1 : d ≤ 500) : hiW d n = hiI d n := by
  obtain ⟨p0, p1⟩ := prod_bd h h1 k k1
  have q1 : wrap64 (n * d) = n * d := by unfold wrap64; omega
  unfold hiW hiI
  rw [q1, Int.tdiv_eq_ediv_of_nonneg p0]
  have q2 : wrap64 (n * d / 1000) = n * d / 1000 := by unfold wrap64; omega
  rw [q2]
  unfold wrap64; omega
theorem info3 : (Tryz.prog.info? 3).map (fun i => (i.zero, i.size, i.bytes)) = some (some (.int .i64 0), 1, 8) := by kernel_rfl
theorem own_ints {w : World} {base n c : Nat} {A : Option Addr} {xs : List Int} (h : w.ownsRow base 3 1 (.slice A n c) n (xs.map (Value.int .i64))) : IntA w A n c xs := by
  have hl : xs.length = n := by have := h.1; simpa using this
  rcases h.2 with ⟨h1, h2⟩ | ⟨g, cap, cur, h1, _, hg, hn, hc, hs, ht⟩
  · cases h1; exact ⟨hl, by omega, by omega, fun h => by omega⟩
  · cases h1
    unfold maxLen at hc
    refine ⟨hl, hn, hc, fun _ => ⟨g, 0, rfl, fun i x hx => ?_⟩⟩
    have h3 : (xs.map (Value.int .i64))[i]? = some (.int .i64 x) := by simp [hx]
    rw [← ht] at h3
    have hi : i < n := by rw [← hl]; exact (List.getElem?_eq_some_iff.1 hx).1
    rw [List.getElem?_take_of_lt (by omega), Array.getElem?_toList] at h3
    simp [World.cell?, hg, h3]
theorem own_base {w : World} {b b' : Nat} {e : TypeId} {s : Nat} {v : Value} {n : Nat} {ys : List Value} (h : w.ownsRow b e s v n ys) (hb : b' ≤ b) : w.ownsRow b' e s v n ys :=
  ⟨h.1, h.2.imp id (fun ⟨g, cap, cur, h1, h2, h3⟩ => ⟨g, cap, cur, h1, Nat.le_trans hb h2, h3⟩)⟩
theorem own_out {w : World} {base n : Nat} {v : Value} {xs : List Int} (h : w.ownsRow base 3 1 v n (xs.map (Value.int .i64))) : ∃ A c, v = .slice A n c ∧ IntA w A n c xs := by
  rcases h.2 with ⟨h1, h2⟩ | ⟨g, cap, cur, h1, _⟩
  · subst h1; subst h2; exact ⟨_, _, rfl, own_ints h⟩
  · subst h1; exact ⟨_, _, rfl, own_ints h⟩

/-- **'out = append(out, x)' in a round**: the box lies below n1, the slice's row at n2 = n1 + 3 or beyond -/
theorem appendedD {W w1 : World} {n0 n1 B bs : Nat} {t e : TypeId} {size : Nat} {v v' : Value} {k m : Nat} {xs ys : List Value} {tmp : Obj}
    (hv : Boxed W B t v) (hte : t ≠ e) (hrow : W.ownsRow (n1 + 3) e size v k xs) (hsz : n1 + 3 ≤ W.heap.size) (hn0 : n0 ≤ B) (hB : B < n1) (hbs : bs < n1) (hne : B ≠ bs)
    (hown' : w1.ownsRow (n1 + 3) e size v' m ys) (hgrow : (W.alloc tmp).grownBy w1 v.ownBlock) :
    Boxed w1 B t v ∧ Boxed (w1.setCell ⟨B, 0, none⟩ v') B t v' ∧ (w1.setCell ⟨B, 0, none⟩ v').ownsRow (n1 + 3) e size v' m ys ∧ KpD n0 n1 bs W (w1.setCell ⟨B, 0, none⟩ v') ∧ KeepsOthers W (w1.setCell ⟨B, 0, none⟩ v') ∧ (∀ b vs, b < n1 → b ≠ B → RowC W b vs → RowC (w1.setCell ⟨B, 0, none⟩ v') b vs) := by
  have hob : ∀ j, v.ownBlock = some j → n1 + 3 ≤ j := fun j ej => by
    rcases hrow.2 with ⟨rfl, _⟩ | ⟨g, cap, cur, rfl, hb, _, _⟩
    · simp [Value.ownBlock] at ej
    · obtain rfl : g = j := by simpa [Value.ownBlock] using ej
      exact hb
  have hv1 : Boxed w1 B t v := (hv.alloc tmp).kept hgrow (hv.not_row hte hrow)
  have hko : KeepsOthers W (w1.setCell ⟨B, 0, none⟩ v') := by
    refine ((KeepsOthers.alloc W tmp).trans (KeepsOthers.of_grownBy hgrow fun j o ej hj => ?_)).trans (KeepsOthers.setCell _ _ _)
    rcases (hrow.alloc tmp).2 with ⟨rfl, _⟩ | ⟨g, cap, cur, rfl, _, hgb, _⟩
    · simp [Value.ownBlock] at ej
    · obtain rfl : g = j := by simpa [Value.ownBlock] using ej
      rw [hgb] at hj; cases hj; rfl
  have hblk : ∀ b, b < n1 + 3 → b < W.heap.size → w1.heap[b]? = W.heap[b]? := fun b hb hbW =>
    (hgrow.block b (by simp; omega) (fun e => by have := hob b e.symm; omega)).trans (Below.heap_alloc W tmp b hbW)
  have hcell : ∀ b j, b < n1 + 3 → b < W.heap.size → w1.cell? ⟨b, j, none⟩ = W.cell? ⟨b, j, none⟩ := fun b j hb hbW => by
    unfold World.cell?
    rw [show (⟨b, j, none⟩ : Addr).block = b from rfl, hblk b hb hbW]
  have hfroz : ∀ b j, b < n1 + 3 → b < W.heap.size → w1.frozen? ⟨b, j, none⟩ = W.frozen? ⟨b, j, none⟩ := fun b j hb hbW => by
    unfold World.frozen?
    rw [show (⟨b, j, none⟩ : Addr).block = b from rfl, hblk b hb hbW]
  refine ⟨hv1, hv1.set v', hown'.kept (grownBy_setCell' w1 B v') (.inr (hv1.not_row hte hown').symm), ⟨?_, ⟨hko.size, fun k h1 h2 h3 => ?_, hko.from _⟩, fun u hu => ?_⟩, hko, fun b vs hb hne2 hr => ?_⟩
  · exact (((Below.refl n0 W).alloc (by omega) tmp).grown hgrow (by simp; omega) (fun j ej => by have := hob j ej; omega)).setCell (p := ⟨B, 0, none⟩) hn0 v'
  · rw [Below.heap_setCell _ _ _ _ (fun (e : k = B) => absurd e (by omega))]
    exact hblk k h2 h3
  · rw [World.cell?_setCell_far _ _ _ _ (by simpa using hne), hcell bs 0 (by omega) (cell_lt hu)]; exact hu
  · have hr1 : RowC w1 b vs := fun j u hu => ⟨(hcell b j (by omega) (cell_lt (hr j u hu).1)).trans (hr j u hu).1, (hfroz b j (by omega) (cell_lt (hr j u hu).1)).trans (hr j u hu).2⟩
    exact hr1.far hne2 _
end Go.Proofs.YtdeokdlkjgpffaaGreatDoor
