/- what Passage says, without a walk -/
import Derived.Test.YtjaicilnlgjdcaaWk
import Derived.Test.YtjaicilnlgjdcaaVd
namespace Go.Proofs.Ytjaicilnlgjdcaa
set_option linter.all false
open Go.RowKit Go.Shelf

def goodV (s : Iv) : Prop := (s.so = true ∧ 0 ≤ s.lo ∧ s.hi ≤ 100000 ∧ s.lo ≤ s.hi) ∨ s = iv0
def inV (s : Iv) (n : Int) : Prop := s.so = true ∧ s.lo ≤ n ∧ n ≤ s.hi
theorem ocV_ok (r : Rt) (c : Ct) : goodV (ocV r c) := by
  rcases oc_ok r.m r.d c.id c.dy c.sh c.nu c.wo with h | h
  · exact .inl h
  · right; unfold ocV; rw [h]; rfl
theorem emp_iv0 : empB iv0.lo iv0.hi iv0.so = true := by decide
theorem emp_good {s : Iv} (h : goodV s) : emI s = !s.so := by
  rcases h with h | h
  · unfold emI empB; rw [h.1]; simp
  · subst h; decide
theorem bV_good {x y : Iv} (hx : goodV x) (hy : goodV y) : goodV (bV x y) ∧ ∀ n, inV (bV x y) n ↔ inV x n ∧ inV y n := by
  have ex := emp_good hx
  have ey := emp_good hy
  unfold emI at ex ey
  by_cases h : x.so = true ∧ y.so = true
  · obtain ⟨h1, h2⟩ := h
    have hx' : 0 ≤ x.lo ∧ x.hi ≤ 100000 ∧ x.lo ≤ x.hi := by
      rcases hx with h | h
      · exact h.2
      · rw [h] at h1; cases h1
    have hy' : 0 ≤ y.lo ∧ y.hi ≤ 100000 ∧ y.lo ≤ y.hi := by
      rcases hy with h | h
      · exact h.2
      · rw [h] at h2; cases h2
    have e : bV x y = ⟨spL (max x.lo y.lo) (min x.hi y.hi), spH (max x.lo y.lo) (min x.hi y.hi), spS (max x.lo y.lo) (min x.hi y.hi)⟩ := by
      unfold bV bothI
      rw [if_neg (by rw [ex, ey, h1, h2]; simp)]
      rfl
    rw [e]
    unfold goodV inV spL spH spS iv0
    by_cases hm : max x.lo y.lo ≤ min x.hi y.hi
    · simp only [hm, if_true, decide_true, h1, h2]
      refine ⟨.inl ⟨trivial, by omega, by omega, trivial⟩, fun n => ?_⟩
      constructor
      · rintro ⟨_, a, b⟩; exact ⟨⟨trivial, by omega, by omega⟩, trivial, by omega, by omega⟩
      · rintro ⟨⟨_, a, b⟩, _, c, d⟩; exact ⟨trivial, by omega, by omega⟩
    · simp only [hm, if_false, decide_false, h1, h2]
      refine ⟨.inr trivial, fun n => ?_⟩
      constructor
      · rintro ⟨a, _⟩; cases a
      · rintro ⟨⟨_, a, b⟩, _, c, d⟩; omega
  · have e : bV x y = iv0 := by
      unfold bV bothI
      rw [if_pos (by rw [ex, ey]; simp only [Bool.not_eq_true']; cases hx1 : x.so <;> cases hy1 : y.so <;> simp_all)]
      rfl
    rw [e]
    refine ⟨.inr rfl, fun n => ?_⟩
    constructor
    · rintro ⟨a, _⟩; cases a
    · rintro ⟨⟨a, _⟩, b, _⟩; exact absurd ⟨a, b⟩ h
theorem fold_good : ∀ (l : List Iv) (a : Iv), goodV a → (∀ s ∈ l, goodV s) → goodV (foldB a l) ∧ ∀ n, inV (foldB a l) n ↔ inV a n ∧ ∀ s ∈ l, inV s n
  | [], a, ha, _ => ⟨ha, fun n => by simp [foldB]⟩
  | x :: l, a, ha, hl => by
    have hb := bV_good ha (hl x (by simp))
    have ih := fold_good l (bV a x) hb.1 (fun s hs => hl s (List.mem_cons_of_mem _ hs))
    refine ⟨ih.1, fun n => ?_⟩
    have e : foldB a (x :: l) = foldB (bV a x) l := rfl
    rw [e, ih.2 n, hb.2 n]
    simp only [List.mem_cons, forall_eq_or_imp]
    exact ⟨fun ⟨⟨h1, h2⟩, h3⟩ => ⟨h1, h2, h3⟩, fun ⟨h1, h2, h3⟩ => ⟨⟨h1, h2⟩, h3⟩⟩
theorem good_in {s : Iv} (h : goodV s) : s.so = true → inV s s.lo := fun hs => by
  rcases h with h | h
  · exact ⟨hs, by omega, h.2.2.2⟩
  · rw [h] at hs; cases hs
theorem spn_good {rs : List Rt} {cs : List Ct} : ∀ s ∈ spn rs cs, goodV s := by
  intro s hs
  obtain ⟨i, hi, he⟩ := List.mem_iff_getElem.1 hs
  unfold spn at hi he
  rw [List.getElem_zipWith] at he
  rw [← he]
  exact ocV_ok _ _
def a100 : Iv := ⟨0, 100000, true⟩
theorem a100_good : goodV a100 := .inl ⟨rfl, by decide, by decide, by decide⟩
/-- where all have a number in common, none are apart -/
theorem some_none {l : List Iv} (hl : ∀ s ∈ l, goodV s) (h : (foldB a100 l).so = true) {ids : List Int} (hp : ApRes l ids) : ids = [] := by
  have hf := fold_good l a100 a100_good hl
  have hn := (hf.2 _).1 (good_in hf.1 h)
  rcases hp with ⟨i, j, x, y, rfl, hij, hx, hy, he, _⟩ | ⟨h, _⟩
  · have gx := hl x (List.mem_of_getElem? hx)
    have gy := hl y (List.mem_of_getElem? hy)
    have hb := bV_good gx gy
    have := (hb.2 _).2 ⟨hn.2 x (List.mem_of_getElem? hx), hn.2 y (List.mem_of_getElem? hy)⟩
    rw [emp_good hb.1, this.1] at he
    cases he
  · exact h
theorem none_some {l : List Iv} (hl : ∀ s ∈ l, goodV s) (h : (foldB a100 l).so = true) : ApRes l [] := by
  have hf := fold_good l a100 a100_good hl
  have hn := (hf.2 _).1 (good_in hf.1 h)
  refine .inr ⟨rfl, fun i j x y hij hx hy => ?_⟩
  have hb := bV_good (hl x (List.mem_of_getElem? hx)) (hl y (List.mem_of_getElem? hy))
  have := (hb.2 _).2 ⟨hn.2 x (List.mem_of_getElem? hx), hn.2 y (List.mem_of_getElem? hy)⟩
  rw [emp_good hb.1, this.1]; rfl
theorem max_lo : ∀ (l : List Iv), l ≠ [] → ∃ s ∈ l, ∀ t ∈ l, t.lo ≤ s.lo
  | [], h => absurd rfl h
  | [x], _ => ⟨x, by simp, fun t ht => by simp at ht; rw [ht]; omega⟩
  | x :: y :: l, _ => by
    obtain ⟨s, hs, hm⟩ := max_lo (y :: l) (by simp)
    rcases Int.lt_or_le s.lo x.lo with h | h
    · exact ⟨x, by simp, fun t ht => by
        rcases List.mem_cons.1 ht with rfl | ht
        · omega
        · have := hm t ht; omega⟩
    · exact ⟨s, List.mem_cons_of_mem _ hs, fun t ht => by
        rcases List.mem_cons.1 ht with rfl | ht
        · exact h
        · exact hm t ht⟩
/-- where no two are apart, all have a number in common -/
theorem pairs_some {l : List Iv} (hne : l ≠ []) (hl : ∀ s ∈ l, goodV s) (h : ∀ (i j : Nat) (x y : Iv), i ≤ j → l[i]? = some x → l[j]? = some y → emI (bV x y) = false) : (foldB a100 l).so = true := by
  have hp : ∀ x ∈ l, ∀ y ∈ l, (bV x y).so = true := by
    intro x hx y hy
    obtain ⟨i, hi, hxi⟩ := List.mem_iff_getElem.1 hx
    obtain ⟨j, hj, hyj⟩ := List.mem_iff_getElem.1 hy
    have gx := hl x hx
    have gy := hl y hy
    have hx' : l[i]? = some x := List.getElem?_eq_some_iff.2 ⟨hi, hxi⟩
    have hy' : l[j]? = some y := List.getElem?_eq_some_iff.2 ⟨hj, hyj⟩
    rcases Nat.le_total i j with hij | hij
    · have h1 := h i j x y hij hx' hy'
      rw [emp_good (bV_good gx gy).1] at h1
      simpa using h1
    · have h1 := h j i y x hij hy' hx'
      rw [emp_good (bV_good gy gx).1] at h1
      have h2 : (bV y x).so = true := by simpa using h1
      have h3 := (bV_good gy gx).2 _ |>.1 (good_in (bV_good gy gx).1 h2)
      exact ((bV_good gx gy).2 _ |>.2 ⟨h3.2, h3.1⟩).1
  obtain ⟨s, hs, hm⟩ := max_lo l hne
  have hss := hp s hs s hs
  have hin : ∀ t ∈ l, inV t s.lo := by
    intro t ht
    have h1 := hp s hs t ht
    have hb := bV_good (hl s hs) (hl t ht)
    have h2 := (hb.2 _).1 (good_in hb.1 h1)
    exact ⟨h2.2.1, hm t ht, by have := h2.1.2.1; have := h2.2.2.2; omega⟩
  have hs1 := hin s hs
  have hf := fold_good l a100 a100_good hl
  have hsb : 0 ≤ s.lo ∧ s.lo ≤ 100000 := by
    rcases hl s hs with h | h
    · omega
    · rw [h]; decide
  exact ((hf.2 s.lo).2 ⟨⟨rfl, hsb.1, hsb.2⟩, hin⟩).1
theorem ap_unique {l : List Iv} {a b : List Int} (ha : ApRes l a) (hb : ApRes l b) : a = b := by
  rcases ha with ⟨i, j, x, y, rfl, hij, hx, hy, he, hf⟩ | ⟨rfl, hn⟩
  · rcases hb with ⟨i', j', x', y', rfl, hij', hx', hy', he', hf'⟩ | ⟨rfl, hn'⟩
    · have h1 : ¬ (i' < i ∨ (i' = i ∧ j' < j)) := fun h => by
        have := hf i' j' x' y' hij' h hx' hy'
        rw [he'] at this; cases this
      have h2 : ¬ (i < i' ∨ (i = i' ∧ j < j')) := fun h => by
        have := hf' i j x y hij h hx hy
        rw [he] at this; cases this
      have e1 : i = i' := by omega
      have e2 : j = j' := by omega
      rw [e1, e2]
    · have := hn' i j x y hij hx hy
      rw [he] at this; cases this
  · rcases hb with ⟨i', j', x', y', rfl, hij', hx', hy', he', hf'⟩ | ⟨rfl, hn'⟩
    · have := hn i' j' x' y' hij' hx' hy'
      rw [he'] at this; cases this
    · rfl
theorem pass_unique {rs : List Rt} {cs : List Ct} {x y : Iv} {a b : List Int} {p q : Int} (h : PassRes rs cs x a p) (k : PassRes rs cs y b q) : x = y ∧ a = b ∧ p = q := by
  rcases h with ⟨rfl, h1, rfl, rfl⟩ | ⟨rfl, h1, h2, rfl, rfl⟩ | ⟨rfl, h1, h2, h3, h4, rfl, h6⟩
  · rcases k with ⟨rfl, k1, rfl, rfl⟩ | ⟨rfl, k1, k2, rfl, rfl⟩ | ⟨rfl, k1, k2, k3, k4, rfl, k6⟩
    · exact ⟨rfl, rfl, rfl⟩
    · omega
    · omega
  · rcases k with ⟨rfl, k1, rfl, rfl⟩ | ⟨rfl, k1, k2, rfl, rfl⟩ | ⟨rfl, k1, k2, k3, k4, rfl, k6⟩
    · omega
    · exact ⟨rfl, rfl, rfl⟩
    · exfalso
      rcases h2 with h2 | h2 | ⟨j, r, c, hr, hc, hb⟩
      · omega
      · exact h2 k3
      · have := k4 j r c hr hc
        rw [hb] at this; cases this
  · rcases k with ⟨rfl, k1, rfl, rfl⟩ | ⟨rfl, k1, k2, rfl, rfl⟩ | ⟨rfl, k1, k2, k3, k4, rfl, k6⟩
    · omega
    · exfalso
      rcases k2 with k2 | k2 | ⟨j, r, c, hr, hc, hb⟩
      · omega
      · exact k2 h3
      · have := h4 j r c hr hc
        rw [hb] at this; cases this
    · exact ⟨rfl, ap_unique h6 k6, rfl⟩
end Go.Proofs.Ytjaicilnlgjdcaa
