/-
  the search for a beast more: the numbers of gain
  meeting assignments and shortages: their numbers
  the first assignment that meets claims: its numbers
-/
import Derived.Test.YtologmoanaccpaaGreatDoorNA
namespace Go.Proofs.YtologmoanaccpaaGreatDoor
set_option linter.all false

/-- each beast's owner is one whom it fits -/
def SkV (fits : List Nat) (ow : List Int) : Prop := ow.length = fits.length ∧ ∀ (b : Nat) (x : Int), ow[b]? = some x → x ≠ 0 → 1 ≤ x ∧ x ≤ 40 ∧ ∃ f, fits[b]? = some f ∧ f.testBit x.toNat = true
/-- what a search that succeeds has done -/
def SkT (o a : Nat) (ow ow' : List Int) : Prop :=
  (∀ q : Int, q ≠ 0 → q ≠ (o : Int) → ow'.count q = ow.count q) ∧ ow'.count (o : Int) = ow.count (o : Int) + 1 ∧
  (∀ (b : Nat) (x : Int), ow[b]? = some x → x ≠ 0 → (a.testBit x.toNat = true ∨ x = (o : Int)) → ow'[b]? = some x)
/-- what is known of those whom a search that fails has asked -/
def SkQ (fits : List Nat) (ow : List Int) (a' q : Nat) : Prop := 1 ≤ q ∧ q ≤ 40 ∧ ∀ (b f : Nat), fits[b]? = some f → f.testBit q = true → ∃ x, ow[b]? = some x ∧ x ≠ 0 ∧ a'.testBit x.toNat = true
def SkF (fits : List Nat) (o a a' : Nat) (ow : List Int) : Prop :=
  a'.testBit o = true ∧ (∀ q, a.testBit q = true → a'.testBit q = true) ∧ ∀ q, a'.testBit q = true → a.testBit q = false → SkQ fits ow a' q
theorem SkQ.mono {fits : List Nat} {ow : List Int} {a a' q : Nat} (h : SkQ fits ow a q) (hm : ∀ q, a.testBit q = true → a'.testBit q = true) : SkQ fits ow a' q :=
  ⟨h.1, h.2.1, fun b f h1 h2 => by obtain ⟨x, e1, e2, e3⟩ := h.2.2 b f h1 h2; exact ⟨x, e1, e2, hm _ e3⟩⟩
def mu (a : Nat) : Nat := ((List.range 41).filter fun i => !a.testBit i).length
theorem filter_lt {α : Type} {p q : α → Bool} : ∀ {l : List α}, (∀ x, p x = true → q x = true) → (∃ x ∈ l, q x = true ∧ p x = false) → (l.filter p).length < (l.filter q).length
  | [], _, h => by obtain ⟨x, hx, _⟩ := h; cases hx
  | y :: l, hpq, h => by
    have hle : (l.filter p).length ≤ (l.filter q).length := by
      clear h
      induction l with
      | nil => simp
      | cons z l ih =>
        by_cases h1 : p z = true
        · rw [List.filter_cons_of_pos h1, List.filter_cons_of_pos (hpq z h1)]; simp; exact ih
        · rw [List.filter_cons_of_neg h1]
          by_cases h2 : q z = true
          · rw [List.filter_cons_of_pos h2]; simp; omega
          · rw [List.filter_cons_of_neg h2]; exact ih
    obtain ⟨x, hx, h1, h2⟩ := h
    rcases List.mem_cons.1 hx with rfl | hx
    · rw [List.filter_cons_of_neg (by simp [h2]), List.filter_cons_of_pos h1]; simp; omega
    · have ih := filter_lt hpq ⟨x, hx, h1, h2⟩
      by_cases h3 : p y = true
      · rw [List.filter_cons_of_pos h3, List.filter_cons_of_pos (hpq y h3)]; simp; exact ih
      · rw [List.filter_cons_of_neg h3]
        by_cases h4 : q y = true
        · rw [List.filter_cons_of_pos h4]; simp; omega
        · rw [List.filter_cons_of_neg h4]; exact ih
theorem mu_lt {a a' o : Nat} (h : ∀ q, a.testBit q = true → a'.testBit q = true) (ho : o ≤ 40) (h1 : a.testBit o = false) (h2 : a'.testBit o = true) : mu a' < mu a :=
  filter_lt (fun x hx => by
    cases e : a.testBit x
    · rfl
    · rw [h x e] at hx; cases hx) ⟨o, by simp; omega, by rw [h1]; rfl, by rw [h2]; rfl⟩
theorem mu_le {a a' : Nat} (h : ∀ q, a.testBit q = true → a'.testBit q = true) : mu a' ≤ mu a := by
  by_cases hx : ∃ o, o ≤ 40 ∧ a.testBit o = false ∧ a'.testBit o = true
  · obtain ⟨o, h0, h1, h2⟩ := hx
    exact Nat.le_of_lt (mu_lt h h0 h1 h2)
  · have : mu a' = mu a := by
      unfold mu
      congr 1
      apply List.filter_congr
      intro x hx'
      cases e : a.testBit x
      · cases e' : a'.testBit x
        · rfl
        · exact absurd ⟨x, by simp at hx'; omega, e, e'⟩ hx
      · rw [h x e]
    omega
theorem bit_or {a o q : Nat} : (a ||| 2 ^ o).testBit q = (a.testBit q || decide (o = q)) := by rw [Nat.testBit_or, Nat.testBit_two_pow]
theorem set_at {ow : List Int} {k b : Nat} {o : Int} : (ow.set k o)[b]? = if k = b then (if b < ow.length then some o else none) else ow[b]? := by
  rw [List.getElem?_set]
  by_cases h : k = b
  · subst h; simp
  · simp [h]
/-- a beast that is nobody's is taken -/
theorem skt_free {fits : List Nat} {ow : List Int} {o a k f : Nat} (hv : SkV fits ow) (ho : 1 ≤ o) (ho2 : o ≤ 40) (hf : fits[k]? = some f) (hb : f.testBit o = true) (hk : ow[k]? = some 0) :
    SkV fits (ow.set k (o : Int)) ∧ SkT o a ow (ow.set k (o : Int)) := by
  have hkl := (List.getElem?_eq_some_iff.1 hk).1
  have hke : ow[k] = 0 := (List.getElem?_eq_some_iff.1 hk).2
  refine ⟨⟨by rw [List.length_set]; exact hv.1, fun b x hx hx0 => ?_⟩, fun q hq hqo => ?_, ?_, fun b x hx hx0 _ => ?_⟩
  · rw [set_at] at hx
    by_cases h : k = b
    · subst h
      rw [if_pos rfl, if_pos hkl] at hx
      cases hx
      exact ⟨by omega, by omega, f, hf, by rw [Int.toNat_natCast]; exact hb⟩
    · rw [if_neg h] at hx
      exact hv.2 b x hx hx0
  · rw [List.count_set hkl, hke]
    have e1 : ((0 : Int) == q) = false := by simp; omega
    have e2 : ((o : Int) == q) = false := by simp; omega
    simp [e1, e2]
  · rw [List.count_set hkl, hke]
    have e1 : ((0 : Int) == (o : Int)) = false := by simp; omega
    simp [e1]
  · rw [set_at]
    by_cases h : k = b
    · subst h
      rw [hk] at hx
      cases hx
      exact absurd rfl hx0
    · rw [if_neg h]; exact hx
/-- a beast is taken from an owner who has found another -/
theorem skt_swap {fits : List Nat} {ow ow1 : List Int} {o a a1 k f h : Nat} (hv : SkV fits ow) (hv1 : SkV fits ow1) (ho : 1 ≤ o) (ho2 : o ≤ 40) (hf : fits[k]? = some f) (hb : f.testBit o = true) (hk : ow[k]? = some (h : Int)) (hh : 1 ≤ h)
    (ha : a1.testBit h = false) (hm : ∀ q, a.testBit q = true → a1.testBit q = true) (hao : a1.testBit o = true) (ht : SkT h a1 ow ow1) :
    SkV fits (ow1.set k (o : Int)) ∧ SkT o a ow (ow1.set k (o : Int)) := by
  obtain ⟨t1, t2, t3⟩ := ht
  have hoh : o ≠ h := fun e => by subst e; rw [hao] at ha; cases ha
  have hk1 : ow1[k]? = some (h : Int) := t3 k _ hk (by omega) (.inr rfl)
  have hkl := (List.getElem?_eq_some_iff.1 hk1).1
  have hke : ow1[k] = (h : Int) := (List.getElem?_eq_some_iff.1 hk1).2
  refine ⟨⟨by rw [List.length_set]; exact hv1.1, fun b x hx hx0 => ?_⟩, fun q hq hqo => ?_, ?_, fun b x hx hx0 hor => ?_⟩
  · rw [set_at] at hx
    by_cases h' : k = b
    · subst h'
      rw [if_pos rfl, if_pos hkl] at hx
      cases hx
      exact ⟨by omega, by omega, f, hf, by rw [Int.toNat_natCast]; exact hb⟩
    · rw [if_neg h'] at hx
      exact hv1.2 b x hx hx0
  · rw [List.count_set hkl, hke]
    have e2 : ((o : Int) == q) = false := by simp; omega
    by_cases hqh : q = (h : Int)
    · subst hqh
      have : 0 < ow1.count (h : Int) := by omega
      simp [e2]
      omega
    · have e1 : ((h : Int) == q) = false := by simp; omega
      simp [e1, e2]
      exact t1 q hq hqh
  · rw [List.count_set hkl, hke]
    have e1 : ((h : Int) == (o : Int)) = false := by simp; omega
    simp [e1]
    exact t1 _ (by omega) (by omega)
  · have hb1 : ow1[b]? = some x := by
      refine t3 b x hx hx0 (.inl ?_)
      rcases hor with h1 | rfl
      · exact hm _ h1
      · rw [Int.toNat_natCast]; exact hao
    rw [set_at]
    by_cases h' : k = b
    · subst h'
      rw [hk] at hx
      cases hx
      rcases hor with h1 | h1
      · rw [Int.toNat_natCast] at h1
        rw [hm _ h1] at ha; cases ha
      · omega
    · rw [if_neg h']; exact hb1
end Go.Proofs.YtologmoanaccpaaGreatDoor

namespace Go.Proofs.YtologmoanaccpaaGreatDoor
set_option linter.all false

/-- how many beasts an owner claims, if at all -/
def wq (wt : List Int) (o : Nat) : Int := wt.getD o 0
def wc (cl : Nat) (wt : List Int) (o : Nat) : Int := if cl.testBit o = true then wq wt o else 0
/-- an assignment that meets claims; what shows that there is none -/
def MetA (fits : List Nat) (cl : Nat) (wt : List Int) (ow : List Int) : Prop := SkV fits ow ∧ ∀ o : Nat, 1 ≤ o → o ≤ 40 → ((ow.count (o : Int) : Nat) : Int) = wc cl wt o
def ShA (fits : List Nat) (cl : Nat) (wt : List Int) : Prop :=
  ∃ (ow : List Int) (a o : Nat), SkV fits ow ∧ (∀ q : Nat, 1 ≤ q → q ≤ 40 → ((ow.count (q : Int) : Nat) : Int) ≤ wc cl wt q) ∧ 1 ≤ o ∧ o ≤ 40 ∧ ((ow.count (o : Int) : Nat) : Int) < wc cl wt o ∧ a.testBit o = true ∧ ∀ q, a.testBit q = true → SkQ fits ow a q
def sq (a : Nat) (f : Nat → Int) : Int := ((List.range 41).map fun q => if 1 ≤ q ∧ a.testBit q = true then f q else 0).sum
theorem sum_add {α : Type} (f g : α → Int) : ∀ l : List α, (l.map fun q => f q + g q).sum = (l.map f).sum + (l.map g).sum
  | [] => by simp
  | x :: l => by simp only [List.map_cons, List.sum_cons, sum_add f g l]; omega
theorem sum_le {α : Type} (f g : α → Int) : ∀ l : List α, (∀ x ∈ l, f x ≤ g x) → (l.map f).sum ≤ (l.map g).sum
  | [], _ => by simp
  | x :: l, h => by
    have h1 := h x (List.mem_cons_self ..)
    have h2 := sum_le f g l (fun y hy => h y (List.mem_cons_of_mem _ hy))
    simp only [List.map_cons, List.sum_cons]; omega
theorem sum_lt {α : Type} (f g : α → Int) : ∀ l : List α, (∀ x ∈ l, f x ≤ g x) → (∃ x ∈ l, f x < g x) → (l.map f).sum < (l.map g).sum
  | [], _, h => by obtain ⟨x, hx, _⟩ := h; cases hx
  | x :: l, h, h3 => by
    have h1 := h x (List.mem_cons_self ..)
    have hl := fun y hy => h y (List.mem_cons_of_mem x hy)
    simp only [List.map_cons, List.sum_cons]
    obtain ⟨y, hy, hlt⟩ := h3
    rcases List.mem_cons.1 hy with rfl | hy
    · have h2 := sum_le f g l hl; omega
    · have h2 := sum_lt f g l hl ⟨y, hy, hlt⟩; omega
theorem sum_one (p : Nat → Bool) (k : Nat) : ∀ n : Nat, ((List.range n).map fun q => if p q = true ∧ q = k then (1 : Int) else 0).sum = if k < n ∧ p k = true then 1 else 0
  | 0 => by simp
  | n + 1 => by
    rw [List.range_succ, List.map_append, List.sum_append, sum_one p k n]
    simp only [List.map_cons, List.map_nil, List.sum_cons, List.sum_nil]
    by_cases e : n = k
    · subst e
      by_cases hp : p n = true
      · simp [hp]
      · simp [hp]
    · have h1 : ¬ (p n = true ∧ n = k) := fun h => e h.2
      rw [if_neg h1]
      by_cases hk : k < n ∧ p k = true
      · rw [if_pos hk, if_pos ⟨by omega, hk.2⟩]; rfl
      · rw [if_neg hk, if_neg (fun h => hk ⟨by omega, h.2⟩)]; rfl
def isA (a : Nat) (x : Int) : Bool := decide (x ≠ 0) && a.testBit x.toNat
theorem sq_count (a : Nat) : ∀ ow : List Int, (∀ x ∈ ow, x = 0 ∨ 1 ≤ x ∧ x ≤ 40) → sq a (fun q => ((ow.count (q : Int) : Nat) : Int)) = (((ow.filter (isA a)).length : Nat) : Int)
  | [], _ => by
    unfold sq
    have : (fun q : Nat => if 1 ≤ q ∧ a.testBit q = true then ((([] : List Int).count (q : Int) : Nat) : Int) else 0) = fun _ => 0 := by funext q; simp
    rw [this]
    simp only [List.filter_nil, List.length_nil]
    decide
  | x :: ow, h => by
    have ih := sq_count a ow (fun y hy => h y (List.mem_cons_of_mem _ hy))
    have hx := h x (List.mem_cons_self ..)
    have e : sq a (fun q => (((x :: ow).count (q : Int) : Nat) : Int)) = sq a (fun q => ((ow.count (q : Int) : Nat) : Int)) + ((List.range 41).map fun q => if (decide (1 ≤ q) && a.testBit q) = true ∧ q = x.toNat then (1 : Int) else 0).sum := by
      unfold sq
      rw [← sum_add]
      congr 1
      apply List.map_congr_left
      intro q hq
      dsimp only
      rw [List.count_cons]
      by_cases h1 : 1 ≤ q ∧ a.testBit q = true
      · rw [if_pos h1, if_pos h1]
        have h2 : (decide (1 ≤ q) && a.testBit q) = true := by simp [h1]
        by_cases h3 : q = x.toNat
        · have : (x == (q : Int)) = true := by simp; omega
          rw [if_pos this, if_pos ⟨h2, h3⟩]; omega
        · have : ¬ (x == (q : Int)) = true := by simp; omega
          rw [if_neg this, if_neg (fun h => h3 h.2)]; omega
      · rw [if_neg h1, if_neg h1, if_neg (fun h => h1 (by simpa using h.1))]; rfl
    rw [e, ih, sum_one]
    rw [List.filter_cons]
    unfold isA
    rcases hx with rfl | ⟨h1, h2⟩
    · simp
    · have e1 : x ≠ 0 := by omega
      have e2 : x.toNat < 41 := by omega
      have e3 : 1 ≤ x.toNat := by omega
      by_cases hb : a.testBit x.toNat = true
      · simp [e1, e2, e3, hb]
      · simp [e1, e2, e3, hb]
theorem sq_le (a : Nat) (f g : Nat → Int) (h : ∀ q, 1 ≤ q → q ≤ 40 → a.testBit q = true → f q ≤ g q) : sq a f ≤ sq a g := by
  unfold sq
  refine sum_le _ _ _ fun q hq => ?_
  by_cases h1 : 1 ≤ q ∧ a.testBit q = true
  · rw [if_pos h1, if_pos h1]; exact h q h1.1 (by simp at hq; omega) h1.2
  · rw [if_neg h1, if_neg h1]; exact Int.le_refl _
theorem sq_lt (a : Nat) (f g : Nat → Int) (h : ∀ q, 1 ≤ q → q ≤ 40 → a.testBit q = true → f q ≤ g q) {o : Nat} (h1 : 1 ≤ o) (h2 : o ≤ 40) (h3 : a.testBit o = true) (h4 : f o < g o) : sq a f < sq a g := by
  unfold sq
  refine sum_lt _ _ _ (fun q hq => ?_) ⟨o, by simp; omega, ?_⟩
  · by_cases h1 : 1 ≤ q ∧ a.testBit q = true
    · rw [if_pos h1, if_pos h1]; exact h q h1.1 (by simp at hq; omega) h1.2
    · rw [if_neg h1, if_neg h1]; exact Int.le_refl _
  · rw [if_pos ⟨h1, h3⟩, if_pos ⟨h1, h3⟩]; exact h4
theorem SkV.dom {fits : List Nat} {ow : List Int} (h : SkV fits ow) : ∀ x ∈ ow, x = 0 ∨ 1 ≤ x ∧ x ≤ 40 := fun x hx => by
  obtain ⟨b, hb⟩ := List.getElem?_of_mem hx
  by_cases h0 : x = 0
  · exact .inl h0
  · exact .inr ⟨(h.2 b x hb h0).1, (h.2 b x hb h0).2.1⟩
/-- beasts that fit somebody of a -/
def fitA (a f : Nat) : Bool := f &&& a != 0
theorem fitA_of {a f q : Nat} (h1 : f.testBit q = true) (h2 : a.testBit q = true) : fitA a f = true := by
  unfold fitA
  simp only [bne_iff_ne, ne_eq]
  intro h
  have := Nat.zero_testBit q
  rw [← h, Nat.testBit_and, h1, h2] at this
  cases this
theorem fitA_iff {a f : Nat} : fitA a f = true ↔ ∃ q, f.testBit q = true ∧ a.testBit q = true := by
  refine ⟨fun h => ?_, fun ⟨q, h1, h2⟩ => fitA_of h1 h2⟩
  unfold fitA at h
  simp only [bne_iff_ne, ne_eq] at h
  by_cases hx : ∃ q, (f &&& a).testBit q = true
  · obtain ⟨q, hq⟩ := hx
    rw [Nat.testBit_and] at hq
    simp at hq
    exact ⟨q, hq⟩
  · refine absurd (Nat.eq_of_testBit_eq fun i => ?_) h
    rw [Nat.zero_testBit]
    cases e : (f &&& a).testBit i
    · rfl
    · exact absurd ⟨i, e⟩ hx
theorem len_le {p : Int → Bool} {q : Nat → Bool} : ∀ {l : List Int} {m : List Nat}, l.length = m.length → (∀ (b : Nat) (x : Int) (f : Nat), l[b]? = some x → m[b]? = some f → p x = true → q f = true) → (l.filter p).length ≤ (m.filter q).length
  | [], _, _, _ => by simp
  | x :: l, [], h, _ => by simp at h
  | x :: l, f :: m, h, hp => by
    have ih := len_le (p := p) (q := q) (l := l) (m := m) (by simpa using h) (fun b x f h1 h2 => hp (b + 1) x f (by simpa using h1) (by simpa using h2))
    have h0 := hp 0 x f rfl rfl
    rw [List.filter_cons, List.filter_cons]
    by_cases e : p x = true
    · rw [if_pos e, if_pos (h0 e)]; simp; exact ih
    · rw [if_neg e]
      by_cases e2 : q f = true
      · rw [if_pos e2]; simp; omega
      · rw [if_neg e2]; exact ih
theorem len_ge {p : Int → Bool} {q : Nat → Bool} : ∀ {l : List Int} {m : List Nat}, l.length = m.length → (∀ (b : Nat) (x : Int) (f : Nat), l[b]? = some x → m[b]? = some f → q f = true → p x = true) → (m.filter q).length ≤ (l.filter p).length
  | [], m, h, _ => by
    have : m = [] := List.length_eq_zero_iff.1 (by simpa using h.symm)
    simp [this]
  | x :: l, [], h, _ => by simp at h
  | x :: l, f :: m, h, hp => by
    have ih := len_ge (p := p) (q := q) (l := l) (m := m) (by simpa using h) (fun b x f h1 h2 => hp (b + 1) x f (by simpa using h1) (by simpa using h2))
    have h0 := hp 0 x f rfl rfl
    rw [List.filter_cons, List.filter_cons]
    by_cases e : q f = true
    · rw [if_pos e, if_pos (h0 e)]; simp; exact ih
    · rw [if_neg e]
      by_cases e2 : p x = true
      · rw [if_pos e2]; simp; omega
      · rw [if_neg e2]; exact ih
/-- the beasts that a meeting assignment gives to a are some that fit a -/
theorem met_le {fits : List Nat} {cl : Nat} {wt ow : List Int} (h : MetA fits cl wt ow) (a : Nat) : sq a (wc cl wt) ≤ (((fits.filter (fitA a)).length : Nat) : Int) := by
  have e : sq a (wc cl wt) ≤ sq a (fun q => ((ow.count (q : Int) : Nat) : Int)) := sq_le _ _ _ fun q h1 h2 _ => by rw [h.2 q h1 h2]; exact Int.le_refl _
  rw [sq_count a ow h.1.dom] at e
  refine Int.le_trans e (Int.ofNat_le.2 (len_le h.1.1 fun b x f hx hf hp => ?_))
  unfold isA at hp
  simp at hp
  obtain ⟨_, _, f', hf', hb⟩ := h.1.2 b x hx hp.1
  rw [hf] at hf'
  cases hf'
  exact fitA_of hb hp.2
theorem sh_gt {fits : List Nat} {cl : Nat} {wt : List Int} (h : ShA fits cl wt) : ∃ a, (∀ q, a.testBit q = true → 1 ≤ q ∧ q ≤ 40) ∧ (((fits.filter (fitA a)).length : Nat) : Int) < sq a (wc cl wt) := by
  obtain ⟨ow, a, o, hv, hle, h1, h2, hlt, ha, hq⟩ := h
  refine ⟨a, fun q h => ⟨(hq q h).1, (hq q h).2.1⟩, ?_⟩
  have e := sq_lt a (fun q => ((ow.count (q : Int) : Nat) : Int)) (wc cl wt) (fun q h1 h2 _ => hle q h1 h2) h1 h2 ha hlt
  rw [sq_count a ow hv.dom] at e
  refine Int.lt_of_le_of_lt (Int.ofNat_le.2 (len_ge hv.1 fun b x f hx hf hp => ?_)) e
  obtain ⟨q, h3, h4⟩ := fitA_iff.1 hp
  obtain ⟨y, h5, h6, h7⟩ := (hq q h4).2.2 b f hf h3
  rw [hx] at h5
  cases h5
  unfold isA
  simp [h6, h7]
theorem met_not_sh {fits : List Nat} {cl : Nat} {wt ow : List Int} (h : MetA fits cl wt ow) : ¬ ShA fits cl wt := fun hs => by
  obtain ⟨a, _, h1⟩ := sh_gt hs
  have := met_le h a
  omega
end Go.Proofs.YtologmoanaccpaaGreatDoor

namespace Go.Proofs.YtologmoanaccpaaGreatDoor
set_option linter.all false

def bitO (x : Int) : Nat := if x = 0 then 0 else 2 ^ x.toNat
/-- one list comes before another -/
def LexLt (p q : List Int) : Prop := ∃ i : Nat, (∀ j, j < i → p[j]? = q[j]?) ∧ ∃ x y, p[i]? = some x ∧ q[i]? = some y ∧ x < y
def curF (fits : List Nat) (p : List Int) : List Nat := p.map bitO ++ fits.drop p.length
def OkP (fits : List Nat) (p : List Int) : Prop := ∀ (j : Nat) (x : Int), p[j]? = some x → x = 0 ∨ (1 ≤ x ∧ x ≤ 40 ∧ ∃ f, fits[j]? = some f ∧ f.testBit x.toNat = true)
/-- what is known when the owners of the first beasts stand -/
structure FsI (fits : List Nat) (cl : Nat) (wt : List Int) (p ow : List Int) : Prop where
  (le : p.length ≤ fits.length) (ok : OkP fits p) (met : MetA (curF fits p) cl wt ow)
  (all : ∀ ow', MetA (curF fits p) cl wt ow' → ow'.take p.length = p)
  (lex : ∀ ow', MetA fits cl wt ow' → ow'.take p.length = p ∨ LexLt p ow')
theorem curF_len {fits : List Nat} {p : List Int} (h : p.length ≤ fits.length) : (curF fits p).length = fits.length := by
  unfold curF; simp; omega
theorem curF_lt {fits : List Nat} {p : List Int} {j : Nat} (h : j < p.length) : (curF fits p)[j]? = (p[j]?).map bitO := by
  unfold curF
  rw [List.getElem?_append_left (by simpa using h), List.getElem?_map]
theorem curF_ge {fits : List Nat} {p : List Int} {j : Nat} (h : p.length ≤ j) : (curF fits p)[j]? = fits[j]? := by
  unfold curF
  rw [List.getElem?_append_right (by simpa using h), List.getElem?_drop, List.length_map]
  congr 1; omega
theorem curF_snoc {fits : List Nat} {p : List Int} {x : Int} (h : p.length < fits.length) : (curF fits p).set p.length (bitO x) = curF fits (p ++ [x]) := by
  apply List.ext_getElem?
  intro j
  rw [List.getElem?_set]
  have hl := curF_len (fits := fits) (p := p) (by omega)
  by_cases h1 : p.length = j
  · subst h1
    rw [if_pos rfl, if_pos (by omega), curF_lt (by simp)]
    simp
  · rw [if_neg h1]
    rcases Nat.lt_or_ge j p.length with h2 | h2
    · rw [curF_lt h2, curF_lt (by simp; omega), List.getElem?_append_left h2]
    · rw [curF_ge h2, curF_ge (by simp; omega)]
theorem bitO_bit {x : Int} {q : Nat} (h : (bitO x).testBit q = true) : x ≠ 0 ∧ q = x.toNat := by
  unfold bitO at h
  split at h
  · simp at h
  · rename_i h0
    rw [Nat.testBit_two_pow] at h
    exact ⟨h0, (by simpa using h : x.toNat = q).symm⟩
/-- an assignment for fewer is one for more -/
theorem met_up {fits fits' : List Nat} {cl : Nat} {wt ow : List Int} (hl : fits'.length = fits.length) (hs : ∀ (j : Nat) (f : Nat), fits[j]? = some f → ∀ q, f.testBit q = true → ∃ f', fits'[j]? = some f' ∧ f'.testBit q = true) (h : MetA fits cl wt ow) : MetA fits' cl wt ow :=
  ⟨⟨by rw [hl]; exact h.1.1, fun b x hb h0 => by
    obtain ⟨h1, h2, f, hf, hq⟩ := h.1.2 b x hb h0
    exact ⟨h1, h2, hs b f hf _ hq⟩⟩, h.2⟩
theorem met_cur {fits : List Nat} {p : List Int} {cl : Nat} {wt ow : List Int} (hp : p.length ≤ fits.length) (ho : OkP fits p) (h : MetA (curF fits p) cl wt ow) : MetA fits cl wt ow := by
  refine met_up (curF_len hp).symm (fun j f hf q hq => ?_) h
  rcases Nat.lt_or_ge j p.length with h2 | h2
  · rw [curF_lt h2] at hf
    obtain ⟨x, hx, rfl⟩ := Option.map_eq_some_iff.1 hf
    obtain ⟨hx0, rfl⟩ := bitO_bit hq
    rcases ho j x hx with h3 | ⟨_, _, h5⟩
    · exact absurd h3 hx0
    · exact h5
  · rw [curF_ge h2] at hf
    exact ⟨f, hf, hq⟩
theorem cur_met {fits : List Nat} {p : List Int} {cl : Nat} {wt ow : List Int} (hp : p.length ≤ fits.length) (h : MetA fits cl wt ow) (ht : ow.take p.length = p) : MetA (curF fits p) cl wt ow :=
  ⟨⟨by rw [curF_len hp]; exact h.1.1, fun b x hb h0 => by
    obtain ⟨h1, h2, f, hf, hq⟩ := h.1.2 b x hb h0
    refine ⟨h1, h2, ?_⟩
    rcases Nat.lt_or_ge b p.length with h3 | h3
    · have hpb : p[b]? = some x := by rw [← ht, List.getElem?_take, if_pos h3]; exact hb
      refine ⟨bitO x, by rw [curF_lt h3, hpb]; rfl, ?_⟩
      unfold bitO
      rw [if_neg h0, Nat.testBit_two_pow]
      simp
    · exact ⟨f, by rw [curF_ge h3]; exact hf, hq⟩⟩, h.2⟩
theorem take_snoc2 {l : List Int} {k : Nat} {x : Int} (h : l[k]? = some x) : l.take (k + 1) = l.take k ++ [x] := by
  rw [List.take_add_one, h]; rfl
theorem lex_snoc {p q : List Int} {x : Int} (h : LexLt p q) : LexLt (p ++ [x]) q := by
  obtain ⟨i, h1, a, b, h2, h3, h4⟩ := h
  have hi : i < p.length := (List.getElem?_eq_some_iff.1 h2).1
  exact ⟨i, fun j hj => by rw [List.getElem?_append_left (by omega)]; exact h1 j hj, a, b, by rw [List.getElem?_append_left hi]; exact h2, h3, h4⟩
theorem lex_here {p q : List Int} {x y : Int} (h : q.take p.length = p) (hq : q[p.length]? = some y) (hx : x < y) : LexLt (p ++ [x]) q := by
  refine ⟨p.length, fun j hj => ?_, x, y, by simp, hq, hx⟩
  rw [List.getElem?_append_left hj]
  conv => lhs; rw [← h]
  rw [List.getElem?_take, if_pos hj]
theorem met_at {fits : List Nat} {cl : Nat} {wt ow : List Int} (h : MetA fits cl wt ow) {k : Nat} (hk : k < fits.length) : ∃ y, ow[k]? = some y ∧ (y = 0 ∨ (1 ≤ y ∧ y ≤ 40 ∧ ∃ f, fits[k]? = some f ∧ f.testBit y.toNat = true)) := by
  have hl : k < ow.length := by rw [h.1.1]; exact hk
  refine ⟨ow[k], List.getElem?_eq_getElem hl, ?_⟩
  by_cases h0 : ow[k] = 0
  · exact .inl h0
  · exact .inr (h.1.2 k _ (List.getElem?_eq_getElem hl) h0)
theorem FsI.none {fits : List Nat} {cl : Nat} {wt p ow : List Int} (h : FsI fits cl wt p ow) {f : Nat} (hk : p.length < fits.length) (hf : fits[p.length]? = some f) (h0 : ∀ ow', ¬ MetA (curF fits (p ++ [0])) cl wt ow')
    (hy : ∀ y : Nat, f.testBit y = true → 1 ≤ y → y ≤ 40 → ∀ ow', ¬ MetA (curF fits (p ++ [(y : Int)])) cl wt ow') : False := by
  obtain ⟨y, hy1, hy2⟩ := met_at h.met (k := p.length) (by rw [curF_len h.le]; exact hk)
  have ht := h.all ow h.met
  have hm := met_cur h.le h.ok h.met
  rcases hy2 with rfl | ⟨y1, y2, f', hf', hb⟩
  · exact h0 ow (cur_met (by simp; omega) hm (by rw [List.length_append, List.length_singleton, take_snoc2 hy1, ht]))
  · rw [curF_ge (Nat.le_refl _), hf] at hf'
    cases hf'
    have e : ((y.toNat : Nat) : Int) = y := by omega
    refine hy y.toNat hb (by omega) (by omega) ow (cur_met (by simp; omega) hm ?_)
    rw [List.length_append, List.length_singleton, take_snoc2 hy1, ht, e]
/-- one beast more: its owner is o, and nobody before o could be it -/
theorem FsI.step {fits : List Nat} {cl : Nat} {wt p ow ow1 : List Int} (h : FsI fits cl wt p ow) {f : Nat} {o : Nat} (hk : p.length < fits.length) (hf : fits[p.length]? = some f) (hm1 : MetA (curF fits (p ++ [(o : Int)])) cl wt ow1)
    (ho : o = 0 ∨ (1 ≤ o ∧ o ≤ 40 ∧ f.testBit o = true ∧ ∀ ow', ¬ MetA (curF fits (p ++ [0])) cl wt ow'))
    (hy : ∀ y : Nat, f.testBit y = true → 1 ≤ y → y < o → ∀ ow', ¬ MetA (curF fits (p ++ [(y : Int)])) cl wt ow') : FsI fits cl wt (p ++ [(o : Int)]) ow1 := by
  have hok : OkP fits (p ++ [(o : Int)]) := fun j x hx => by
    rcases Nat.lt_or_ge j p.length with h1 | h1
    · rw [List.getElem?_append_left h1] at hx
      exact h.ok j x hx
    · rw [List.getElem?_append_right h1] at hx
      have hj : j - p.length = 0 := by
        have := (List.getElem?_eq_some_iff.1 hx).1
        simp at this; omega
      rw [hj] at hx
      simp at hx
      subst hx
      have hj2 : j = p.length := by omega
      subst hj2
      rcases ho with rfl | ⟨h2, h3, h4, _⟩
      · exact .inl rfl
      · exact .inr ⟨by omega, by omega, f, hf, by rw [Int.toNat_natCast]; exact h4⟩
  have hle : (p ++ [(o : Int)]).length ≤ fits.length := by simp; omega
  -- every assignment that begins with p and is one of all has at k an owner that is o or comes behind it
  have key : ∀ ow', MetA fits cl wt ow' → ow'.take p.length = p → ∃ y, ow'[p.length]? = some y ∧ (o : Int) ≤ y := fun ow' hm ht => by
    obtain ⟨y, hy1, hy2⟩ := met_at hm hk
    refine ⟨y, hy1, ?_⟩
    rcases ho with rfl | ⟨h2, h3, h4, h5⟩
    · rcases hy2 with rfl | ⟨y1, _⟩ <;> omega
    · rcases hy2 with rfl | ⟨y1, y2, f', hf', hb⟩
      · exact absurd (cur_met (by simp; omega) hm (by rw [List.length_append, List.length_singleton, take_snoc2 hy1, ht])) (h5 ow')
      · rw [hf] at hf'
        cases hf'
        rcases Int.lt_or_le y (o : Int) with h6 | h6
        · have e : ((y.toNat : Nat) : Int) = y := by omega
          refine absurd (cur_met (by simp; omega) hm ?_) (hy y.toNat hb (by omega) (by omega) ow')
          rw [List.length_append, List.length_singleton, take_snoc2 hy1, ht, e]
        · exact h6
  refine ⟨hle, hok, hm1, fun ow' hm' => ?_, fun ow' hm' => ?_⟩
  · have hmf := met_cur hle hok hm'
    have hmp : MetA (curF fits p) cl wt ow' := by
      refine met_up (by rw [curF_len h.le, curF_len hle]) (fun j g hg q hq => ?_) hm'
      rcases Nat.lt_or_ge j p.length with h1 | h1
      · rw [curF_lt (by simp; omega), List.getElem?_append_left h1] at hg
        exact ⟨g, by rw [curF_lt h1]; exact hg, hq⟩
      · by_cases h2 : j = p.length
        · subst h2
          rw [curF_lt (by simp)] at hg
          simp at hg
          subst hg
          obtain ⟨h3, rfl⟩ := bitO_bit hq
          rcases ho with rfl | ⟨_, _, h4, _⟩
          · exact absurd rfl h3
          · exact ⟨f, by rw [curF_ge (Nat.le_refl _)]; exact hf, by first | exact h4 | (rw [Int.toNat_natCast]; exact h4)⟩
        · rw [curF_ge (by simp; omega)] at hg
          exact ⟨g, by rw [curF_ge h1]; exact hg, hq⟩
    have ht := h.all ow' hmp
    obtain ⟨y, hy1, hy2⟩ := met_at hm' (k := p.length) (by rw [curF_len hle]; exact hk)
    obtain ⟨y', hy1', hy3⟩ := key ow' hmf ht
    rw [hy1] at hy1'
    cases hy1'
    rw [List.length_append, List.length_singleton, take_snoc2 hy1, ht]
    rcases hy2 with rfl | ⟨y1, y2, f', hf', hb⟩
    · congr 2; omega
    · rw [curF_lt (by simp)] at hf'
      simp at hf'
      subst hf'
      obtain ⟨_, h5⟩ := bitO_bit hb
      congr 2
      omega
  · rcases h.lex ow' hm' with ht | hl
    · obtain ⟨y, hy1, hy2⟩ := key ow' hm' ht
      rcases Int.lt_or_eq_of_le hy2 with h6 | h6
      · exact .inr (lex_here ht hy1 h6)
      · left
        rw [List.length_append, List.length_singleton, take_snoc2 hy1, ht, h6]
    · exact .inr (lex_snoc hl)
theorem FsI.init {fits : List Nat} {cl : Nat} {wt ow : List Int} (h : MetA fits cl wt ow) : FsI fits cl wt [] ow :=
  ⟨by simp, fun j x hx => by simp at hx, by unfold curF; simpa using h, fun ow' _ => by simp, fun ow' _ => .inl (by simp)⟩
/-- the first assignment that meets claims -/
def FirstA (fits : List Nat) (cl : Nat) (wt ow : List Int) : Prop := MetA fits cl wt ow ∧ ∀ ow', MetA fits cl wt ow' → ow' = ow ∨ LexLt ow ow'
theorem FsI.done {fits : List Nat} {cl : Nat} {wt p ow : List Int} (h : FsI fits cl wt p ow) (hl : p.length = fits.length) : FirstA fits cl wt ow := by
  have hm := met_cur h.le h.ok h.met
  have e : ow = p := by
    have := h.all ow h.met
    rw [List.take_of_length_le (by rw [hm.1.1]; omega)] at this
    exact this
  subst e
  refine ⟨hm, fun ow' hm' => ?_⟩
  rcases h.lex ow' hm' with h1 | h1
  · left
    rw [List.take_of_length_le (by rw [hm'.1.1]; omega)] at h1
    exact h1
  · exact .inr h1
theorem lex_irrefl {p q : List Int} (h : LexLt p q) (k : LexLt q p) : False := by
  obtain ⟨i, h1, a, b, h2, h3, h4⟩ := h
  obtain ⟨j, k1, c, d, k2, k3, k4⟩ := k
  rcases Nat.lt_trichotomy i j with hij | hij | hij
  · have := k1 i hij
    rw [h2, h3] at this
    cases this; omega
  · subst hij
    rw [h3] at k2; rw [h2] at k3
    cases k2; cases k3; omega
  · have := h1 j hij
    rw [k2, k3] at this
    cases this; omega
theorem FirstA.uniq {fits : List Nat} {cl : Nat} {wt ow ow' : List Int} (h : FirstA fits cl wt ow) (k : FirstA fits cl wt ow') : ow = ow' := by
  rcases h.2 ow' k.1 with h1 | h1
  · exact h1.symm
  · rcases k.2 ow h.1 with h2 | h2
    · exact h2
    · exact (lex_irrefl h1 h2).elim
end Go.Proofs.YtologmoanaccpaaGreatDoor
