/-
  Fractions as rational numbers (no run in this text).
-/
import Derived.Test.YtcjpecdnenemaaaGreatDoorGO
import Derived.Test.YtcjpecdnenemaaaGreatDoorFrO
namespace Go.Proofs.YtcjpecdnenemaaaGreatDoor
set_option linter.all false
open Go.RowKit

/-- the number that a fraction stands for -/
def val (p : Int × Int) : Rat := Rat.divInt p.1 p.2
theorem pm {a b : Int} (ha : 1 ≤ a) (hb : 1 ≤ b) : 0 < a * b := Int.mul_pos (by omega) (by omega)
theorem val_eq {a b c d : Int} (hb : 1 ≤ b) (hd : 1 ≤ d) : val (a, b) = val (c, d) ↔ a * d = c * b := by
  unfold val
  exact Rat.divInt_eq_divInt_iff (by omega) (by omega)
theorem val_nn {a b : Int} (hb : 1 ≤ b) : 0 ≤ val (a, b) ↔ 0 ≤ a := Rat.divInt_nonneg_iff_of_pos_right (by omega)
theorem val_sub {a b c d : Int} (hb : 1 ≤ b) (hd : 1 ≤ d) : val (a, b) - val (c, d) = val (a * d - c * b, b * d) := Rat.divInt_sub_divInt _ _ (by omega) (by omega)
theorem val_add {a b c d : Int} (hb : 1 ≤ b) (hd : 1 ≤ d) : val (a, b) + val (c, d) = val (a * d + c * b, b * d) := Rat.divInt_add_divInt _ _ (by omega) (by omega)
theorem val_mul {a b c d : Int} : val (a, b) * val (c, d) = val (a * c, b * d) := Rat.divInt_mul_divInt _ _
theorem val_le {a b c d : Int} (hb : 1 ≤ b) (hd : 1 ≤ d) : val (a, b) ≤ val (c, d) ↔ a * d ≤ c * b := by
  have h := val_nn (a := c * b - a * d) (b := d * b) (Int.add_one_le_iff.2 (pm hd hb))
  rw [← val_sub hd hb] at h
  constructor
  · intro h2
    have := h.1 (by grind)
    omega
  · intro h2
    have := h.2 (by omega)
    grind
theorem val_lt {a b c d : Int} (hb : 1 ≤ b) (hd : 1 ≤ d) : val (a, b) < val (c, d) ↔ a * d < c * b := by
  have h := val_le (a := c) (b := d) (c := a) (d := b) hd hb
  constructor
  · intro h2
    rcases Int.lt_or_le (a * d) (c * b) with h3 | h3
    · exact h3
    · have := h.2 h3; grind
  · intro h2
    have := mt h.1 (by omega)
    grind
theorem val_int (n : Int) : val (n, 1) = (n : Rat) := by
  unfold val
  rw [Rat.divInt_eq_div]
  grind
theorem val_pos {a b : Int} (hb : 1 ≤ b) : 0 < val (a, b) ↔ 0 < a := by
  have h := val_lt (a := 0) (b := 1) (c := a) (d := b) (by omega) hb
  rw [val_int] at h
  simpa using h
theorem val_inj {p q : Int × Int} (hp : vld p.1 p.2 = true) (hq : vld q.1 q.2 = true) (h : val p = val q) : p = q := by
  obtain ⟨a, b⟩ := p
  obtain ⟨c, d⟩ := q
  have := (val_eq (vld_pos hp) (vld_pos hq)).1 h
  obtain ⟨h1, h2⟩ := vld_unique hp hq this
  exact Prod.ext h1 h2
theorem low_val {n d : Int} {r : Int × Int} (hd : 1 ≤ d) (h : lowF n d = some r) : val r = val (n, d) ∧ vld r.1 r.2 = true := by
  obtain ⟨x, y⟩ := r
  obtain ⟨hv, he⟩ := (lowF_iff hd).1 h
  exact ⟨(val_eq (vld_pos hv) hd).2 he.symm, hv⟩
theorem low_self {x y : Int} (hv : vld x y = true) : lowF x y = some (x, y) := (lowF_iff (vld_pos hv)).2 ⟨hv, rfl⟩
theorem addO_val {a p r : Int × Int} (ha : vld a.1 a.2 = true) (hp : vld p.1 p.2 = true) (h : addO (some a) p = some r) : val r = val a + val p ∧ vld r.1 r.2 = true := by
  obtain ⟨a, b⟩ := a
  obtain ⟨c, d⟩ := p
  have hb := vld_pos ha
  have hd := vld_pos hp
  have := low_val (Int.add_one_le_iff.2 (pm hb hd)) (show lowF (a * d + c * b) (b * d) = some r from h)
  rw [val_add hb hd]
  exact this
theorem mulF_val {p m : Int × Int} {n : Int} (hp : vld p.1 p.2 = true) (h1 : -1000000000000 ≤ n) (h2 : n ≤ 1000000000000) (h : mulF p.1 p.2 n 1 = some m) : val m = val p * (n : Rat) ∧ vld m.1 m.2 = true := by
  obtain ⟨a, b⟩ := p
  obtain ⟨x, y⟩ := m
  obtain ⟨hv, he⟩ := mulF_iff hp (vld_whole h1 h2) h
  refine ⟨?_, hv⟩
  have hb := vld_pos hp
  rw [← val_int, val_mul]
  exact (val_eq (vld_pos hv) (by simp only [Int.mul_one]; exact hb)).2 he
theorem subF_val {a p r : Int × Int} (ha : vld a.1 a.2 = true) (hp : vld p.1 p.2 = true) (h : lowF (a.1 * p.2 + -p.1 * a.2) (a.2 * p.2) = some r) : val r = val a - val p ∧ vld r.1 r.2 = true := by
  obtain ⟨a, b⟩ := a
  obtain ⟨c, d⟩ := p
  have hb := vld_pos ha
  have hd := vld_pos hp
  have := low_val (Int.add_one_le_iff.2 (pm hb hd)) h
  rw [val_sub hb hd, show a * d - c * b = a * d + -c * b by rw [Int.neg_mul]; omega]
  exact this
/-- what heads take up, as a number -/
def sumV : List ((Int × Int) × Int) → Rat
  | [] => 0
  | e :: es => val e.1 * (e.2 : Rat) + sumV es
def goodE (es : List ((Int × Int) × Int)) : Prop := ∀ e ∈ es, vld e.1.1 e.1.2 = true ∧ 0 ≤ e.2 ∧ e.2 ≤ 100000
theorem stepU_val {a r : Int × Int} {e : (Int × Int) × Int} (ha : vld a.1 a.2 = true) (he : vld e.1.1 e.1.2 = true ∧ 0 ≤ e.2 ∧ e.2 ≤ 100000) (h : stepU (some a) e = some r) : val r = val a + val e.1 * (e.2 : Rat) ∧ vld r.1 r.2 = true := by
  unfold stepU at h
  split at h
  · rename_i m hm
    obtain ⟨h1, h2⟩ := mulF_val he.1 (by omega) (by omega) hm
    obtain ⟨h3, h4⟩ := addO_val ha h2 h
    exact ⟨by rw [h3, h1], h4⟩
  · cases h
theorem usesF_val : ∀ (es : List ((Int × Int) × Int)) (acc r : Int × Int), vld acc.1 acc.2 = true → goodE es → es.foldl stepU (some acc) = some r → val r = val acc + sumV es ∧ vld r.1 r.2 = true
  | [], acc, r, ha, _, h => by simp at h; subst h; exact ⟨by simp [sumV]; grind, ha⟩
  | e :: es, acc, r, ha, hg, h => by
    rw [List.foldl_cons] at h
    rcases hs : stepU (some acc) e with _ | a
    · rw [hs, stepU_none] at h; cases h
    · rw [hs] at h
      obtain ⟨h1, h2⟩ := stepU_val ha (hg e (List.mem_cons_self ..)) hs
      obtain ⟨h3, h4⟩ := usesF_val es a r h2 (fun x hx => hg x (List.mem_cons_of_mem _ hx)) h
      exact ⟨by rw [h3, h1, sumV]; grind, h4⟩
theorem uses_val {es : List ((Int × Int) × Int)} {r : Int × Int} (hg : goodE es) (h : usesF es = some r) : val r = sumV es ∧ vld r.1 r.2 = true := by
  obtain ⟨h1, h2⟩ := usesF_val es (0, 1) r (by decide) hg h
  exact ⟨by rw [h1, val_int]; grind, h2⟩
theorem sumV_set : ∀ (es : List ((Int × Int) × Int)) (w : Nat) (p : Int × Int) (n k : Int), es[w]? = some (p, n) → sumV (es.set w (p, n + k)) = sumV es + val p * (k : Rat)
  | [], w, p, n, k, h => by simp at h
  | e :: es, 0, p, n, k, h => by
    simp at h
    subst h
    simp only [List.set_cons_zero, sumV, Rat.intCast_add]
    grind
  | e :: es, w + 1, p, n, k, h => by
    have ih := sumV_set es w p n k (by simpa using h)
    simp only [List.set_cons_succ, sumV, ih]
    grind
theorem excF_zero {es : List ((Int × Int) × Int)} (hg : goodE es) : excF es 0 1 = usesF es := by
  unfold excF
  rcases h : usesF es with _ | a
  · rfl
  · have := (uses_val hg h).2
    simp only [Int.mul_one, Int.neg_zero, Int.zero_mul, Int.add_zero]
    exact low_self this
theorem excF_val {es : List ((Int × Int) × Int)} {sn sd : Int} {r : Int × Int} (hg : goodE es) (hs : vld sn sd = true) (h : excF es sn sd = some r) : val r = sumV es - val (sn, sd) ∧ vld r.1 r.2 = true := by
  unfold excF at h
  split at h
  · rename_i a ha
    obtain ⟨h1, h2⟩ := uses_val hg ha
    obtain ⟨h3, h4⟩ := subF_val (p := (sn, sd)) h2 hs h
    exact ⟨by rw [h3, h1], h4⟩
  · cases h
theorem cmp_val {p q : Int × Int} (hp : vld p.1 p.2 = true) (hq : vld q.1 q.2 = true) : cmpI p.1 p.2 q.1 q.2 ≤ 0 ↔ val p ≤ val q := by
  obtain ⟨a, b⟩ := p
  obtain ⟨c, d⟩ := q
  rw [cmp_le, val_le (vld_pos hp) (vld_pos hq)]
theorem nn_mul {a b : Rat} (ha : 0 ≤ a) (hb : 0 ≤ b) : 0 ≤ a * b := Rat.mul_nonneg ha hb
theorem pos_mulR {a b : Rat} (ha : 0 < a) (hb : 0 < b) : 0 < a * b := Rat.mul_pos ha hb
theorem castR_le {n m : Int} (h : n ≤ m) : (n : Rat) ≤ (m : Rat) := Rat.intCast_le_intCast.2 h
theorem castR_lt {n m : Int} (h : n < m) : (n : Rat) < (m : Rat) := Rat.intCast_lt_intCast.2 h
/-- **more beasts take up more** -/
theorem more_val {es : List ((Int × Int) × Int)} {w : Nat} {p u u' : Int × Int} {n k : Int} (hg : goodE es) (hg' : goodE (es.set w (p, n + k))) (hw : es[w]? = some (p, n)) (hp : 0 < p.1) (hk : 0 ≤ k) (hu : usesF es = some u) (hu' : usesF (es.set w (p, n + k)) = some u') :
    cmpI u.1 u.2 u'.1 u'.2 ≤ 0 ∧ (k = 0 ↔ u = u') := by
  obtain ⟨h1, h2⟩ := uses_val hg hu
  obtain ⟨h3, h4⟩ := uses_val hg' hu'
  rw [sumV_set es w p n k hw, ← h1] at h3
  have hpv := (hg _ (List.mem_of_getElem? hw)).1
  have hpp : 0 < val p := by
    obtain ⟨a, b⟩ := p
    exact (val_pos (vld_pos hpv)).2 hp
  have hkk := castR_le hk
  have h0 := nn_mul (Rat.le_of_lt hpp) (by simpa using hkk)
  refine ⟨(cmp_val h2 h4).2 (by grind), ?_, ?_⟩
  · intro h
    subst h
    exact val_inj h2 h4 (by rw [h3]; simp; grind)
  · intro h
    subst h
    rcases Int.lt_or_le 0 k with h5 | h5
    · have := pos_mulR hpp (by simpa using castR_lt h5)
      grind
    · omega
end Go.Proofs.YtcjpecdnenemaaaGreatDoor
