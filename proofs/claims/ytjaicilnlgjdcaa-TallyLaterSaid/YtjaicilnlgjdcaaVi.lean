/- rates of re-counts: the numbers -/
import Derived.Test.YtjaicilnlgjdcaaUj
import Derived.Test.YtjaicilnlgjdcaaVd
namespace Go.Proofs.Ytjaicilnlgjdcaa
set_option linter.all false
open Go.RowKit

theorem crFrom_vals : ∀ (xs : List Rcn) (i : Nat) (id kn : Int), (crFrom i id kn xs).2 = 0 ∨ (crFrom i id kn xs).2 = 1 ∨ (crFrom i id kn xs).2 = 2 ∨ (crFrom i id kn xs).2 = 7
  | [], i, id, kn => .inl rfl
  | x :: xs, i, id, kn => by
    unfold crFrom
    by_cases h : i = 200
    · rw [if_pos h]; simp
    · rw [if_neg h]
      by_cases h2 : rcB x = false ∨ x.id ≤ id
      · rw [if_pos h2]; simp
      · rw [if_neg h2]
        by_cases h3 : x.kn < kn
        · rw [if_pos h3]; simp
        · rw [if_neg h3]; exact crFrom_vals xs _ _ _
theorem chk_vals (m d : Int) (xs : List Rcn) : chkI m d xs = 0 ∨ chkI m d xs = 1 ∨ chkI m d xs = 2 ∨ chkI m d xs = 7 := by
  unfold chkI
  by_cases h : rateB m d = true
  · rw [if_pos h]; exact crFrom_vals xs _ _ _
  · rw [if_neg h]; simp
theorem chk_rate {m d : Int} {xs : List Rcn} (h : chkI m d xs = 0) : rateB m d = true := by
  unfold chkI at h
  by_cases h1 : rateB m d = true
  · exact h1
  · rw [if_neg h1] at h; cases h
theorem lrI_bd (ok : Bool) (k : Nat) : 0 ≤ lrI ok k ∧ lrI ok k ≤ 500 := by
  unfold lrI; split
  · rename_i h; omega
  · omega
theorem askM_bd (x : Rcn) : 0 ≤ askM x ∧ askM x ≤ 500 := lrI_bd _ _
theorem askD_bd (x : Rcn) : 0 ≤ askD x ∧ askD x ≤ 500 := lrI_bd _ _
theorem mxM_le {m K : Int} {l : List Rcn} : mxM m l ≤ K ↔ m ≤ K ∧ ∀ x ∈ l, askM x ≤ K := by
  unfold mxM
  induction l generalizing m with
  | nil => simp
  | cons x l ih => rw [List.foldl_cons, ih]; simp only [List.mem_cons, forall_eq_or_imp]; constructor <;> (intro h; refine ⟨by omega, ?_⟩) <;> first | exact ⟨by omega, h.2⟩ | exact h.2.2
theorem mxD_le {m K : Int} {l : List Rcn} : mxD m l ≤ K ↔ m ≤ K ∧ ∀ x ∈ l, askD x ≤ K := by
  unfold mxD
  induction l generalizing m with
  | nil => simp
  | cons x l ih => rw [List.foldl_cons, ih]; simp only [List.mem_cons, forall_eq_or_imp]; constructor <;> (intro h; refine ⟨by omega, ?_⟩) <;> first | exact ⟨by omega, h.2⟩ | exact h.2.2
theorem mxM_ge (m : Int) (l : List Rcn) : m ≤ mxM m l ∧ ∀ x ∈ l, askM x ≤ mxM m l := mxM_le.1 (Int.le_refl _)
theorem mxD_ge (m : Int) (l : List Rcn) : m ≤ mxD m l ∧ ∀ x ∈ l, askD x ≤ mxD m l := mxD_le.1 (Int.le_refl _)
theorem ofS_mono {xs : List Rcn} {known later sh : Int} (h : known ≤ later) : ∀ x ∈ ofS xs known sh, x ∈ ofS xs later sh := by
  intro x hx
  simp only [ofS, cntS, List.mem_filter, decide_eq_true_eq] at hx ⊢
  exact ⟨⟨hx.1.1, by omega⟩, hx.2⟩
theorem ofS_mem {xs : List Rcn} {known sh : Int} {x : Rcn} (h : x ∈ ofS xs known sh) : x ∈ xs ∧ x.kn ≤ known ∧ x.sh = sh := by
  simp only [ofS, cntS, List.mem_filter, decide_eq_true_eq] at h
  exact ⟨h.1.1, h.1.2, h.2⟩
theorem rate_err {m d : Int} {xs : List Rcn} {sh known : Int} (h : (rateI m d xs sh known).2.2 = 0) : chkI m d xs = 0 ∧ allB (ofS xs known sh) = true ∧ rateI m d xs sh known = (mxM m (ofS xs known sh), mxD d (ofS xs known sh), 0) := by
  unfold rateI at h ⊢
  by_cases h1 : chkI m d xs = 0
  · rw [if_pos h1] at h ⊢
    by_cases h2 : allB (ofS xs known sh) = true
    · rw [if_pos h2]; exact ⟨h1, h2, rfl⟩
    · rw [if_neg h2] at h; cases h
  · rw [if_neg h1] at h; exact absurd h h1
theorem rate_later {m d : Int} {xs : List Rcn} {sh known later : Int} (hk : known ≤ later) (h : (rateI m d xs sh known).2.2 = 40) : (rateI m d xs sh later).2.2 = 40 := by
  unfold rateI at h ⊢
  by_cases h1 : chkI m d xs = 0
  · rw [if_pos h1] at h ⊢
    by_cases h2 : allB (ofS xs known sh) = true
    · rw [if_pos h2] at h; cases h
    · rw [if_neg]
      intro h3
      refine h2 ?_
      simp only [allB, List.all_eq_true] at h3 ⊢
      exact fun x hx => h3 x (ofS_mono hk x hx)
  · rw [if_neg h1] at h
    rcases chk_vals m d xs with e | e | e | e <;> rw [e] at h <;> first | exact absurd e h1 | cases h
theorem rate_rate {m d : Int} {l : List Rcn} (h : rateB m d = true) : rateB (mxM m l) (mxD d l) = true := by
  obtain ⟨⟨h1, h2⟩, h3, h4⟩ := rateB_bd h
  have a1 := (mxM_ge m l).1
  have a2 := (mxD_ge d l).1
  have a3 : mxM m l ≤ 500 := mxM_le.2 ⟨h2, fun x _ => (askM_bd x).2⟩
  have a4 : mxD d l ≤ 500 := mxD_le.2 ⟨h4, fun x _ => (askD_bd x).2⟩
  unfold rateB
  rw [Bool.and_eq_true, inB_iff, inB_iff]
  omega
theorem rate_nar {m d am ad bm bd : Int} {xs : List Rcn} {sh known later : Int} (hk : known ≤ later) (ha : rateI m d xs sh known = (am, ad, 0)) (hb : rateI m d xs sh later = (bm, bd, 0)) : narB am ad bm bd = true := by
  obtain ⟨h1, h2, h3⟩ := rate_err (m := m) (d := d) (xs := xs) (sh := sh) (known := known) (by rw [ha])
  obtain ⟨_, h4, h5⟩ := rate_err (m := m) (d := d) (xs := xs) (sh := sh) (known := later) (by rw [hb])
  rw [ha] at h3
  rw [hb] at h5
  cases h3
  cases h5
  have hr := chk_rate h1
  unfold narB
  simp only [Bool.and_eq_true, decide_eq_true_eq]
  refine ⟨⟨⟨rate_rate hr, rate_rate hr⟩, ?_⟩, ?_⟩
  · exact mxM_le.2 ⟨(mxM_ge m _).1, fun x hx => (mxM_ge m _).2 x (ofS_mono hk x hx)⟩
  · exact mxD_le.2 ⟨(mxD_ge d _).1, fun x hx => (mxD_ge d _).2 x (ofS_mono hk x hx)⟩
def anySh (xs : List Rcn) (sh : Int) : Bool := xs.any (fun x => x.sh == sh)
theorem rate_none {m d am ad : Int} {xs : List Rcn} {sh known : Int} (ha : rateI m d xs sh known = (am, ad, 0)) (h : anySh xs sh = false) : am = m ∧ ad = d := by
  obtain ⟨h1, h2, h3⟩ := rate_err (m := m) (d := d) (xs := xs) (sh := sh) (known := known) (by rw [ha])
  have e : ofS xs known sh = [] := by
    rw [List.eq_nil_iff_forall_not_mem]
    intro x hx
    obtain ⟨h4, _, h5⟩ := ofS_mem hx
    simp only [anySh, List.any_eq_false, beq_iff_eq] at h
    exact h x h4 h5
  rw [ha, e] at h3
  cases h3
  exact ⟨rfl, rfl⟩
theorem anySh_snoc {xs : List Rcn} {k : Nat} {x : Rcn} {sh : Int} (h : xs[k]? = some x) : anySh (xs.take (k + 1)) sh = (anySh (xs.take k) sh || (x.sh == sh)) := by
  unfold anySh
  rw [take_snoc' h, List.any_append]; simp
end Go.Proofs.Ytjaicilnlgjdcaa
