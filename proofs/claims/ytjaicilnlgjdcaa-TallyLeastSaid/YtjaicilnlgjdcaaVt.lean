/- what TallyLeast says, without a walk -/
import Derived.Test.YtjaicilnlgjdcaaUj
import Derived.Test.YtjaicilnlgjdcaaVd
namespace Go.Proofs.Ytjaicilnlgjdcaa
set_option linter.all false
open Go.RowKit

theorem crFrom_iff : ∀ (xs : List Rcn) (i : Nat) (id kn : Int), i ≤ 200 →
    ((crFrom i id kn xs).2 = 0 ↔ i + xs.length ≤ 200 ∧ (∀ x ∈ xs, rcB x = true ∧ id < x.id ∧ kn ≤ x.kn) ∧ xs.Pairwise (fun x y => x.id < y.id ∧ x.kn ≤ y.kn))
  | [], i, id, kn, hi => by simp [crFrom, hi]
  | x :: xs, i, id, kn, hi => by
    unfold crFrom
    by_cases h1 : i = 200
    · rw [if_pos h1]
      constructor
      · intro h; simp at h
      · rintro ⟨h, _⟩; simp at h; omega
    · rw [if_neg h1]
      by_cases h2 : rcB x = false ∨ x.id ≤ id
      · rw [if_pos h2]
        constructor
        · intro h; simp at h
        · rintro ⟨_, h, _⟩
          have := h x (by simp)
          rcases h2 with h2 | h2
          · rw [h2] at this; simp at this
          · omega
      · rw [if_neg h2]
        have h2' : rcB x = true ∧ id < x.id := by
          constructor
          · cases hb : rcB x
            · exact absurd (.inl hb) h2
            · rfl
          · rcases Int.lt_or_le id x.id with h | h
            · exact h
            · exact absurd (.inr h) h2
        by_cases h3 : x.kn < kn
        · rw [if_pos h3]
          constructor
          · intro h; simp at h
          · rintro ⟨_, h, _⟩
            have := h x (by simp)
            omega
        · rw [if_neg h3, crFrom_iff xs (i + 1) x.id x.kn (by omega)]
          simp only [List.length_cons, List.mem_cons, List.pairwise_cons]
          constructor
          · rintro ⟨k1, k2, k3⟩
            refine ⟨by omega, fun y hy => ?_, fun y hy => (k2 y hy).2, k3⟩
            rcases hy with rfl | hy
            · exact ⟨h2'.1, h2'.2, by omega⟩
            · have := k2 y hy; exact ⟨this.1, by omega, by omega⟩
          · rintro ⟨k1, k2, k3, k4⟩
            exact ⟨by omega, fun y hy => ⟨(k2 y (.inr hy)).1, (k3 y hy).1, (k3 y hy).2⟩, k4⟩
theorem crI_iff (xs : List Rcn) : (crI xs).2 = 0 ↔ xs.length ≤ 200 ∧ (∀ x ∈ xs, rcB x = true ∧ 0 < x.id ∧ 0 ≤ x.kn) ∧ xs.Pairwise (fun x y => x.id < y.id ∧ x.kn ≤ y.kn) := by
  unfold crI
  rw [crFrom_iff xs 0 0 0 (by omega)]
  simp
theorem crI_sub {xs ys : List Rcn} (h : (crI xs).2 = 0) (hs : ys.Sublist xs) : (crI ys).2 = 0 := by
  rw [crI_iff] at h ⊢
  exact ⟨Nat.le_trans hs.length_le h.1, fun x hx => h.2.1 x (hs.subset hx), h.2.2.sublist hs⟩
theorem ofS_sub (xs : List Rcn) (known sh : Int) : (ofS xs known sh).Sublist xs := (List.filter_sublist).trans List.filter_sublist
theorem rcB_bd {x : Rcn} (h : rcB x = true) : 0 < x.tr ∧ x.tr ≤ 100000 ∧ 0 ≤ x.nu ∧ x.nu ≤ 200000 := by
  unfold rcB recountB at h
  simp only [Bool.and_eq_true, inB_iff, decide_eq_true_eq] at h
  omega
theorem mxM_ge (l : List Rcn) : ∀ m, m ≤ mxM m l ∧ ∀ x ∈ l, askM x ≤ mxM m l := by
  induction l with
  | nil => intro m; simp [mxM]
  | cons y l ih =>
    intro m
    have h := ih (max m (askM y))
    have e : mxM m (y :: l) = mxM (max m (askM y)) l := rfl
    rw [e]
    refine ⟨by omega, fun x hx => ?_⟩
    rcases List.mem_cons.1 hx with rfl | hx
    · omega
    · exact h.2 x hx
theorem mxM_le (l : List Rcn) : ∀ m K, m ≤ K → (∀ x ∈ l, askM x ≤ K) → mxM m l ≤ K := by
  induction l with
  | nil => intro m K h _; simpa [mxM] using h
  | cons y l ih =>
    intro m K h hx
    have e : mxM m (y :: l) = mxM (max m (askM y)) l := rfl
    rw [e]
    exact ih _ K (by have := hx y (by simp); omega) (fun x h => hx x (List.mem_cons_of_mem _ h))
theorem mxM_at (l : List Rcn) : ∀ m, m < mxM m l → ∃ x ∈ l, askM x = mxM m l := by
  induction l with
  | nil => intro m h; simp [mxM] at h
  | cons y l ih =>
    intro m h
    have e : mxM m (y :: l) = mxM (max m (askM y)) l := rfl
    rw [e] at h ⊢
    rcases Int.lt_or_le (max m (askM y)) (mxM (max m (askM y)) l) with h1 | h1
    · obtain ⟨x, hx, hx2⟩ := ih _ h1
      exact ⟨x, List.mem_cons_of_mem _ hx, hx2⟩
    · have h2 := (mxM_ge l (max m (askM y))).1
      exact ⟨y, by simp, by omega⟩
theorem mxD_ge (l : List Rcn) : ∀ m, m ≤ mxD m l ∧ ∀ x ∈ l, askD x ≤ mxD m l := by
  induction l with
  | nil => intro m; simp [mxD]
  | cons y l ih =>
    intro m
    have h := ih (max m (askD y))
    have e : mxD m (y :: l) = mxD (max m (askD y)) l := rfl
    rw [e]
    refine ⟨by omega, fun x hx => ?_⟩
    rcases List.mem_cons.1 hx with rfl | hx
    · omega
    · exact h.2 x hx
theorem mxD_le (l : List Rcn) : ∀ m K, m ≤ K → (∀ x ∈ l, askD x ≤ K) → mxD m l ≤ K := by
  induction l with
  | nil => intro m K h _; simpa [mxD] using h
  | cons y l ih =>
    intro m K h hx
    have e : mxD m (y :: l) = mxD (max m (askD y)) l := rfl
    rw [e]
    exact ih _ K (by have := hx y (by simp); omega) (fun x h => hx x (List.mem_cons_of_mem _ h))
theorem mxD_at (l : List Rcn) : ∀ m, m < mxD m l → ∃ x ∈ l, askD x = mxD m l := by
  induction l with
  | nil => intro m h; simp [mxD] at h
  | cons y l ih =>
    intro m h
    have e : mxD m (y :: l) = mxD (max m (askD y)) l := rfl
    rw [e] at h ⊢
    rcases Int.lt_or_le (max m (askD y)) (mxD (max m (askD y)) l) with h1 | h1
    · obtain ⟨x, hx, hx2⟩ := ih _ h1
      exact ⟨x, List.mem_cons_of_mem _ hx, hx2⟩
    · have h2 := (mxD_ge l (max m (askD y))).1
      exact ⟨y, by simp, by omega⟩

/-- the records of xs whose id is one of the ids, once for each of them -/
def pickX (x : Rcn) (ids : List Int) : List Rcn := (ids.filter (fun j => decide (x.id = j))).map (fun _ => x)
def pickS (xs : List Rcn) (ids : List Int) : List Rcn := xs.flatMap (fun x => pickX x ids)
theorem pickX_no {x : Rcn} {ids : List Int} (h : ∀ j ∈ ids, x.id ≠ j) : pickX x ids = [] := by
  unfold pickX
  rw [List.map_eq_nil_iff, List.filter_eq_nil_iff]
  intro j hj; simpa using h j hj
theorem pickX_cons {x : Rcn} {ids : List Int} (j : Int) : pickX x (j :: ids) = (if x.id = j then [x] else []) ++ pickX x ids := by
  unfold pickX
  by_cases h : x.id = j <;> simp [List.filter_cons, h]
theorem pickX_len (x : Rcn) (ids : List Int) : (pickX x ids).length ≤ ids.length := by
  unfold pickX; rw [List.length_map]; exact List.length_filter_le _ _
theorem pickS_len (xs : List Rcn) (ids : List Int) : (pickS xs ids).length ≤ xs.length * ids.length := by
  induction xs with
  | nil => simp [pickS]
  | cons x l ih =>
    have e : pickS (x :: l) ids = pickX x ids ++ pickS l ids := by simp [pickS]
    rw [e, List.length_append, List.length_cons, Nat.succ_mul]
    have := pickX_len x ids
    omega
theorem pickS_cons (x : Rcn) (l : List Rcn) (ids : List Int) : pickS (x :: l) ids = pickX x ids ++ pickS l ids := by simp [pickS]
theorem pickS_sub {xs cs : List Rcn} (hs : cs.Sublist xs) : xs.Pairwise (fun x y => x.id < y.id ∧ x.kn ≤ y.kn) → pickS xs (cs.map Rcn.id) = cs := by
  induction hs with
  | slnil => intro _; rfl
  | @cons l₁ l₂ a hs ih =>
    intro hp
    rw [List.pairwise_cons] at hp
    rw [pickS_cons, ih hp.2, pickX_no]
    · rfl
    · intro j hj
      rw [List.mem_map] at hj
      obtain ⟨y, hy, rfl⟩ := hj
      have := (hp.1 y (hs.subset hy)).1
      omega
  | @cons_cons l₁ l₂ a hs ih =>
    intro hp
    rw [List.pairwise_cons] at hp
    rw [List.map_cons, pickS_cons, pickX_cons, if_pos rfl, pickX_no]
    · have e : ∀ (l : List Rcn) (ids : List Int), (∀ y ∈ l, y.id ≠ a.id) → pickS l (a.id :: ids) = pickS l ids := by
        intro l ids hne
        induction l with
        | nil => rfl
        | cons y l ih2 =>
          rw [pickS_cons, pickS_cons, pickX_cons, if_neg (hne y (by simp)), ih2 (fun z hz => hne z (List.mem_cons_of_mem _ hz))]
          rfl
      rw [e _ _ (fun y hy => by have := (hp.1 y hy).1; omega), ih hp.2]
      rfl
    · intro j hj
      rw [List.mem_map] at hj
      obtain ⟨y, hy, rfl⟩ := hj
      have := (hp.1 y (hs.subset hy)).1
      omega

/-- what Why picks -/
theorem whyF_pick (rm rd : Int) : ∀ (o : List Rcn) (p q : Bool) (ids : List Int), (∀ x ∈ o, ¬ (0 < askM x ∧ 0 < askD x)) → (p = true → 0 < rm) → (q = true → 0 < rd) →
    ∃ cs : List Rcn, cs.Sublist o ∧ (o.foldl (whyStep rm rd) (p, q, ids)).2.2 = ids ++ cs.map Rcn.id ∧ cs.length ≤ p.toNat + q.toNat ∧
      (p = true → (∃ x ∈ o, askM x = rm) → ∃ x ∈ cs, askM x = rm) ∧ (q = true → (∃ x ∈ o, askD x = rd) → ∃ x ∈ cs, askD x = rd)
  | [], p, q, ids, _, _, _ => ⟨[], List.Sublist.refl _, by simp, by simp, fun _ ⟨x, hx, _⟩ => by simp at hx, fun _ ⟨x, hx, _⟩ => by simp at hx⟩
  | x :: o, p, q, ids, hno, hp, hq => by
    have hno' : ∀ y ∈ o, ¬ (0 < askM y ∧ 0 < askD y) := fun y hy => hno y (List.mem_cons_of_mem _ hy)
    have hx := hno x (by simp)
    rw [List.foldl_cons]
    by_cases h1 : (p && decide (askM x = rm)) = true
    · have e : whyStep rm rd (p, q, ids) x = (false, q, ids ++ [x.id]) := by unfold whyStep; rw [if_pos h1]
      rw [e]
      rw [Bool.and_eq_true, decide_eq_true_eq] at h1
      obtain ⟨cs, k1, k2, k3, k4, k5⟩ := whyF_pick rm rd o false q (ids ++ [x.id]) hno' (by simp) hq
      refine ⟨x :: cs, k1.cons_cons x, by rw [k2]; simp, ?_, fun _ _ => ⟨x, by simp, h1.2⟩, fun hqt ⟨y, hy, hy2⟩ => ?_⟩
      · simp [h1.1] at k3 ⊢; omega
      · rcases List.mem_cons.1 hy with rfl | hy
        · exact absurd ⟨by rw [h1.2]; exact hp h1.1, by rw [hy2]; exact hq hqt⟩ hx
        · obtain ⟨z, hz, hz2⟩ := k5 hqt ⟨y, hy, hy2⟩
          exact ⟨z, List.mem_cons_of_mem _ hz, hz2⟩
    · by_cases h2 : (q && decide (askD x = rd)) = true
      · have e : whyStep rm rd (p, q, ids) x = (p, false, ids ++ [x.id]) := by unfold whyStep; rw [if_neg h1, if_pos h2]
        rw [e]
        rw [Bool.and_eq_true, decide_eq_true_eq] at h2
        obtain ⟨cs, k1, k2, k3, k4, k5⟩ := whyF_pick rm rd o p false (ids ++ [x.id]) hno' hp (by simp)
        refine ⟨x :: cs, k1.cons_cons x, by rw [k2]; simp, ?_, fun hpt ⟨y, hy, hy2⟩ => ?_, fun _ _ => ⟨x, by simp, h2.2⟩⟩
        · simp [h2.1] at k3 ⊢; omega
        · rcases List.mem_cons.1 hy with rfl | hy
          · exact absurd (by rw [hpt]; simpa using hy2) h1
          · obtain ⟨z, hz, hz2⟩ := k4 hpt ⟨y, hy, hy2⟩
            exact ⟨z, List.mem_cons_of_mem _ hz, hz2⟩
      · have e : whyStep rm rd (p, q, ids) x = (p, q, ids) := by unfold whyStep; rw [if_neg h1, if_neg h2]
        rw [e]
        obtain ⟨cs, k1, k2, k3, k4, k5⟩ := whyF_pick rm rd o p q ids hno' hp hq
        refine ⟨cs, k1.cons x, k2, k3, fun hpt ⟨y, hy, hy2⟩ => ?_, fun hqt ⟨y, hy, hy2⟩ => ?_⟩
        · rcases List.mem_cons.1 hy with rfl | hy
          · exact absurd (by rw [hpt]; simpa using hy2) h1
          · exact k4 hpt ⟨y, hy, hy2⟩
        · rcases List.mem_cons.1 hy with rfl | hy
          · exact absurd (by rw [hqt]; simpa using hy2) h2
          · exact k5 hqt ⟨y, hy, hy2⟩

theorem ask_at {x : Rcn} (h : askB x = true) : askOk x.tr x.nu = true ∧ missN x.tr x.nu < 501 ∧ doubN x.tr x.nu < 501 ∧ askM x = missN x.tr x.nu ∧ askD x = doubN x.tr x.nu := by
  unfold askB misB douB lrB at h
  simp only [Bool.and_eq_true, decide_eq_true_eq] at h
  obtain ⟨⟨h1, h2⟩, _, h3⟩ := h
  refine ⟨h1, h2, h3, ?_, ?_⟩
  · unfold askM misI lrI; rw [if_pos ⟨h1, h2⟩]
  · unfold askD douI lrI; rw [if_pos ⟨h1, h3⟩]
theorem ask_lo {x : Rcn} (h : askB x = true) : loI (askM x) x.tr ≤ x.nu ∧ x.nu ≤ hiI (askD x) x.tr ∧ (∀ j : Int, 0 ≤ j → j < askM x → x.nu < loI j x.tr) ∧ (∀ j : Int, 0 ≤ j → j < askD x → hiI j x.tr < x.nu) := by
  obtain ⟨h1, h2, h3, e1, e2⟩ := ask_at h
  rw [e1, e2]
  have a1 := firstN_at (p := fun r => decide (loI r x.tr ≤ x.nu)) h2
  have a2 := firstN_at (p := fun r => decide (x.nu ≤ hiI r x.tr)) h3
  simp only [decide_eq_true_eq] at a1 a2
  refine ⟨a1, a2, fun j h0 hj => ?_, fun j h0 hj => ?_⟩
  · obtain ⟨k, rfl⟩ : ∃ k : Nat, j = k := ⟨j.toNat, by omega⟩
    have := firstN_lt (p := fun r => decide (loI r x.tr ≤ x.nu)) (n := 501) (j := k) (by unfold missN at hj; omega)
    simp only [decide_eq_false_iff_not] at this
    omega
  · obtain ⟨k, rfl⟩ : ∃ k : Nat, j = k := ⟨j.toNat, by omega⟩
    have := firstN_lt (p := fun r => decide (x.nu ≤ hiI r x.tr)) (n := 501) (j := k) (by unfold doubN at hj; omega)
    simp only [decide_eq_false_iff_not] at this
    omega
theorem loI_zero (n : Int) : loI 0 n = n := by simp [loI]
theorem hiI_zero (n : Int) : hiI 0 n = n := by simp [hiI]
theorem ask_one {x : Rcn} (h : askB x = true) : ¬ (0 < askM x ∧ 0 < askD x) := by
  rintro ⟨h1, h2⟩
  obtain ⟨_, _, a3, a4⟩ := ask_lo h
  have b1 := a3 0 (by omega) h1
  have b2 := a4 0 (by omega) h2
  rw [loI_zero] at b1
  rw [hiI_zero] at b2
  omega
theorem bad_eq {m d : Int} {x : Rcn} (hx : rcB x = true) (hr : rateB m d = true) : bad m d x = !(inB x.nu (loI m x.tr) (hiI d x.tr)) := by
  have hb := rcB_bd hx
  obtain ⟨⟨h1, h2⟩, h3, h4⟩ := rateB_bd hr
  unfold bad
  rw [loW_eq (by omega) (by omega) h1 h2, hiW_eq (by omega) (by omega) h3 h4]
theorem rate_in {m d : Int} (h1 : 0 ≤ m) (h2 : m ≤ 500) (h3 : 0 ≤ d) (h4 : d ≤ 500) : rateB m d = true := by
  unfold rateB; rw [Bool.and_eq_true, inB_iff, inB_iff]; omega

/-- all that TallyLeast asks of a rate -/
theorem least_facts {m d sh known : Int} {xs : List Rcn} {rm rd : Int} (hr : rateI m d xs sh known = (rm, rd, 0)) :
    wrI rm rd xs sh known = ([], 0) ∧ narB m d rm rd = true ∧
    (m < rm → ∃ ids, wrI (rm - 1) rd xs sh known = (ids, 0) ∧ ids ≠ []) ∧ (d < rd → ∃ ids, wrI rm (rd - 1) xs sh known = (ids, 0) ∧ ids ≠ []) ∧
    ∃ ids, whyI m d xs sh known = (ids, 0) ∧ ids.length ≤ 2 ∧ (pickS xs ids).length = ids.length ∧ rateI m d (pickS xs ids) sh known = (rm, rd, 0) ∧ (0 ≤ rm ∧ rm ≤ 500) ∧ (0 ≤ rd ∧ rd ≤ 500) := by
  have hr0 := hr
  unfold rateI at hr
  by_cases hc : chkI m d xs = 0
  · rw [if_pos hc] at hr
    by_cases ha : allB (ofS xs known sh) = true
    · rw [if_pos ha] at hr
      injection hr with e1 e2
      injection e2 with e2 _
      have hrb : rateB m d = true := by
        unfold chkI at hc
        by_cases h : rateB m d = true
        · exact h
        · rw [if_neg h] at hc; simp at hc
      have hcr : (crI xs).2 = 0 := by unfold chkI at hc; rw [if_pos hrb] at hc; exact hc
      have hcr' := (crI_iff xs).1 hcr
      obtain ⟨⟨m0, m1⟩, d0, d1⟩ := rateB_bd hrb
      have hov : ∀ x ∈ ofS xs known sh, rcB x = true := fun x hx => (hcr'.2.1 x ((ofS_sub xs known sh).subset hx)).1
      have hoa : ∀ x ∈ ofS xs known sh, askB x = true := by
        unfold allB at ha
        rw [List.all_eq_true] at ha
        exact ha
      have gm := mxM_ge (ofS xs known sh) m
      have gd := mxD_ge (ofS xs known sh) d
      have lm := mxM_le (ofS xs known sh) m 500 m1 (fun x hx => by have := ask_at (hoa x hx); omega)
      have ld := mxD_le (ofS xs known sh) d 500 d1 (fun x hx => by have := ask_at (hoa x hx); omega)
      have am := mxM_at (ofS xs known sh) m
      have ad := mxD_at (ofS xs known sh) d
      rw [e1] at gm lm am
      rw [e2] at gd ld ad
      have hwr : ∀ m' d', rateB m' d' = true → wrI m' d' xs sh known = (wrL m' d' (ofS xs known sh), 0) := by
        intro m' d' h
        unfold wrI chkI
        rw [if_pos h, if_pos hcr]
      refine ⟨?_, ?_, fun hlt => ?_, fun hlt => ?_, ?_⟩
      · rw [hwr rm rd (rate_in (by omega) lm (by omega) ld)]
        have : wrL rm rd (ofS xs known sh) = [] := by
          unfold wrL
          rw [List.map_eq_nil_iff, List.filter_eq_nil_iff]
          intro x hx
          have hb := rcB_bd (hov x hx)
          have hl := ask_lo (hoa x hx)
          rw [bad_eq (hov x hx) (rate_in (by omega) lm (by omega) ld)]
          have h1 := loI_rate (m := askM x) (r := rm) (n := x.tr) (by omega) (gm.2 x hx)
          have h2 := hiI_rate (m := askD x) (r := rd) (n := x.tr) (by omega) (gd.2 x hx)
          have : inB x.nu (loI rm x.tr) (hiI rd x.tr) = true := by rw [inB_iff]; omega
          rw [this]; simp
        rw [this]
      · unfold narB
        rw [hrb, rate_in (by omega) lm (by omega) ld, decide_eq_true gm.1, decide_eq_true gd.1]; rfl
      · obtain ⟨x, hx, hxm⟩ := am hlt
        refine ⟨_, hwr (rm - 1) rd (rate_in (by omega) (by omega) (by omega) ld), ?_⟩
        unfold wrL
        rw [ne_eq, List.map_eq_nil_iff, List.filter_eq_nil_iff]
        intro h
        have h := h x hx
        rw [bad_eq (hov x hx) (rate_in (by omega) (by omega) (by omega) ld)] at h
        have hl := (ask_lo (hoa x hx)).2.2.1 (rm - 1) (by omega) (by omega)
        have : inB x.nu (loI (rm - 1) x.tr) (hiI rd x.tr) = false := by rw [inB_not]; omega
        rw [this] at h; simp at h
      · obtain ⟨x, hx, hxm⟩ := ad hlt
        refine ⟨_, hwr rm (rd - 1) (rate_in (by omega) lm (by omega) (by omega)), ?_⟩
        unfold wrL
        rw [ne_eq, List.map_eq_nil_iff, List.filter_eq_nil_iff]
        intro h
        have h := h x hx
        rw [bad_eq (hov x hx) (rate_in (by omega) lm (by omega) (by omega))] at h
        have hl := (ask_lo (hoa x hx)).2.2.2 (rd - 1) (by omega) (by omega)
        have : inB x.nu (loI rm x.tr) (hiI (rd - 1) x.tr) = false := by rw [inB_not]; omega
        rw [this] at h; simp at h
      · obtain ⟨cs, k1, k2, k3, k4, k5⟩ := whyF_pick rm rd (ofS xs known sh) (decide (m < rm)) (decide (d < rd)) [] (fun x hx => ask_one (hoa x hx)) (fun h => by have := of_decide_eq_true h; omega) (fun h => by have := of_decide_eq_true h; omega)
        have hcs : cs.Sublist xs := k1.trans (ofS_sub xs known sh)
        have hpk : pickS xs (cs.map Rcn.id) = cs := pickS_sub hcs hcr'.2.2
        refine ⟨cs.map Rcn.id, ?_, ?_, ?_, ?_, ⟨by omega, lm⟩, by omega, ld⟩
        · unfold whyI
          rw [hr0, if_pos rfl]
          simp only [whyF, k2, List.nil_append]
        · rw [List.length_map]
          have hb : ∀ z : Bool, z.toNat ≤ 1 := fun z => by cases z <;> simp
          have := hb (decide (m < rm)); have := hb (decide (d < rd)); omega
        · rw [hpk, List.length_map]
        · rw [hpk]
          have hof : ofS cs known sh = cs := by
            unfold ofS cntS
            have hm : ∀ x ∈ cs, x.kn ≤ known ∧ x.sh = sh := by
              intro x hx
              have := k1.subset hx
              unfold ofS cntS at this
              rw [List.mem_filter, List.mem_filter] at this
              simp only [decide_eq_true_eq] at this
              exact ⟨this.1.2, this.2⟩
            have e1 : cs.filter (fun x => decide (x.kn ≤ known)) = cs := List.filter_eq_self.2 (fun x hx => by simpa using (hm x hx).1)
            rw [e1]
            exact List.filter_eq_self.2 (fun x hx => by simpa using (hm x hx).2)
          unfold rateI chkI
          rw [if_pos hrb, if_pos (crI_sub hcr hcs), hof]
          have hall : allB cs = true := by
            unfold allB
            rw [List.all_eq_true]
            exact fun x hx => hoa x (k1.subset hx)
          rw [if_pos hall]
          have cm : mxM m cs = rm := by
            have g := mxM_ge cs m
            have l := mxM_le cs m rm gm.1 (fun x hx => gm.2 x (k1.subset hx))
            rcases Int.lt_or_le m rm with h | h
            · obtain ⟨x, hx, hx2⟩ := k4 (decide_eq_true h) (am h)
              have := g.2 x hx
              omega
            · omega
          have cd : mxD d cs = rd := by
            have g := mxD_ge cs d
            have l := mxD_le cs d rd gd.1 (fun x hx => gd.2 x (k1.subset hx))
            rcases Int.lt_or_le d rd with h | h
            · obtain ⟨x, hx, hx2⟩ := k5 (decide_eq_true h) (ad h)
              have := g.2 x hx
              omega
            · omega
          rw [cm, cd]
    · rw [if_neg ha] at hr
      injection hr with _ h2
      injection h2 with _ h3
      simp at h3
  · rw [if_neg hc] at hr
    injection hr with _ h2
    injection h2 with _ h3
    exact absurd h3 hc
end Go.Proofs.Ytjaicilnlgjdcaa
