/-
  What a further record changes: no other sort, nothing that was known before; between two starts nothing.
-/
import Derived.Test.YtcjpecdnenemaaaGreatDoorLa1
import Derived.Test.YtcjpecdnenemaaaGreatDoorRn7
namespace Go.Proofs.YtcjpecdnenemaaaGreatDoor
set_option linter.all false
open Go.RowKit Go.Shelf Go.Sort

theorem compact_mem {zs : List Int} {z : Int} (h : z ∈ zs) : z ∈ Lib.compact zs := by
  have key : ∀ j, j < zs.length → zs.toArray[j]! ∈ Lib.compact zs := by
    intro j
    induction j with
    | zero =>
      intro hj
      unfold Lib.compact Lib.compactUpTo
      rw [List.mem_map]
      exact ⟨0, List.mem_filter.2 ⟨List.mem_range.2 hj, by simp [Lib.keeps]⟩, rfl⟩
    | succ j ih =>
      intro hj
      by_cases e : zs.toArray[j + 1]! = zs.toArray[j]!
      · rw [e]; exact ih (by omega)
      · unfold Lib.compact Lib.compactUpTo
        rw [List.mem_map]
        exact ⟨j + 1, List.mem_filter.2 ⟨List.mem_range.2 hj, by simp [Lib.keeps]; simpa using e⟩, rfl⟩
  obtain ⟨j, hj, rfl⟩ := List.getElem_of_mem h
  have := key j hj
  simpa [getElem!_pos, hj] using this
theorem starts_mem {xs : List Eqv} {sort : ByteArray} {y : Eqv} (h : y ∈ xs) (hs : (y.sort.toList == sort.toList) = true) : y.frm ∈ startsS xs sort := by
  unfold startsS
  refine compact_mem (List.mem_mergeSort.2 ?_)
  unfold frmS
  exact List.mem_map.2 ⟨y, List.mem_filter.2 ⟨h, hs⟩, rfl⟩
/-- gst sees only what fits -/
theorem fold_fit (sort : ByteArray) (day : Int) : ∀ (l : List Eqv) (acc : Option Eqv), l.foldl (gst sort day) acc = (l.filter (fitB sort day)).foldl (gst sort day) acc
  | [], acc => rfl
  | x :: l, acc => by
    by_cases h : fitB sort day x = true
    · rw [List.filter_cons_of_pos h]
      exact fold_fit sort day l _
    · rw [List.filter_cons_of_neg h]
      have e : gst sort day acc x = acc := by unfold gst; rw [if_neg h]
      show l.foldl (gst sort day) (gst sort day acc x) = _
      rw [e]
      exact fold_fit sort day l _
theorem gst_all {sort : ByteArray} {d d' : Int} {x : Eqv} {acc : Option Eqv} (h : fitB sort d x = true) (h' : fitB sort d' x = true) : gst sort d acc x = gst sort d' acc x := by
  unfold gst; rw [if_pos h, if_pos h']
theorem fold_day (sort : ByteArray) (d d' : Int) : ∀ (l : List Eqv), (∀ x ∈ l, fitB sort d x = fitB sort d' x) → ∀ (acc : Option Eqv), l.foldl (gst sort d) acc = l.foldl (gst sort d') acc
  | [], _, acc => rfl
  | x :: l, h, acc => by
    have e : gst sort d acc x = gst sort d' acc x := by unfold gst; rw [h x (by simp)]
    show l.foldl (gst sort d) (gst sort d acc x) = l.foldl (gst sort d') (gst sort d' acc x)
    rw [e]
    exact fold_day sort d d' l (fun y hy => h y (by simp [hy])) _
theorem force_list (xs : List Eqv) (sort : ByteArray) (day known : Int) : inForceS xs sort day known = (xs.filter (fun y => fitB sort day y && cntP xs known y)).foldl (gst sort day) none := by
  unfold inForceS bestS cntS
  rw [fold_fit, List.filter_filter]

theorem chk_pre {xs : List Eqv} {x : Eqv} (h : (chkS (xs ++ [x])).2 = 0) : (chkS xs).2 = 0 := by
  have h1 := chk_all h
  rw [chkS_none]
  intro j hj
  have := h1 j (by simp; omega)
  unfold refAt at this ⊢
  rw [List.getElem?_append_left hj, List.take_append_of_le_length (by omega)] at this
  exact this
theorem chk_last {xs : List Eqv} {x : Eqv} (h : (chkS (xs ++ [x])).2 = 0) : refS xs x = 0 := by
  have := chk_all h xs.length (by simp)
  unfold refAt at this
  rw [List.getElem?_append_right (Nat.le_refl _)] at this
  simp at this
  exact this
theorem refS_new {xs : List Eqv} {x : Eqv} (h : refS xs x = 0) : ∀ y ∈ xs, y.id ≠ x.id := by
  unfold refS at h
  split at h
  · cases h
  · split at h
    · cases h
    · split at h
      · cases h
      · rename_i h3
        intro y hy e
        exact h3 (List.any_eq_true.2 ⟨y, hy, by simp [e]⟩)
theorem chk_uniq {xs : List Eqv} (h : (chkS xs).2 = 0) {i j : Nat} {y z : Eqv} (hy : xs[i]? = some y) (hz : xs[j]? = some z) (e : y.id = z.id) : i = j := by
  have key : ∀ {i j : Nat} {y z : Eqv}, xs[i]? = some y → xs[j]? = some z → y.id = z.id → ¬ i < j := by
    intro i j y z hy hz e hij
    have hl := (List.getElem?_eq_some_iff.1 hz).1
    have := chk_all h j hl
    unfold refAt at this
    rw [hz] at this
    exact refS_new this y (List.mem_of_getElem? (i := i) (by rw [List.getElem?_take_of_lt hij]; exact hy)) e
  have h1 := key hy hz e
  have h2 := key hz hy e.symm
  omega
theorem sort_unique {xs : List Eqv} {x y : Eqv} (h : (chkS xs).2 = 0) (hy : y ∈ xs) (e : y.id = x.off) : sortS xs x = y.sort := by
  obtain ⟨i, hi⟩ := List.getElem?_of_mem hy
  unfold sortS
  rcases hf : xs.find? (fun z => z.id == x.off) with _ | z
  · rw [List.find?_eq_none] at hf
    exact absurd (by simp [e]) (hf y hy)
  · have hz := List.mem_of_find?_eq_some hf
    have hp := List.find?_some hf
    obtain ⟨j, hj⟩ := List.getElem?_of_mem hz
    have : i = j := chk_uniq h hi hj (by simp at hp; omega)
    subst this
    rw [hi] at hj
    cases hj
    rw [hf]
theorem sort_own {xs : List Eqv} {x : Eqv} (h : (chkS xs).2 = 0) (h0 : x.off = 0) : sortS xs x = x.sort := by
  unfold sortS
  rcases hf : xs.find? (fun z => z.id == x.off) with _ | z
  · rw [hf]
  · have hz := List.mem_of_find?_eq_some hf
    have hp := List.find?_some hf
    have := form_id (chk_form h hz)
    simp at hp
    omega
/-- a record known later changes nothing -/
theorem force_later {xs : List Eqv} {x : Eqv} {sort : ByteArray} {day known : Int} (h : known < x.kno) : inForceS (xs ++ [x]) sort day known = inForceS xs sort day known := by
  have hv : ∀ id, voidS (xs ++ [x]) known id = voidS xs known id := by
    intro id
    rw [voidS_snoc]
    have : ¬ x.kno ≤ known := by omega
    simp [this]
  have hc : ∀ y, cntP (xs ++ [x]) known y = cntP xs known y := by
    intro y; unfold cntP; rw [hv]
  unfold inForceS cntS
  have e : (xs ++ [x]).filter (cntP (xs ++ [x]) known) = xs.filter (cntP xs known) := by
    rw [show cntP (xs ++ [x]) known = cntP xs known from funext hc, List.filter_append]
    have : cntP xs known x = false := by
      unfold cntP
      have : ¬ x.kno ≤ known := by omega
      simp [this]
    simp [this]
  rw [e]
/-- a record changes no other sort -/
theorem force_other {xs : List Eqv} {x : Eqv} {sort : ByteArray} {day known : Int} (h : (chkS (xs ++ [x])).2 = 0) (hs : (sort.toList == (sortS xs x).toList) = false) :
    inForceS (xs ++ [x]) sort day known = inForceS xs sort day known := by
  have h0 := chk_pre h
  have hne : ¬ sort.toList = (sortS xs x).toList := by simpa using hs
  rw [force_list, force_list, List.filter_append]
  have e1 : xs.filter (fun y => fitB sort day y && cntP (xs ++ [x]) known y) = xs.filter (fun y => fitB sort day y && cntP xs known y) := by
    apply List.filter_congr
    intro y hy
    rcases hf : fitB sort day y with _ | _
    · rfl
    · simp only [Bool.true_and]
      unfold cntP
      rw [voidS_snoc]
      by_cases ev : x.off = y.id
      · have := sort_unique h0 hy ev.symm
        unfold fitB at hf
        simp at hf
        rw [this] at hne
        exact absurd hf.1.symm hne
      · simp [ev]
  have e2 : [x].filter (fun y => fitB sort day y && cntP (xs ++ [x]) known y) = [] := by
    rcases hf : fitB sort day x with _ | _
    · simp [hf]
    · by_cases ho : x.off = 0
      · have := sort_own h0 ho
        unfold fitB at hf
        simp at hf
        rw [this] at hne
        exact absurd hf.1.symm hne
      · have : cntP (xs ++ [x]) known x = false := by unfold cntP; simp [ho]
        simp [this]
  rw [e1, e2, List.append_nil]
/-- between two starts nothing changes -/
theorem force_still {xs : List Eqv} {sort : ByteArray} {day known : Int} (h : ¬ day ∈ startsS xs sort) : inForceS xs sort day known = inForceS xs sort (day - 1) known := by
  have hf : ∀ y ∈ xs, fitB sort day y = fitB sort (day - 1) y := by
    intro y hy
    unfold fitB
    rcases hs : (y.sort.toList == sort.toList) with _ | _
    · rfl
    · have hm := starts_mem hy hs
      have : y.frm ≠ day := fun e => h (e ▸ hm)
      simp only [Bool.true_and]
      rw [decide_eq_decide]
      omega
  unfold inForceS bestS
  refine fold_day sort day (day - 1) _ (fun y hy => ?_) none
  unfold cntS at hy
  exact hf y (List.mem_filter.1 hy).1
theorem force_early {xs : List Eqv} {sort : ByteArray} {day known : Int} (h : (chkS xs).2 = 0) (hd : day < 0) : inForceS xs sort day known = none := by
  rcases hf : inForceS xs sort day known with _ | r
  · rfl
  · obtain ⟨h1, h2, h3⟩ := inForce_mem hf
    have := frm_bd (chk_form h h1)
    unfold fitB at h3
    simp at h3
    omega
theorem starts_pre {xs : List Eqv} {x : Eqv} {sort : ByteArray} {d : Int} (h : d ∈ startsS xs sort) : d ∈ startsS (xs ++ [x]) sort := by
  have := List.mem_mergeSort.1 (mem_compact h)
  unfold frmS at this
  rw [List.mem_map] at this
  obtain ⟨y, hy, rfl⟩ := this
  rw [List.mem_filter] at hy
  exact starts_mem (by simp [hy.1]) hy.2
/-- where the Stints agree on all starts they agree on all days -/
theorem force_agree {xs : List Eqv} {x : Eqv} {sort : ByteArray} {known : Int} (h : (chkS (xs ++ [x])).2 = 0)
    (ha : ∀ d ∈ startsS (xs ++ [x]) sort, stS (inForceS (xs ++ [x]) sort d known) = stS (inForceS xs sort d known)) :
    ∀ d : Int, stS (inForceS (xs ++ [x]) sort d known) = stS (inForceS xs sort d known) := by
  have key : ∀ k : Nat, stS (inForceS (xs ++ [x]) sort ((k : Int) - 1) known) = stS (inForceS xs sort ((k : Int) - 1) known) := by
    intro k
    induction k with
    | zero => rw [force_early h (by omega), force_early (chk_pre h) (by omega)]
    | succ k ih =>
      by_cases hm : ((k + 1 : Nat) : Int) - 1 ∈ startsS (xs ++ [x]) sort
      · exact ha _ hm
      · rw [force_still hm, force_still (fun h => hm (starts_pre h))]
        have e : ((k + 1 : Nat) : Int) - 1 - 1 = (k : Int) - 1 := by omega
        rw [e]
        exact ih
  intro d
  by_cases hd : d < 0
  · rw [force_early h hd, force_early (chk_pre h) hd]
  · have := key (d + 1).toNat
    rw [show (((d + 1).toNat : Nat) : Int) - 1 = d by omega] at this
    exact this
theorem some_of_st {xs ys : List Eqv} {sort : ByteArray} {d e k l : Int} (hx : (chkS xs).2 = 0) (hy : (chkS ys).2 = 0) (h : stS (inForceS xs sort d k) = stS (inForceS ys sort e l)) :
    (inForceS xs sort d k).isSome = (inForceS ys sort e l).isSome := by
  rcases h1 : inForceS xs sort d k with _ | r
  · rcases h2 : inForceS ys sort e l with _ | q
    · rfl
    · have := (inForce_ok hy h2).2.1
      rw [h1, h2] at h
      unfold stS at h
      simp [zeroE] at h
      omega
  · rcases h2 : inForceS ys sort e l with _ | q
    · have := (inForce_ok hx h1).2.1
      rw [h1, h2] at h
      unfold stS at h
      simp [zeroE] at h
      omega
    · rfl
end Go.Proofs.YtcjpecdnenemaaaGreatDoor
