/- ShareHeirs: the math of whole stints -/
import Derived.Test.YtcjpecdnenemaaaGreatDoorMs9
namespace Go.Proofs.YtcjpecdnenemaaaGreatDoor
set_option linter.all false
open Go.RowKit Go.Shelf Go.Sort

theorem modify_sum : ∀ (l : List Int) (o : Nat), o < l.length → (l.modify o (· + 1)).sum = l.sum + 1
  | [], o, h => by simp at h
  | x :: l, 0, _ => by simp; omega
  | x :: l, o + 1, h => by
    have := modify_sum l o (by simpa using h)
    simp only [List.modify_succ_cons, List.sum_cons]
    omega
theorem bump_sum : ∀ (os : List Nat) (l : List Int), (∀ o ∈ os, o < l.length) → (bump l os).sum = l.sum + os.length
  | [], l, _ => by simp [bump]
  | o :: os, l, h => by
    have e : bump l (o :: os) = bump (l.modify o (· + 1)) os := rfl
    rw [e, bump_sum os _ (fun q hq => by rw [List.length_modify]; exact h q (List.mem_cons_of_mem _ hq)), modify_sum l o (h o (List.mem_cons_self ..))]
    simp only [List.length_cons]
    push_cast
    omega
theorem bump_get : ∀ (os : List Nat) (l : List Int) (i : Nat) (v : Int), os.Nodup → l[i]? = some v → (bump l os)[i]? = some (v + if i ∈ os then 1 else 0)
  | [], l, i, v, _, h => by simp [bump, h]
  | o :: os, l, i, v, hn, h => by
    have e : bump l (o :: os) = bump (l.modify o (· + 1)) os := rfl
    rw [List.nodup_cons] at hn
    by_cases hi : i = o
    · subst hi
      have h2 : (l.modify i (· + 1))[i]? = some (v + 1) := by rw [List.getElem?_modify_eq, h]; rfl
      rw [e, bump_get os _ i (v + 1) hn.2 h2, if_neg hn.1, if_pos (List.mem_cons_self ..)]
      simp
    · have h2 : (l.modify o (· + 1))[i]? = some v := by rw [List.getElem?_modify, h]; simp [Ne.symm hi]
      rw [e, bump_get os _ i v hn.2 h2]
      have : (i ∈ o :: os) ↔ i ∈ os := by simp [hi]
      simp only [this]
/-- the cuts of an order together -/
theorem sum_map_perm {f : Nat → Int} {a b : List Nat} (h : a.Perm b) : (a.map f).sum = (b.map f).sum := by
  induction h with
  | nil => rfl
  | cons x _ ih => simp only [List.map_cons, List.sum_cons]; omega
  | swap x y l => simp only [List.map_cons, List.sum_cons]; omega
  | trans _ _ i1 i2 => exact i1.trans i2
theorem range_map (f : Int → Int) : ∀ zs : List Int, (List.range zs.length).map (fun i => f (zs.getD i 0)) = zs.map f := by
  intro zs
  apply List.ext_getElem?
  intro i
  rw [List.getElem?_map, List.getElem?_map]
  by_cases h : i < zs.length
  · rw [List.getElem?_range h, List.getElem?_eq_getElem h]
    simp [List.getD_eq_getElem?_getD, List.getElem?_eq_getElem h]
  · rw [List.getElem?_eq_none (by simpa using h), List.getElem?_eq_none (by simpa using h)]
    rfl
theorem sum_le_mul {f : Nat → Int} {M : Int} : ∀ l : List Nat, (∀ x ∈ l, f x ≤ M) → (l.map f).sum ≤ l.length * M
  | [], _ => by simp
  | x :: l, h => by
    have := sum_le_mul l (fun y hy => h y (List.mem_cons_of_mem _ hy))
    have h1 := h x (List.mem_cons_self ..)
    have e : ((l.length + 1 : Nat) : Int) * M = (l.length : Int) * M + M := by push_cast; rw [Int.add_mul, Int.one_mul]
    simp only [List.map_cons, List.sum_cons, List.length_cons]
    rw [e]
    omega
/-- who gets one more has been cut -/
theorem raised_cut {total : Int} {zs : List Int} {Z : List Nat} {L : Nat} (hs : 0 < zs.sum) (hp : Z.Perm (List.range zs.length)) (hw : Z.Pairwise (ltC total zs.sum zs)) (hL : (L : Int) = total - (flS total zs.sum zs).sum) {j o : Nat} (hj : j < L) (ho : Z[j]? = some o) : 0 < cutN total zs.sum zs o := by
  have hc0 : ∀ i, 0 ≤ cutN total zs.sum zs i ∧ cutN total zs.sum zs i ≤ zs.sum - 1 := fun i => by
    unfold cutN cutZ
    have h1 := Int.emod_nonneg (total * zs.getD i 0) (show zs.sum ≠ 0 by omega)
    have h2 := Int.emod_lt_of_pos (total * zs.getD i 0) hs
    omega
  rcases Int.lt_or_le 0 (cutN total zs.sum zs o) with h | h
  · exact h
  exfalso
  have ho0 : cutN total zs.sum zs o = 0 := by have := (hc0 o).1; omega
  have htot : (Z.map (cutN total zs.sum zs)).sum = zs.sum * L := by
    rw [sum_map_perm hp]
    have e : (List.range zs.length).map (cutN total zs.sum zs) = zs.map (cutZ total zs.sum) := range_map (cutZ total zs.sum) zs
    rw [e, hL, Int.mul_sub]
    have := flS_sum total zs.sum (by omega) zs
    rw [this, Int.mul_comm zs.sum total]
    omega
  have hsplit : Z = Z.take j ++ Z.drop j := (List.take_append_drop j Z).symm
  have hzero : ∀ x ∈ Z.drop j, cutN total zs.sum zs x ≤ 0 := by
    obtain ⟨hjl, hjo⟩ := List.getElem?_eq_some_iff.1 ho
    have hd : Z.drop j = o :: Z.drop (j + 1) := by rw [List.drop_eq_getElem_cons hjl, hjo]
    have hw2 : (Z.drop j).Pairwise (ltC total zs.sum zs) := by rw [hsplit] at hw; exact (List.pairwise_append.1 hw).2.1
    rw [hd] at hw2 ⊢
    intro x hx
    rcases List.mem_cons.1 hx with hx | hx
    · rw [hx, ho0]; omega
    · have := (List.pairwise_cons.1 hw2).1 x hx
      unfold ltC at this
      omega
  have h1 := sum_le_mul (f := cutN total zs.sum zs) (M := 0) (Z.drop j) hzero
  have h2 := sum_le_mul (f := cutN total zs.sum zs) (M := zs.sum - 1) (Z.take j) (fun x _ => (hc0 x).2)
  have h3 : (Z.map (cutN total zs.sum zs)).sum = ((Z.take j).map (cutN total zs.sum zs)).sum + ((Z.drop j).map (cutN total zs.sum zs)).sum := by
    rw [← List.sum_append, ← List.map_append, List.take_append_drop]
  have hlen : (Z.take j).length ≤ j := by rw [List.length_take]; omega
  have h4 : ((Z.take j).length : Int) * (zs.sum - 1) ≤ (L - 1) * (zs.sum - 1) := Int.mul_le_mul_of_nonneg_right (by omega) (by omega)
  have h5 : ((L : Int) - 1) * (zs.sum - 1) = zs.sum * L - zs.sum - L + 1 := by rw [Int.sub_mul, Int.mul_sub, Int.mul_comm]; omega
  rw [Int.mul_zero] at h1
  omega
/-- what an heir gets of whole stints -/
theorem whole_part {total : Int} {zs : List Int} {Z : List Nat} (ht : 0 ≤ total) (hs : 0 < zs.sum) (hpart : partsB zs = true) (hp : Z.Perm (List.range zs.length)) (hw : Z.Pairwise (ltC total zs.sum zs)) :
    (bump (flS total zs.sum zs) (Z.take (total - (flS total zs.sum zs).sum).toNat)).length = zs.length ∧
    (bump (flS total zs.sum zs) (Z.take (total - (flS total zs.sum zs).sum).toNat)).sum = total ∧
    ∀ (i : Nat) (z : Int), zs[i]? = some z → ∃ v, (bump (flS total zs.sum zs) (Z.take (total - (flS total zs.sum zs).sum).toNat))[i]? = some v ∧ 0 ≤ v ∧ v ≤ total ∧ -zs.sum < v * zs.sum - total * z ∧ v * zs.sum - total * z < zs.sum := by
  obtain ⟨l0, l1⟩ := left_bd (total := total) hs
  obtain ⟨L, hL⟩ := Int.eq_ofNat_of_zero_le l0
  have hLt : (total - (flS total zs.sum zs).sum).toNat = L := by rw [hL]; rfl
  rw [hLt]
  have hfl : (flS total zs.sum zs).length = zs.length := by unfold flS; rw [List.length_map]
  have hzl : Z.length = zs.length := by rw [hp.length_eq, List.length_range]
  have hnd : (Z.take L).Nodup := ((hp.nodup_iff.2 List.nodup_range).sublist (List.take_sublist _ _))
  have hsum : (bump (flS total zs.sum zs) (Z.take L)).sum = total := by
    rw [bump_sum _ _ (fun o ho => by rw [hfl]; exact List.mem_range.1 (hp.mem_iff.1 (List.mem_of_mem_take ho))), List.length_take, hzl, Nat.min_eq_left (by omega)]
    omega
  have key : ∀ (i : Nat) (z : Int), zs[i]? = some z → ∃ v, (bump (flS total zs.sum zs) (Z.take L))[i]? = some v ∧ 0 ≤ v ∧ -zs.sum < v * zs.sum - total * z ∧ v * zs.sum - total * z < zs.sum := by
    intro i z hz
    obtain ⟨z0, z1⟩ := part_in hpart hz
    have hf : (flS total zs.sum zs)[i]? = some (total * z / zs.sum) := by unfold flS; rw [List.getElem?_map, hz]; rfl
    refine ⟨_, bump_get _ _ i _ hnd hf, ?_⟩
    have e1 := Int.emod_nonneg (total * z) (show zs.sum ≠ 0 by omega)
    have e2 := Int.emod_lt_of_pos (total * z) hs
    have e3 := Int.mul_ediv_add_emod (total * z) zs.sum
    have e4 := Int.ediv_nonneg (Int.mul_nonneg ht z0) (show 0 ≤ zs.sum by omega)
    by_cases hm : i ∈ Z.take L
    · rw [if_pos hm]
      obtain ⟨j, hj⟩ := List.getElem?_of_mem hm
      have hjl : j < L := by
        have := (List.getElem?_eq_some_iff.1 hj).1
        rw [List.length_take] at this
        omega
      have hjz : Z[j]? = some i := by rw [List.getElem?_take_of_lt hjl] at hj; exact hj
      have hc := raised_cut hs hp hw hL.symm hjl hjz
      have hcz : cutN total zs.sum zs i = total * z % zs.sum := by
        unfold cutN cutZ
        rw [List.getD_eq_getElem?_getD, hz]
        rfl
      rw [hcz] at hc
      have e5 : (total * z / zs.sum + 1) * zs.sum = zs.sum * (total * z / zs.sum) + zs.sum := by rw [Int.add_mul, Int.one_mul, Int.mul_comm]
      rw [e5]
      omega
    · rw [if_neg hm]
      have e5 : (total * z / zs.sum + 0) * zs.sum = zs.sum * (total * z / zs.sum) := by rw [Int.add_zero, Int.mul_comm]
      rw [e5]
      omega
  refine ⟨by rw [bump_len, hfl], hsum, fun i z hz => ?_⟩
  obtain ⟨v, h1, h2, h3, h4⟩ := key i z hz
  refine ⟨v, h1, h2, ?_, h3, h4⟩
  have hall : ∀ v ∈ bump (flS total zs.sum zs) (Z.take L), 0 ≤ v := by
    intro v hv
    obtain ⟨k, hk⟩ := List.getElem?_of_mem hv
    have hkl : k < zs.length := by
      have := (List.getElem?_eq_some_iff.1 hk).1
      rw [bump_len, hfl] at this
      exact this
    obtain ⟨v', g1, g2, _⟩ := key k _ (List.getElem?_eq_getElem hkl)
    rw [hk] at g1
    injection g1 with g1
    rw [g1]; exact g2
  have : ∀ (l : List Int) (v : Int), (∀ x ∈ l, 0 ≤ x) → v ∈ l → v ≤ l.sum := by
    intro l
    induction l with
    | nil => intro v _ hv; cases hv
    | cons a l ih =>
      intro v hl hv
      have hsn : 0 ≤ l.sum := by
        clear ih hv
        have : ∀ l : List Int, (∀ x ∈ l, 0 ≤ x) → 0 ≤ l.sum := by
          intro l
          induction l with
          | nil => intro _; simp
          | cons b l ih => intro h; have := ih (fun x hx => h x (List.mem_cons_of_mem _ hx)); have := h b (List.mem_cons_self ..); simp only [List.sum_cons]; omega
        exact this l (fun x hx => hl x (List.mem_cons_of_mem _ hx))
      have ha := hl a (List.mem_cons_self ..)
      simp only [List.sum_cons]
      rcases List.mem_cons.1 hv with h | h
      · omega
      · have := ih v (fun x hx => hl x (List.mem_cons_of_mem _ hx)) h
        omega
  rw [← hsum]
  exact this _ v hall (List.mem_of_getElem? h1)
end Go.Proofs.YtcjpecdnenemaaaGreatDoor
