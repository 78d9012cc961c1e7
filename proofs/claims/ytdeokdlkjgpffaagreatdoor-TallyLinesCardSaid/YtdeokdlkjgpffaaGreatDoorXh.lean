/- the numbers of a line: reading what was written (no run in this text) -/
import Derived.Test.YtdeokdlkjgpffaaGreatDoorXd
import Derived.Lib.AtoiAllCases
import Derived.Lib.IndexBytes
namespace Go.Proofs.YtdeokdlkjgpffaaGreatDoor
set_option linter.all false
open Go.RowKit Go.Shelf

theorem dig_mem : ∀ (u : Nat), ∀ c ∈ Lib.decDigits u, 48 ≤ c.toNat ∧ c.toNat ≤ 57 := by
  intro u
  induction u using Nat.strongRecOn with
  | ind u ih =>
    intro c hc
    rw [Lib.decDigits] at hc
    split at hc
    · rename_i h
      simp only [List.mem_singleton] at hc
      subst hc
      rw [UInt8.toNat_ofNat']
      omega
    · rename_i h
      rcases List.mem_append.1 hc with hc | hc
      · exact ih (u / 10) (by omega) c hc
      · simp only [List.mem_singleton] at hc
        subst hc
        rw [UInt8.toNat_ofNat']
        omega
theorem dig_ne (u : Nat) : Lib.decDigits u ≠ [] := by
  rw [Lib.decDigits]
  split
  · simp
  · simp
theorem parse_snoc (c : UInt8) : ∀ (l : List UInt8) (acc v : Nat), Lib.parseUint10 acc l = .ok v → Lib.parseUint10 acc (l ++ [c]) = Lib.parseUint10 v [c]
  | [], acc, v, h => by
    simp only [Lib.parseUint10] at h
    injection h with h
    subst h
    rfl
  | b :: l, acc, v, h => by
    rw [List.cons_append]
    unfold Lib.parseUint10 at h ⊢
    split at h
    · rename_i h1
      rw [if_pos h1]
      split at h
      · cases h
      · rename_i h2
        rw [if_neg h2]
        split at h
        · cases h
        · rename_i h3
          rw [if_neg h3]
          exact parse_snoc c l _ v h
    · cases h
theorem parse_dig : ∀ (u : Nat), u ≤ 1000000000 → Lib.parseUint10 0 (Lib.decDigits u) = .ok u := by
  intro u
  induction u using Nat.strongRecOn with
  | ind u ih =>
    intro hu
    rw [Lib.decDigits]
    split
    · rename_i h
      have e : (UInt8.ofNat (48 + u)).toNat = 48 + u := by rw [UInt8.toNat_ofNat']; omega
      simp only [Lib.parseUint10, e]
      rw [if_pos (by omega), if_neg (by omega), if_neg (by omega)]
      congr 1
      omega
    · rename_i h
      rw [parse_snoc _ _ 0 (u / 10) (ih (u / 10) (by omega) (by omega))]
      have e : (UInt8.ofNat (48 + u % 10)).toNat = 48 + u % 10 := by rw [UInt8.toNat_ofNat']; omega
      simp only [Lib.parseUint10, e]
      rw [if_pos (by omega), if_neg (by omega), if_neg (by omega)]
      congr 1
      omega
theorem itoa_dig {n : Int} (h : 0 ≤ n) : Lib.itoa n = Lib.decDigits n.toNat := by unfold Lib.itoa; rw [if_neg (by omega)]
theorem atoi_itoa {n : Int} (h : 0 ≤ n) (h1 : n ≤ 1000000000) : atoiV (itoaB n).data.toList = n := by
  have e : (itoaB n).data.toList = Lib.decDigits n.toNat := by unfold itoaB; rw [itoa_dig h]
  rw [e]
  have hm := dig_mem n.toNat
  have hp := parse_dig n.toNat (by omega)
  rcases hd : Lib.decDigits n.toNat with _ | ⟨c, r⟩
  · exact absurd hd (dig_ne _)
  · rw [hd] at hm hp
    obtain ⟨h2, h3⟩ := hm c (List.mem_cons_self ..)
    unfold atoiV
    rw [Lib.atoiAll_plain c r (by omega) (by omega)]
    unfold Lib.parseMag
    rw [if_neg (by simp), hp]
    unfold Lib.signless
    simp only
    rw [if_neg (by omega)]
    simp
    omega
/-- no blank in a word -/
def noB (l : List UInt8) : Prop := ∀ c ∈ l, c ≠ 32
theorem itoa_noB {n : Int} (h : 0 ≤ n) : noB (itoaB n).data.toList := by
  intro c hc
  have e : (itoaB n).data.toList = Lib.decDigits n.toNat := by unfold itoaB; rw [itoa_dig h]
  rw [e] at hc
  have := dig_mem _ c hc
  intro hh
  subst hh
  have e2 : (32 : UInt8).toNat = 32 := rfl
  omega
theorem idx_none : ∀ (l : List UInt8), noB l → Lib.indexByte l 32 = -1
  | [], _ => rfl
  | b :: l, h => by
    have ih := idx_none l (fun c hc => h c (List.mem_cons_of_mem _ hc))
    have hb : (b == 32) = false := by simpa using h b (List.mem_cons_self ..)
    unfold Lib.indexByte
    rw [hb, ih]
    rfl
theorem idx_hit : ∀ (l r : List UInt8), noB l → Lib.indexByte (l ++ 32 :: r) 32 = (l.length : Int)
  | [], r, _ => by simp [Lib.indexByte]
  | b :: l, r, h => by
    have ih := idx_hit l r (fun c hc => h c (List.mem_cons_of_mem _ hc))
    have hb : (b == 32) = false := by simpa using h b (List.mem_cons_self ..)
    rw [List.cons_append]
    unfold Lib.indexByte
    rw [hb, ih]
    have : ((l.length : Int) == -1) = false := by simp <;> omega
    rw [this]
    simp
theorem split_words : ∀ (ws : List (List UInt8)) (w : List UInt8), noB w → (∀ x ∈ ws, noB x) →
    Lib.splitK [32] 0 (Lib.count (w ++ Lib.joinTail [32] ws) [32]) (w ++ Lib.joinTail [32] ws) = w :: ws
  | [], w, h, _ => by
    have e : w ++ Lib.joinTail [32] [] = w := by simp [Lib.joinTail]
    have hi : Lib.index w [32] = -1 := by rw [Lib.index_one]; exact idx_none w h
    rw [e, Lib.count_miss hi]
    rfl
  | y :: ws, w, h, hs => by
    have e : w ++ Lib.joinTail [32] (y :: ws) = w ++ 32 :: (y ++ Lib.joinTail [32] ws) := by simp [Lib.joinTail]
    have hi : Lib.index (w ++ 32 :: (y ++ Lib.joinTail [32] ws)) [32] = (w.length : Nat) := by rw [Lib.index_one]; exact idx_hit w _ h
    have ih := split_words ws y (hs y (List.mem_cons_self ..)) (fun x hx => hs x (List.mem_cons_of_mem _ hx))
    have hd : (w ++ 32 :: (y ++ Lib.joinTail [32] ws)).drop (w.length + 1) = y ++ Lib.joinTail [32] ws := by
      rw [List.drop_append]; simp
    rw [e, Lib.count_hit (by simp) hi, Nat.add_comm 1]
    unfold Lib.splitK
    have hm : (Lib.index (w ++ 32 :: (y ++ Lib.joinTail [32] ws)) [32] == -1) = false := by rw [hi]; simp <;> omega
    rw [hm, hi]
    simp only [Bool.false_eq_true, if_false, Int.toNat_natCast, Nat.add_zero, List.length_cons, List.length_nil, Nat.zero_add]
    rw [hd, ih]
    congr 1
    simp
theorem data_inj {xs ys : List ByteArray} (h : xs.map (·.data.toList) = ys.map (·.data.toList)) : xs = ys := by
  refine List.map_inj_right (f := fun x : ByteArray => x.data.toList) ?_ |>.1 h
  intro a b hab
  cases a; cases b
  simp only at hab
  congr 1
  exact Array.toList_inj.1 hab
theorem words_nums (x : Int) (xs : List Int) (h : ∀ y ∈ x :: xs, 0 ≤ y) : wordsB (numsB (x :: xs)) = (x :: xs).map itoaB := by
  apply data_inj
  unfold wordsB
  rw [Lib.splitB_data]
  have hl : (numsB (x :: xs)).data.toList = (itoaB x).data.toList ++ Lib.joinTail [32] ((xs.map itoaB).map (·.data.toList)) := by
    unfold numsB joinB
    rw [List.map_cons, List.map_cons, Lib.join_cons]
  have hs : spaceB.data.toList = [32] := rfl
  unfold Lib.countB
  rw [hl, hs, split_words _ _ (itoa_noB (h x (List.mem_cons_self ..))) (fun y hy => by
    obtain ⟨z, hz, rfl⟩ := List.mem_map.1 hy
    obtain ⟨v, hv, rfl⟩ := List.mem_map.1 hz
    exact itoa_noB (h v (List.mem_cons_of_mem _ hv)))]
  rfl
theorem vals_nums (xs : List Int) (h : ∀ y ∈ xs, 0 ≤ y ∧ y ≤ 1000000000) : valsS (xs.map itoaB) = xs := by
  unfold valsS
  rw [List.map_map]
  conv => rhs; rw [← List.map_id xs]
  exact List.map_congr_left (fun y hy => atoi_itoa (h y hy).1 (h y hy).2)
/-- **what was written is read** -/
theorem readN_nums (x : Int) (xs : List Int) (h : ∀ y ∈ x :: xs, 0 ≤ y ∧ y ≤ 1000000000) : readN (numsB (x :: xs)) (xs.length + 1) = (x :: xs, true) := by
  unfold readN
  rw [words_nums x xs (fun y hy => (h y hy).1), vals_nums _ h]
  simp
end Go.Proofs.YtdeokdlkjgpffaaGreatDoor
