/- the reference reads what was written; so it reads what the program reads (no run in this text) -/
import Derived.Test.YtdeokdlkjgpffaaGreatDoorZc
import Derived.Test.YtdeokdlkjgpffaaGreatDoorXi
namespace Go.Proofs.YtdeokdlkjgpffaaGreatDoor
set_option linter.all false
open Go.RowKit Go.Shelf

/-- the number that digits make -/
def digF (n : Nat) (l : List UInt8) : Nat := l.foldl (fun a c => 10 * a + c.toNat - 48) n
theorem numF_digs : ∀ (l : List UInt8) (rest : List UInt8) (acc : List Int) (n len : Nat), (∀ c ∈ l, 48 ≤ c.toNat ∧ c.toNat ≤ 57) → len + l.length ≤ 10 → numF (l ++ rest) acc n len = numF rest acc (digF n l) (len + l.length)
  | [], rest, acc, n, len, _, _ => rfl
  | c :: l, rest, acc, n, len, h, hl => by
    have hc := h c (List.mem_cons_self ..)
    rw [List.length_cons] at hl
    rw [List.cons_append, numF_dig (by omega) (by omega), numF_digs l rest acc _ _ (fun d hd => h d (List.mem_cons_of_mem _ hd)) (by omega), List.length_cons]
    congr 1
    omega
theorem digF_dec (u : Nat) : digF 0 (Lib.decDigits u) = u := by
  induction u using Nat.strongRecOn with
  | ind u ih =>
    rw [Lib.decDigits]
    split
    · rename_i h
      have e : (UInt8.ofNat (48 + u)).toNat = 48 + u := by rw [UInt8.toNat_ofNat']; omega
      simp only [digF, List.foldl_cons, List.foldl_nil, e]
      omega
    · rename_i h
      have e : (UInt8.ofNat (48 + u % 10)).toNat = 48 + u % 10 := by rw [UInt8.toNat_ofNat']; omega
      have i := ih (u / 10) (by omega)
      unfold digF at i ⊢
      rw [List.foldl_append, i]
      simp only [List.foldl_cons, List.foldl_nil, e]
      omega
theorem dec_len : ∀ (k u : Nat), u < 10 ^ (k + 1) → (Lib.decDigits u).length ≤ k + 1
  | 0, u, h => by
    rw [Lib.decDigits]
    split
    · simp
    · rename_i h1
      exact absurd h (by omega)
  | k + 1, u, h => by
    rw [Lib.decDigits]
    split
    · simp
    · have := dec_len k (u / 10) (by rw [Nat.pow_succ] at h; omega)
      rw [List.length_append]
      simp only [List.length_cons, List.length_nil]
      omega
theorem dec_pos (u : Nat) : 1 ≤ (Lib.decDigits u).length := by
  rcases h : Lib.decDigits u with _ | ⟨c, l⟩
  · exact absurd h (dig_ne u)
  · simp
theorem itoa_data {x : Int} (h : 0 ≤ x) : (itoaB x).data.toList = Lib.decDigits x.toNat := by unfold itoaB; rw [itoa_dig h]
theorem numF_words : ∀ (xs : List Int) (x : Int) (acc : List Int), (∀ y ∈ x :: xs, 0 ≤ y ∧ y ≤ 999999999) →
    numF ((itoaB x).data.toList ++ Lib.joinTail [32] ((xs.map itoaB).map (·.data.toList))) acc 0 0 = acc ++ x :: xs
  | [], x, acc, h => by
    obtain ⟨h0, h1⟩ := h x (List.mem_cons_self ..)
    have hl := dec_len 8 x.toNat (by omega)
    have hp := dec_pos x.toNat
    rw [itoa_data h0, numF_digs _ _ _ _ _ (dig_mem _) (by omega), digF_dec]
    rw [show Lib.joinTail [32] (([] : List Int).map itoaB |>.map (·.data.toList)) = [] from rfl]
    rw [numF_end (by omega)]
    congr 2
    omega
  | y :: ys, x, acc, h => by
    obtain ⟨h0, h1⟩ := h x (List.mem_cons_self ..)
    have hl := dec_len 8 x.toNat (by omega)
    have hp := dec_pos x.toNat
    have ih := numF_words ys y (acc ++ [x]) (fun z hz => h z (List.mem_cons_of_mem _ hz))
    have e : Lib.joinTail [32] (((y :: ys).map itoaB).map (·.data.toList)) = 32 :: ((itoaB y).data.toList ++ Lib.joinTail [32] ((ys.map itoaB).map (·.data.toList))) := by simp [Lib.joinTail]
    rw [itoa_data h0, numF_digs _ _ _ _ _ (dig_mem _) (by omega), digF_dec, e, numF_sep (by decide) (by omega)]
    rw [show ((x.toNat : Nat) : Int) = x by omega, ih]
    simp
/-- **what was written the reference reads** -/
theorem numF_nums (x : Int) (xs : List Int) (h : ∀ y ∈ x :: xs, 0 ≤ y ∧ y ≤ 999999999) : numF (numsB (x :: xs)).data.toList [] 0 0 = x :: xs := by
  have hl : (numsB (x :: xs)).data.toList = (itoaB x).data.toList ++ Lib.joinTail [32] ((xs.map itoaB).map (·.data.toList)) := by
    unfold numsB joinB
    rw [List.map_cons, List.map_cons, Lib.join_cons]
  rw [hl, numF_words xs x [] h]
  rfl
theorem numF_nn : ∀ (l : List UInt8) (acc : List Int) (n len : Nat), (∀ y ∈ acc, (0 : Int) ≤ y ∧ y ≤ 9223372036854775807) → n < 10 ^ len → len ≤ 10 → ∀ y ∈ numF l acc n len, (0 : Int) ≤ y ∧ y ≤ 9223372036854775807
  | [], acc, n, len, ha, hn, hl => by
    intro y hy
    by_cases h : len < 1 ∨ 9 < len
    · rw [numF_end_bad h] at hy; cases hy
    · rw [numF_end h] at hy
      have := pow_le10 hn hl
      rcases List.mem_append.1 hy with hy | hy
      · exact ha y hy
      · simp only [List.mem_singleton] at hy; subst hy; omega
  | c :: l, acc, n, len, ha, hn, hl => by
    intro y hy
    by_cases hc : c.toNat = 32
    · by_cases h : len < 1 ∨ 9 < len
      · rw [numF_sep_bad hc h] at hy; cases hy
      · rw [numF_sep hc h] at hy
        have := pow_le10 hn hl
        exact numF_nn l _ 0 0 (fun z hz => by
          rcases List.mem_append.1 hz with hz | hz
          · exact ha z hz
          · simp only [List.mem_singleton] at hz; subst hz; omega) (by decide) (by omega) y hy
    · by_cases h : c.toNat < 48 ∨ 57 < c.toNat ∨ 9 < len
      · rw [numF_bad hc h] at hy; cases hy
      · rw [numF_dig hc h] at hy
        have hx := pow_next (d := c.toNat - 48) hn (by omega)
        exact numF_nn l acc _ _ ha (by omega) (by omega) y hy
theorem numF_pos (s : ByteArray) : posB (numF s.data.toList [] 0 0) := numF_nn _ _ _ _ (fun y hy => by cases hy) (by decide) (by omega)
theorem ct_bd9 {x : Ct} (h : ctB x = true) : ∀ y ∈ ctNums x, 0 ≤ y ∧ y ≤ 999999999 := by
  unfold ctB countB entryB at h
  simp only [Bool.and_eq_true, List.all_cons, List.all_nil, Bool.and_true, inB_iff] at h
  intro y hy
  simp only [ctNums, List.mem_cons, List.not_mem_nil, or_false] at hy
  omega
theorem rc_bd9 {x : Rcn} (h : rcB x = true) : ∀ y ∈ rcNums x, 0 ≤ y ∧ y ≤ 999999999 := by
  unfold rcB recountB entryB at h
  simp only [Bool.and_eq_true, List.all_cons, List.all_nil, Bool.and_true, inB_iff, decide_eq_true_eq] at h
  intro y hy
  simp only [rcNums, List.mem_cons, List.not_mem_nil, or_false] at hy
  omega
/-- what the reference's Read, ReadRecount give -/
def refC (n : List Int) (s : ByteArray) : Ct × Int := if (decide (n.length = 5) && (ctB (mkCt n) && (numsB n).toList == s.toList)) = true then (mkCt n, 0) else (zeroCt, 4)
def refR (n : List Int) (s : ByteArray) : Rcn × Int := if (decide (n.length = 6) && (rcB (mkRc n) && (numsB n).toList == s.toList)) = true then (mkRc n, 0) else (zeroRc, 4)
theorem readC_bad {s : ByteArray} (h : (readC s).2 ≠ 0) : readC s = (zeroCt, 4) := by
  unfold readC at h ⊢
  split
  · rename_i hc; rw [if_pos hc] at h; exact absurd rfl h
  · rfl
theorem readR_bad {s : ByteArray} (h : (readR s).2 ≠ 0) : readR s = (zeroRc, 4) := by
  unfold readR at h ⊢
  split
  · rename_i hc; rw [if_pos hc] at h; exact absurd rfl h
  · rfl
theorem refC_eq (s : ByteArray) : refC (numF s.data.toList [] 0 0) s = readC s := by
  by_cases h : (readC s).2 = 0
  · obtain ⟨h1, h2⟩ := written_read h
    obtain ⟨c, hc⟩ : ∃ c, c = (readC s).1 := ⟨_, rfl⟩
    have hr : readC s = (c, 0) := by rw [hc, ← h]
    rw [hr]
    rw [← hc] at h1 h2
    have hs : s = numsB (ctNums c) := by rw [← h2]; unfold ctLine; rw [if_pos h1]
    have hn : numF s.data.toList [] 0 0 = ctNums c := by rw [hs]; exact numF_nums c.id [c.dy, c.sh, c.nu, c.wo] (ct_bd9 h1)
    have hm : mkCt (ctNums c) = c := rfl
    unfold refC
    rw [hn, hm, h1, if_pos (by rw [← hs]; simp [ctNums])]
  · rw [readC_bad h]
    unfold refC
    rw [if_neg]
    intro hc
    simp only [Bool.and_eq_true, decide_eq_true_eq] at hc
    obtain ⟨h1, h2, h3⟩ := hc
    obtain ⟨n, hn⟩ : ∃ n, n = numF s.data.toList [] 0 0 := ⟨_, rfl⟩
    rw [← hn] at h1 h2 h3
    have hx : ctNums (mkCt n) = n := by
      match n, h1 with
      | [a, b, c, d, e], _ => rfl
    have hs := bytes_eq h3
    have hl : ctLine (mkCt n) = s := by unfold ctLine; rw [if_pos h2, hx, hs]
    have := read_written h2
    rw [hl] at this
    rw [this] at h
    exact h rfl
theorem refR_eq (s : ByteArray) : refR (numF s.data.toList [] 0 0) s = readR s := by
  by_cases h : (readR s).2 = 0
  · obtain ⟨h1, h2⟩ := written_readR h
    obtain ⟨c, hc⟩ : ∃ c, c = (readR s).1 := ⟨_, rfl⟩
    have hr : readR s = (c, 0) := by rw [hc, ← h]
    rw [hr]
    rw [← hc] at h1 h2
    have hs : s = numsB (rcNums c) := by rw [← h2]; unfold rcLine; rw [if_pos h1]
    have hn : numF s.data.toList [] 0 0 = rcNums c := by rw [hs]; exact numF_nums c.id [c.kn, c.dy, c.sh, c.tr, c.nu] (rc_bd9 h1)
    have hm : mkRc (rcNums c) = c := rfl
    unfold refR
    rw [hn, hm, h1, if_pos (by rw [← hs]; simp [rcNums])]
  · rw [readR_bad h]
    unfold refR
    rw [if_neg]
    intro hc
    simp only [Bool.and_eq_true, decide_eq_true_eq] at hc
    obtain ⟨h1, h2, h3⟩ := hc
    obtain ⟨n, hn⟩ : ∃ n, n = numF s.data.toList [] 0 0 := ⟨_, rfl⟩
    rw [← hn] at h1 h2 h3
    have hx : rcNums (mkRc n) = n := by
      match n, h1 with
      | [a, b, c, d, e, f], _ => rfl
    have hs := bytes_eq h3
    have hl : rcLine (mkRc n) = s := by unfold rcLine; rw [if_pos h2, hx, hs]
    have := readR_written h2
    rw [hl] at this
    rw [this] at h
    exact h rfl
end Go.Proofs.YtdeokdlkjgpffaaGreatDoor
