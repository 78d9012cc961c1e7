/-
  ShareTables: what is written is read (no run in this text)
  ShareTables: the reference's digits and Write
  ShareTables: the reference's Write
  ShareTables: the reference's Number and Words
  ShareTables: the reference's Words
  ShareTables: the reference's SameEquals
  ShareTables: the reference's Read
  ShareTables: the reference's Read of seven words
-/
import Derived.Test.YtcjpecdnenemaaaGreatDoorGK
import Derived.Test.YtcjpecdnenemaaaGreatDoorRn2
import Derived.Test.YtcjpecdnenemaaaGreatDoorLa1
import Derived.Test.YtcjpecdnenemaaaGreatDoorGF
import Derived.Test.YtcjpecdnenemaaaGreatDoorGI
import Derived.Lib.AtoiAllCases
import Derived.Lib.IndexBytes
import Derived.Laws.IdiomStrings
import Derived.Laws.Concat
import Derived.Deep.RegionHeld3
import Derived.Deep.DeepCutAuto
import Derived.Deep.AppendLies
import Derived.BigQuiet
namespace Go.Proofs.YtcjpecdnenemaaaGreatDoor
set_option linter.all false
open Go.RowKit Go.Shelf

theorem dig_mem : ∀ (u : Nat), ∀ c ∈ Lib.decDigits u, 48 ≤ c.toNat ∧ c.toNat ≤ 57 := by
  intro u
  induction u using Nat.strongRecOn with
  | ind u ih =>
    intro c hc
    rw [Lib.decDigits] at hc
    split at hc
    · rename_i h
      simp only [List.mem_singleton] at hc
      subst hc
      rw [UInt8.toNat_ofNat']
      omega
    · rename_i h
      rcases List.mem_append.1 hc with hc | hc
      · exact ih (u / 10) (by omega) c hc
      · simp only [List.mem_singleton] at hc
        subst hc
        rw [UInt8.toNat_ofNat']
        omega
theorem dig_ne (u : Nat) : Lib.decDigits u ≠ [] := by
  rw [Lib.decDigits]
  split
  · simp
  · simp
theorem parse_snoc (c : UInt8) : ∀ (l : List UInt8) (acc v : Nat), Lib.parseUint10 acc l = .ok v → Lib.parseUint10 acc (l ++ [c]) = Lib.parseUint10 v [c]
  | [], acc, v, h => by
    simp only [Lib.parseUint10] at h
    injection h with h
    subst h
    rfl
  | b :: l, acc, v, h => by
    rw [List.cons_append]
    unfold Lib.parseUint10 at h ⊢
    split at h
    · rename_i h1
      rw [if_pos h1]
      split at h
      · cases h
      · rename_i h2
        rw [if_neg h2]
        split at h
        · cases h
        · rename_i h3
          rw [if_neg h3]
          exact parse_snoc c l _ v h
    · cases h
theorem parse_dig : ∀ (u : Nat), u ≤ 1000000000 → Lib.parseUint10 0 (Lib.decDigits u) = .ok u := by
  intro u
  induction u using Nat.strongRecOn with
  | ind u ih =>
    intro hu
    rw [Lib.decDigits]
    split
    · rename_i h
      have e : (UInt8.ofNat (48 + u)).toNat = 48 + u := by rw [UInt8.toNat_ofNat']; omega
      simp only [Lib.parseUint10, e]
      rw [if_pos (by omega), if_neg (by omega), if_neg (by omega)]
      congr 1
      omega
    · rename_i h
      rw [parse_snoc _ _ 0 (u / 10) (ih (u / 10) (by omega) (by omega))]
      have e : (UInt8.ofNat (48 + u % 10)).toNat = 48 + u % 10 := by rw [UInt8.toNat_ofNat']; omega
      simp only [Lib.parseUint10, e]
      rw [if_pos (by omega), if_neg (by omega), if_neg (by omega)]
      congr 1
      omega
theorem itoa_dig {n : Int} (h : 0 ≤ n) : Lib.itoa n = Lib.decDigits n.toNat := by unfold Lib.itoa; rw [if_neg (by omega)]
theorem atoi_itoa {n : Int} (h : 0 ≤ n) (h1 : n ≤ 1000000000) : atoiV (itoaB n).data.toList = n := by
  have e : (itoaB n).data.toList = Lib.decDigits n.toNat := by unfold itoaB; rw [itoa_dig h]
  rw [e]
  have hm := dig_mem n.toNat
  have hp := parse_dig n.toNat (by omega)
  rcases hd : Lib.decDigits n.toNat with _ | ⟨c, r⟩
  · exact absurd hd (dig_ne _)
  · rw [hd] at hm hp
    obtain ⟨h2, h3⟩ := hm c (List.mem_cons_self ..)
    unfold atoiV
    rw [Lib.atoiAll_plain c r (by omega) (by omega)]
    unfold Lib.parseMag
    rw [if_neg (by simp), hp]
    unfold Lib.signless
    simp only
    rw [if_neg (by omega)]
    simp
    omega
/-- no blank in a word -/
def noB (l : List UInt8) : Prop := ∀ c ∈ l, c ≠ 32
theorem itoa_noB {n : Int} (h : 0 ≤ n) : noB (itoaB n).data.toList := by
  intro c hc
  have e : (itoaB n).data.toList = Lib.decDigits n.toNat := by unfold itoaB; rw [itoa_dig h]
  rw [e] at hc
  have := dig_mem _ c hc
  intro hh
  subst hh
  have e2 : (32 : UInt8).toNat = 32 := rfl
  omega
theorem idx_none : ∀ (l : List UInt8), noB l → Lib.indexByte l 32 = -1
  | [], _ => rfl
  | b :: l, h => by
    have ih := idx_none l (fun c hc => h c (List.mem_cons_of_mem _ hc))
    have hb : (b == 32) = false := by simpa using h b (List.mem_cons_self ..)
    unfold Lib.indexByte
    rw [hb, ih]
    rfl
theorem idx_hit : ∀ (l r : List UInt8), noB l → Lib.indexByte (l ++ 32 :: r) 32 = (l.length : Int)
  | [], r, _ => by simp [Lib.indexByte]
  | b :: l, r, h => by
    have ih := idx_hit l r (fun c hc => h c (List.mem_cons_of_mem _ hc))
    have hb : (b == 32) = false := by simpa using h b (List.mem_cons_self ..)
    rw [List.cons_append]
    unfold Lib.indexByte
    rw [hb, ih]
    have : ((l.length : Int) == -1) = false := by simp <;> omega
    rw [this]
    simp
theorem split_words : ∀ (ws : List (List UInt8)) (w : List UInt8), noB w → (∀ x ∈ ws, noB x) →
    Lib.splitK [32] 0 (Lib.count (w ++ Lib.joinTail [32] ws) [32]) (w ++ Lib.joinTail [32] ws) = w :: ws
  | [], w, h, _ => by
    have e : w ++ Lib.joinTail [32] [] = w := by simp [Lib.joinTail]
    have hi : Lib.index w [32] = -1 := by rw [Lib.index_one]; exact idx_none w h
    rw [e, Lib.count_miss hi]
    rfl
  | y :: ws, w, h, hs => by
    have e : w ++ Lib.joinTail [32] (y :: ws) = w ++ 32 :: (y ++ Lib.joinTail [32] ws) := by simp [Lib.joinTail]
    have hi : Lib.index (w ++ 32 :: (y ++ Lib.joinTail [32] ws)) [32] = (w.length : Nat) := by rw [Lib.index_one]; exact idx_hit w _ h
    have ih := split_words ws y (hs y (List.mem_cons_self ..)) (fun x hx => hs x (List.mem_cons_of_mem _ hx))
    have hd : (w ++ 32 :: (y ++ Lib.joinTail [32] ws)).drop (w.length + 1) = y ++ Lib.joinTail [32] ws := by
      rw [List.drop_append]; simp
    rw [e, Lib.count_hit (by simp) hi, Nat.add_comm 1]
    unfold Lib.splitK
    have hm : (Lib.index (w ++ 32 :: (y ++ Lib.joinTail [32] ws)) [32] == -1) = false := by rw [hi]; simp <;> omega
    rw [hm, hi]
    simp only [Bool.false_eq_true, if_false, Int.toNat_natCast, Nat.add_zero, List.length_cons, List.length_nil, Nat.zero_add]
    rw [hd, ih]
    congr 1
    simp
theorem data_inj {xs ys : List ByteArray} (h : xs.map (·.data.toList) = ys.map (·.data.toList)) : xs = ys := by
  refine List.map_inj_right (f := fun x : ByteArray => x.data.toList) ?_ |>.1 h
  intro a b hab
  cases a; cases b
  simp only at hab
  congr 1
  exact Array.toList_inj.1 hab
theorem bytes_eq {a b : ByteArray} (h : (a.toList == b.toList) = true) : a = b := by
  first
    | exact Lib.toList_inj (by simpa using h)
    | (have h1 := beq_iff_eq.1 h; simp only [ByteArray.toList_eq] at h1; cases a; cases b; simp_all)
theorem words_join (x : ByteArray) (xs : List ByteArray) (h : ∀ y ∈ x :: xs, noB y.data.toList) : wordsB (joinB (x :: xs)) = x :: xs := by
  apply data_inj
  unfold wordsB
  rw [Lib.splitB_data]
  have hl : (joinB (x :: xs)).data.toList = x.data.toList ++ Lib.joinTail [32] (xs.map (·.data.toList)) := by
    unfold joinB
    rw [List.map_cons, Lib.join_cons]
  have hs : spaceB.data.toList = [32] := rfl
  unfold Lib.countB
  rw [hl, hs, split_words _ _ (h x (List.mem_cons_self ..)) (fun y hy => by
    obtain ⟨z, hz, rfl⟩ := List.mem_map.1 hy
    exact h z (List.mem_cons_of_mem _ hz))]
  rfl
/-- the words of a record's line -/
def partsS (x : Eqv) : List ByteArray := if 0 < x.off then [itoaB x.id, itoaB x.kno, voidB_, itoaB x.off] else [itoaB x.id, itoaB x.kno, equalB_, x.sort, itoaB x.frm, itoaB x.num, itoaB x.den]
theorem lineS_parts (x : Eqv) : lineS x = joinB (partsS x) := by
  unfold lineS partsS
  split <;> rfl
theorem byteAt_get {s : ByteArray} {i : Nat} (h : i < s.size) : byteAt s i = (s[i].toNat : Int) := by
  unfold byteAt
  rw [List.getElem?_map, List.getElem?_eq_getElem (by simpa using h)]
  rfl
theorem name_noB {s : ByteArray} (h : nameB s = true) : noB s.data.toList := by
  unfold nameB at h
  simp only [Bool.and_eq_true, decide_eq_true_eq] at h
  obtain ⟨_, h3⟩ := h
  intro c hc hh
  obtain ⟨i, hi, rfl⟩ := List.mem_iff_getElem.1 hc
  have hs : i < s.size := by simpa using hi
  have h4 := h3 i hs
  rw [byteAt_get hs] at h4
  have e : (s[i].toNat : Int) = 32 := by
    have : s[i] = 32 := hh
    rw [this]; rfl
  rw [e] at h4
  exact absurd h4 (by decide)
theorem void_off {x : Eqv} (h : formB x = true) (ho : x.off ≠ 0) : 1 ≤ x.off ∧ x.off ≤ 1000000 ∧ x.frm = 0 ∧ x.sort = ⟨#[]⟩ ∧ x.num = 0 ∧ x.den = 0 := by
  rw [void_of ho] at h
  unfold voidB at h
  simp only [Bool.and_eq_true, inB_iff, decide_eq_true_eq] at h
  obtain ⟨_, ⟨⟨⟨⟨h1, h2⟩, h3⟩, h4⟩, h5⟩⟩ := h
  refine ⟨h1.1, h1.2, h2, ?_, h4, h5⟩
  refine bytes_eq ?_
  rw [h3]
  first
    | decide
    | (simp [ByteArray.toList_eq]; done)
    | (rw [ByteArray.toList_eq]; rfl)
structure FormS (x : Eqv) : Prop where
  id : 1 ≤ x.id ∧ x.id ≤ 1000000
  kno : 0 ≤ x.kno ∧ x.kno ≤ 100000
  off : 0 ≤ x.off ∧ x.off ≤ 1000000
  frm : 0 ≤ x.frm ∧ x.frm ≤ 100000
  num : 0 ≤ x.num ∧ x.num ≤ 1000000000
  den : 0 ≤ x.den ∧ x.den ≤ 1000000
  sort : x.off = 0 → nameB x.sort = true
theorem formS {x : Eqv} (h : formB x = true) : FormS x := by
  by_cases ho : x.off = 0
  · have h0 := h
    rw [equiv_of ho] at h
    simp only [Bool.and_eq_true, inB_iff, decide_eq_true_eq] at h
    obtain ⟨⟨h1, h2⟩, ⟨⟨⟨⟨h3, h4⟩, h5⟩, h6⟩, h7⟩⟩ := h
    unfold vld at h4
    simp only [Bool.and_eq_true, inB_iff, decide_eq_true_eq] at h4
    refine ⟨h1, h2, by omega, h5, ?_, ?_, fun _ => h3⟩
    · omega
    · omega
  · have hv := void_off h ho
    have h0 := h
    rw [void_of ho] at h
    simp only [Bool.and_eq_true, inB_iff, decide_eq_true_eq] at h
    obtain ⟨⟨h1, h2⟩, _⟩ := h
    obtain ⟨v1, v2, v3, v4, v5, v6⟩ := hv
    exact ⟨h1, h2, by omega, by omega, by omega, by omega, fun h => absurd h ho⟩
theorem parts_noB {x : Eqv} (h : formB x = true) : ∀ y ∈ partsS x, noB y.data.toList := by
  have f := formS h
  intro y hy
  unfold partsS at hy
  split at hy
  · simp only [List.mem_cons, List.not_mem_nil, or_false] at hy
    rcases hy with rfl | rfl | rfl | rfl
    · exact itoa_noB (by have := f.id; omega)
    · exact itoa_noB f.kno.1
    · intro c hc; revert c; decide
    · exact itoa_noB f.off.1
  · rename_i ho
    simp only [List.mem_cons, List.not_mem_nil, or_false] at hy
    rcases hy with rfl | rfl | rfl | rfl | rfl | rfl | rfl
    · exact itoa_noB (by have := f.id; omega)
    · exact itoa_noB f.kno.1
    · intro c hc; revert c; decide
    · exact name_noB (f.sort (by have := f.off; omega))
    · exact itoa_noB f.frm.1
    · exact itoa_noB f.num.1
    · exact itoa_noB f.den.1
theorem words_line {x : Eqv} (h : formB x = true) : wordsB (lineS x) = partsS x := by
  have hn := parts_noB h
  rw [lineS_parts]
  obtain ⟨y, ys, hy⟩ : ∃ y ys, partsS x = y :: ys := by
    unfold partsS
    split <;> exact ⟨_, _, rfl⟩
  rw [hy] at hn ⊢
  exact words_join y ys hn
theorem parse_parts {x : Eqv} (h : formB x = true) : parseS (partsS x) = x := by
  have f := formS h
  unfold partsS
  split
  · rename_i ho
    obtain ⟨v1, v2, v3, v4, v5, v6⟩ := void_off h (by omega)
    have e : parseS [itoaB x.id, itoaB x.kno, voidB_, itoaB x.off] = ⟨atoiV (itoaB x.id).data.toList, 0, atoiV (itoaB x.kno).data.toList, ⟨#[]⟩, 0, 0, atoiV (itoaB x.off).data.toList⟩ := rfl
    rw [e, atoi_itoa (by have := f.id; omega) (by have := f.id; omega), atoi_itoa f.kno.1 (by have := f.kno; omega), atoi_itoa f.off.1 (by have := f.off; omega)]
    cases x
    simp_all
  · rename_i ho
    have h0 : x.off = 0 := by have := f.off; omega
    have e : parseS [itoaB x.id, itoaB x.kno, equalB_, x.sort, itoaB x.frm, itoaB x.num, itoaB x.den] = ⟨atoiV (itoaB x.id).data.toList, atoiV (itoaB x.frm).data.toList, atoiV (itoaB x.kno).data.toList, x.sort, atoiV (itoaB x.num).data.toList, atoiV (itoaB x.den).data.toList, 0⟩ := rfl
    rw [e, atoi_itoa (by have := f.id; omega) (by have := f.id; omega), atoi_itoa f.kno.1 (by have := f.kno; omega), atoi_itoa f.frm.1 (by have := f.frm; omega), atoi_itoa f.num.1 f.num.2, atoi_itoa f.den.1 (by have := f.den; omega)]
    cases x
    simp_all
theorem readS_pair (s : ByteArray) : readS s = if formB (parseS (wordsB s)) = true ∧ lineS (parseS (wordsB s)) = s then (parseS (wordsB s), 0) else (zeroE, 4) := by
  unfold readS
  by_cases h1 : formB (parseS (wordsB s)) = true
  · rw [if_pos h1]
    by_cases h2 : ((lineS (parseS (wordsB s))).toList == s.toList) = true
    · rw [if_pos h2, if_pos ⟨h1, bytes_eq h2⟩]
    · rw [if_neg h2, if_neg]
      rintro ⟨_, h3⟩
      exact h2 (by rw [h3]; simp)
  · rw [if_neg h1, if_neg (fun h => h1 h.1)]
/-- **what was written is read** -/
theorem read_written {x : Eqv} (h : formB x = true) : readS (lineS x) = (x, 0) := by
  rw [readS_pair, words_line h, parse_parts h, if_pos ⟨h, rfl⟩]
/-- **what is read was written** -/
theorem written_read {s : ByteArray} (h : (readS s).2 = 0) : formB (readS s).1 = true ∧ lineS (readS s).1 = s := by
  rw [readS_pair] at h ⊢
  split at h
  · rename_i hc
    rw [if_pos hc]
    exact hc
  · cases h
theorem readS_err (s : ByteArray) : (readS s).2 = 0 ∨ readS s = (zeroE, 4) := by
  rw [readS_pair]
  split
  · exact .inl rfl
  · exact .inr rfl
/-- how the reference cuts a line -/
def cutF : List UInt8 → List UInt8 → List (List UInt8)
  | [], cur => [cur]
  | c :: cs, cur => if c = 32 then cur :: cutF cs [] else cutF cs (cur ++ [c])
theorem cutF_sp (cs cur : List UInt8) : cutF ((32 : UInt8) :: cs) cur = cur :: cutF cs [] := by
  conv => lhs; unfold cutF
  rw [if_pos rfl]
theorem cutF_ch {c : UInt8} (h : c ≠ 32) (cs cur : List UInt8) : cutF (c :: cs) cur = cutF cs (cur ++ [c]) := by
  conv => lhs; unfold cutF
  rw [if_neg h]
theorem cutF_word : ∀ (l : List UInt8) (cur rest : List UInt8), noB l → cutF (l ++ rest) cur = cutF rest (cur ++ l)
  | [], cur, rest, _ => by simp
  | c :: l, cur, rest, h => by
    have hc := h c (List.mem_cons_self ..)
    rw [List.cons_append, cutF_ch hc, cutF_word l (cur ++ [c]) rest (fun d hd => h d (List.mem_cons_of_mem _ hd))]
    simp
theorem cutF_tail : ∀ (ws : List (List UInt8)) (w : List UInt8), noB w → (∀ x ∈ ws, noB x) → cutF (w ++ Lib.joinTail [32] ws) [] = w :: ws
  | [], w, h, _ => by
    rw [cutF_word w [] _ h]
    simp [Lib.joinTail, cutF]
  | y :: ws, w, h, hs => by
    have e : w ++ Lib.joinTail [32] (y :: ws) = w ++ 32 :: (y ++ Lib.joinTail [32] ws) := by simp [Lib.joinTail]
    rw [e, cutF_word w [] _ h, cutF_sp, cutF_tail ws y (hs y (List.mem_cons_self ..)) (fun x hx => hs x (List.mem_cons_of_mem _ hx))]
    simp
def bOf (l : List UInt8) : ByteArray := ⟨l.toArray⟩
def rwordsB (s : ByteArray) : List ByteArray := (cutF s.data.toList []).map bOf
theorem bOf_data (s : ByteArray) : bOf s.data.toList = s := by cases s; simp [bOf]
theorem rwords_line {x : Eqv} (h : formB x = true) : rwordsB (lineS x) = partsS x := by
  have hn := parts_noB h
  rw [lineS_parts]
  obtain ⟨y, ys, hy⟩ : ∃ y ys, partsS x = y :: ys := by
    unfold partsS
    split <;> exact ⟨_, _, rfl⟩
  rw [hy] at hn ⊢
  have hl : (joinB (y :: ys)).data.toList = y.data.toList ++ Lib.joinTail [32] (ys.map (·.data.toList)) := by
    unfold joinB
    rw [List.map_cons, Lib.join_cons]
  unfold rwordsB
  rw [hl, cutF_tail _ _ (hn y (List.mem_cons_self ..)) (fun z hz => by
    obtain ⟨v, hv, rfl⟩ := List.mem_map.1 hz
    exact hn v (List.mem_cons_of_mem _ hv))]
  rw [List.map_cons, List.map_map, bOf_data]
  congr 1
  conv => rhs; rw [← List.map_id ys]
  exact List.map_congr_left (fun v _ => bOf_data v)
/-- the number that digits make -/
def digF (n : Nat) (l : List UInt8) : Nat := l.foldl (fun a c => 10 * a + c.toNat - 48) n
theorem digF_dec (u : Nat) : digF 0 (Lib.decDigits u) = u := by
  induction u using Nat.strongRecOn with
  | ind u ih =>
    rw [Lib.decDigits]
    split
    · rename_i h
      have e : (UInt8.ofNat (48 + u)).toNat = 48 + u := by rw [UInt8.toNat_ofNat']; omega
      simp only [digF, List.foldl_cons, List.foldl_nil, e]
      omega
    · rename_i h
      have e : (UInt8.ofNat (48 + u % 10)).toNat = 48 + u % 10 := by rw [UInt8.toNat_ofNat']; omega
      have i := ih (u / 10) (by omega)
      unfold digF at i ⊢
      rw [List.foldl_append, i]
      simp only [List.foldl_cons, List.foldl_nil, e]
      omega
theorem dec_len : ∀ (k u : Nat), u < 10 ^ (k + 1) → (Lib.decDigits u).length ≤ k + 1
  | 0, u, h => by
    rw [Lib.decDigits]
    split
    · simp
    · rename_i h1
      exact absurd h (by omega)
  | k + 1, u, h => by
    rw [Lib.decDigits]
    split
    · simp
    · have := dec_len k (u / 10) (by rw [Nat.pow_succ] at h; omega)
      rw [List.length_append]
      simp only [List.length_cons, List.length_nil]
      omega
theorem dec_pos (u : Nat) : 1 ≤ (Lib.decDigits u).length := by
  rcases h : Lib.decDigits u with _ | ⟨c, l⟩
  · exact absurd h (dig_ne u)
  · simp
theorem itoa_data {x : Int} (h : 0 ≤ x) : (itoaB x).data.toList = Lib.decDigits x.toNat := by unfold itoaB; rw [itoa_dig h]
def digC (l : List UInt8) : Prop := ∀ c ∈ l, 48 ≤ c.toNat ∧ c.toNat ≤ 57
open Classical in
/-- the reference's Number -/
noncomputable def numR (l : List UInt8) : Nat := if l.length ≤ 10 ∧ digC l then digF 0 l else 0
theorem numR_itoa {n : Int} (h : 0 ≤ n) (h1 : n ≤ 9999999999) : (numR (itoaB n).data.toList : Int) = n := by
  unfold numR
  rw [itoa_data h, if_pos ⟨dec_len 9 n.toNat (by omega), dig_mem _⟩, digF_dec]
  omega
/-- the record that the reference finds in words -/
noncomputable def rparseS (ss : List ByteArray) : Eqv := match ss with
  | [s0, s1, _, s3] => ⟨numR s0.data.toList, 0, numR s1.data.toList, ⟨#[]⟩, 0, 0, numR s3.data.toList⟩
  | [s0, s1, _, s3, s4, s5, s6] => ⟨numR s0.data.toList, numR s4.data.toList, numR s1.data.toList, s3, numR s5.data.toList, numR s6.data.toList, 0⟩
  | _ => zeroE
theorem rparse_parts {x : Eqv} (h : formB x = true) : rparseS (partsS x) = x := by
  have f := formS h
  unfold partsS
  split
  · rename_i ho
    obtain ⟨v1, v2, v3, v4, v5, v6⟩ := void_off h (by omega)
    have e : rparseS [itoaB x.id, itoaB x.kno, voidB_, itoaB x.off] = ⟨numR (itoaB x.id).data.toList, 0, numR (itoaB x.kno).data.toList, ⟨#[]⟩, 0, 0, numR (itoaB x.off).data.toList⟩ := rfl
    rw [e, numR_itoa (by have := f.id; omega) (by have := f.id; omega), numR_itoa f.kno.1 (by have := f.kno; omega), numR_itoa f.off.1 (by have := f.off; omega)]
    cases x
    simp_all
  · rename_i ho
    have h0 : x.off = 0 := by have := f.off; omega
    have e : rparseS [itoaB x.id, itoaB x.kno, equalB_, x.sort, itoaB x.frm, itoaB x.num, itoaB x.den] = ⟨numR (itoaB x.id).data.toList, numR (itoaB x.frm).data.toList, numR (itoaB x.kno).data.toList, x.sort, numR (itoaB x.num).data.toList, numR (itoaB x.den).data.toList, 0⟩ := rfl
    rw [e, numR_itoa (by have := f.id; omega) (by have := f.id; omega), numR_itoa f.kno.1 (by have := f.kno; omega), numR_itoa f.frm.1 (by have := f.frm; omega), numR_itoa f.num.1 (by have := f.num; omega), numR_itoa f.den.1 (by have := f.den; omega)]
    cases x
    simp_all
open Classical in
/-- what the reference's Read gives -/
noncomputable def rreadS (s : ByteArray) : Eqv × Int := if formB (rparseS (rwordsB s)) = true ∧ lineS (rparseS (rwordsB s)) = s then (rparseS (rwordsB s), 0) else (zeroE, 4)
/-- **the reference reads what the program reads** -/
theorem rreadS_eq (s : ByteArray) : rreadS s = readS s := by
  unfold rreadS
  by_cases h : (readS s).2 = 0
  · obtain ⟨h1, h2⟩ := written_read h
    obtain ⟨c, hc⟩ : ∃ c, c = (readS s).1 := ⟨_, rfl⟩
    have hr : readS s = (c, 0) := by rw [hc, ← h]
    rw [hr]
    rw [← hc] at h1 h2
    have hn : rparseS (rwordsB s) = c := by rw [← h2, rwords_line h1, rparse_parts h1]
    rw [hn, if_pos ⟨h1, h2⟩]
  · have hb := (readS_err s).resolve_left h
    rw [hb, if_neg]
    rintro ⟨h1, h2⟩
    have := read_written h1
    rw [h2] at this
    rw [this] at h
    exact h rfl
end Go.Proofs.YtcjpecdnenemaaaGreatDoor

namespace Go.Proofs.YtcjpecdnenemaaaGreatDoor
set_option linter.all false
open Go.RowKit Go.Shelf

def digB (n : Nat) : ByteArray := ⟨(Lib.decDigits n).toArray⟩
theorem digB_size {n : Nat} (h : n ≤ 9223372036854775807) : (digB n).size ≤ 21 := by
  have := itoaB_len (n : Int) (by omega) (by omega)
  unfold itoaB at this
  rw [show Lib.itoa (n : Int) = Lib.decDigits n by unfold Lib.itoa; rw [if_neg (by omega)]; simp] at this
  show (digB n).data.size ≤ 21
  unfold digB
  simpa using this
set_option maxRecDepth 100000 in
set_option maxHeartbeats 1600000 in
theorem digits_any (n : Nat) : n ≤ 9223372036854775807 → ∀ w : World, Calls Tryz.prog 108 #[.int .i64 n] w fun e w' => e = .returned (.string (digB n)) ∧ Kept w w' := by
  induction n using Nat.strongRecOn with
  | ind n ih =>
    intro hn w
    by_cases h : n < 10
    · have hb : digB n = ⟨#[UInt8.ofNat (48 + n)]⟩ := by unfold digB; rw [Lib.decDigits_one h]
      have HB := Lib.hid hb
      clear hb ih
      have hv : ((UInt8.ofNat (48 + n)).toNat : Int) = 48 + (n : Int) := by rw [UInt8.toNat_ofNat']; omega
      have hd : (convert 144 9 (.slice (some ⟨w.heap.size, 0, none⟩) 1 1)).run Tryz.prog (w.alloc (.cells #[.int .u8 (48 + (n : Int))] 5)) = .ok (.string ⟨#[UInt8.ofNat (48 + n)]⟩) (w.alloc (.cells #[.int .u8 (48 + (n : Int))] 5)) := by
        have h9 := run_convert_bytes_back (P := Tryz.prog) (w.alloc (.cells #[.int .u8 (48 + (n : Int))] 5)) 144 9 5 ⟨w.heap.size, 0, none⟩ 1 [UInt8.ofNat (48 + n)] Tryz.underlying144 Tryz.underlying5 Tryz.underlying9 (by
          intro j hj
          match j, hj with
          | 0, _ => rw [show ((⟨w.heap.size, 0, none⟩ : Addr).add 0) = ⟨w.heap.size, 0, none⟩ by rfl, cell_of_row _ _ _ _ _ _ (heap_alloc_new w _)]; simp [hv]; omega)
        exact h9
      clear hv
      go_enter Tryz.func108, Tryz.ntmps108
      go_wp2
      go_ret
      exact ⟨by rw [HB.out]; simp, (Kept.refl _).alloc _⟩
    · have H1 := Lib.hid (ih (n / 10) (by omega) (by omega))
      have H2 := Lib.hid (ih (n % 10) (by omega) (by omega))
      have c1 : ((n / 10 : Nat) : Int) = (n : Int) / 10 := by omega
      have c2 : ((n % 10 : Nat) : Int) = (n : Int) % 10 := by omega
      rw [c1] at H1
      rw [c2] at H2
      have HB : RowKit.Hid (digB n = digB (n / 10) ++ digB (n % 10)) := Lib.hid (by
        unfold digB
        rw [Lib.decDigits, dif_neg h, Lib.decDigits_one (show n % 10 < 10 by omega)]
        simp [ByteArray.ext_iff])
      have HS1 : RowKit.Hid ((digB (n / 10)).size ≤ 21) := Lib.hid (digB_size (by omega))
      have HS2 : RowKit.Hid ((digB (n % 10)).size ≤ 21) := Lib.hid (digB_size (by omega))
      clear ih c1 c2
      go_enter Tryz.func108, Tryz.ntmps108
      go_wp2_with fail
      refine (H1.out _).mono ?_
      rintro e w1 ⟨rfl, hk1⟩
      have K1 := Lib.hid hk1
      clear hk1
      go_wp2_with fail
      refine (H2.out _).mono ?_
      rintro e w2 ⟨rfl, hk2⟩
      have K2 := Lib.hid (K1.out.trans hk2)
      clear hk2
      go_wp2
      · exfalso
        have h1 := HS1.out
        have h2 := HS2.out
        rename_i hbig
        clear HS1 HS2
        omega
      · go_ret
        exact ⟨by rw [HB.out]; rfl, K2.out⟩
theorem digB_itoa {x : Int} (h : 0 ≤ x) : digB x.toNat = itoaB x := by
  unfold digB itoaB Lib.itoa
  rw [if_neg (by omega)]
theorem itoa_size {x : Int} (h : 0 ≤ x) (h1 : x ≤ 9223372036854775807) : (itoaB x).size ≤ 21 := by
  rw [← digB_itoa h]; exact digB_size (by omega)
theorem digits_i (n : Int) (h0 : 0 ≤ n) (h1 : n ≤ 9223372036854775807) (w : World) : Calls Tryz.prog 108 #[.int .i64 n] w fun e w' => e = .returned (.string (itoaB n)) ∧ Kept w w' := by
  have h := digits_any n.toNat (by omega) w
  rw [show ((n.toNat : Nat) : Int) = n by omega, digB_itoa h0] at h
  exact h
end Go.Proofs.YtcjpecdnenemaaaGreatDoor

namespace Go.Proofs.YtcjpecdnenemaaaGreatDoor
set_option linter.all false
open Go.RowKit Go.Shelf
attribute [local go_sem] Oper.semAt_some

theorem rwrite_err (id frm kno num den off : Int) (sort : ByteArray) (hs : sort.size ≤ 1000) (hf : formB ⟨id, frm, kno, sort, num, den, off⟩ = false) (w : World) :
    Calls Tryz.prog 41 #[eqV ⟨id, frm, kno, sort, num, den, off⟩] w fun e w' => e = .returned (.tuple #[.string ByteArray.empty, .int .i64 1]) ∧ Kept w w' := by
  have C := Lib.hid (fun W => rformed_any ⟨id, frm, kno, sort, num, den, off⟩ (by show sort.size ≤ _; have : sort.size ≤ 1000 := hs; omega) W)
  have R0 := Lib.hid (RowC.new w [.int .i64 id, .int .i64 frm, .int .i64 kno, .string sort, .int .i64 num, .int .i64 den, .int .i64 off] 37)
  have K0 : RowKit.Hid (Kept w (w.alloc (.cells #[.int .i64 id, .int .i64 frm, .int .i64 kno, .string sort, .int .i64 num, .int .i64 den, .int .i64 off] 37))) := Lib.hid ((Kept.refl w).alloc _)
  rw [hf] at C
  unfold eqV at C ⊢
  dsimp only at C hs ⊢
  go_enter Tryz.func41, Tryz.ntmps41
  go_wp2_with fail
  refine (C.out _).mono ?_
  rintro e w1 ⟨rfl, hk1⟩
  have K1 := Lib.hid (K0.out.trans hk1)
  have R1 := Lib.hid (R0.out.kept hk1)
  clear hk1
  go_wp2
  go_ret2
  exact ⟨rfl, K1.out⟩
set_option maxRecDepth 100000 in
set_option maxHeartbeats 3200000 in
theorem rwrite_void (id frm kno num den off : Int) (sort : ByteArray) (hs : sort.size ≤ 1000) (hf : formB ⟨id, frm, kno, sort, num, den, off⟩ = true) (ho : 0 < off) (w : World) :
    Calls Tryz.prog 41 #[eqV ⟨id, frm, kno, sort, num, den, off⟩] w fun e w' => e = .returned (.tuple #[.string (lineS ⟨id, frm, kno, sort, num, den, off⟩), .int .i64 0]) ∧ Kept w w' := by
  have f := formS hf
  have b0 := f.id
  have b1 := f.kno
  have b2 := f.off
  have b3 := f.frm
  have b4 := f.num
  have b5 := f.den
  dsimp only at b0 b1 b2 b3 b4 b5
  clear f
  have C := Lib.hid (fun W => rformed_any ⟨id, frm, kno, sort, num, den, off⟩ (by show sort.size ≤ _; have : sort.size ≤ 1000 := hs; omega) W)
  have R0 := Lib.hid (RowC.new w [.int .i64 id, .int .i64 frm, .int .i64 kno, .string sort, .int .i64 num, .int .i64 den, .int .i64 off] 37)
  have K0 : RowKit.Hid (Kept w (w.alloc (.cells #[.int .i64 id, .int .i64 frm, .int .i64 kno, .string sort, .int .i64 num, .int .i64 den, .int .i64 off] 37))) := Lib.hid ((Kept.refl w).alloc _)
  rw [hf] at C
  unfold eqV at C ⊢
  dsimp only at C hs ⊢
  have zsp : (⟨#[32]⟩ : ByteArray).size = 1 := rfl
  have zvd : (⟨#[32, 118, 111, 105, 100, 32]⟩ : ByteArray).size = 6 := rfl
  obtain ⟨d0, hd0⟩ : ∃ d0, d0 = itoaB id := ⟨_, rfl⟩
  have zd0 : d0.size ≤ 21 := by rw [hd0]; exact itoa_size (by omega) (by omega)
  have Hd0 : RowKit.Hid (∀ W, Calls Tryz.prog 108 #[.int .i64 id] W fun e w' => e = .returned (.string d0) ∧ Kept W w') := Lib.hid (fun W => by rw [hd0]; exact digits_i id (by omega) (by omega) W)
  obtain ⟨d1, hd1⟩ : ∃ d1, d1 = itoaB kno := ⟨_, rfl⟩
  have zd1 : d1.size ≤ 21 := by rw [hd1]; exact itoa_size (by omega) (by omega)
  have Hd1 : RowKit.Hid (∀ W, Calls Tryz.prog 108 #[.int .i64 kno] W fun e w' => e = .returned (.string d1) ∧ Kept W w') := Lib.hid (fun W => by rw [hd1]; exact digits_i kno (by omega) (by omega) W)
  obtain ⟨d2, hd2⟩ : ∃ d2, d2 = itoaB off := ⟨_, rfl⟩
  have zd2 : d2.size ≤ 21 := by rw [hd2]; exact itoa_size (by omega) (by omega)
  have Hd2 : RowKit.Hid (∀ W, Calls Tryz.prog 108 #[.int .i64 off] W fun e w' => e = .returned (.string d2) ∧ Kept W w') := Lib.hid (fun W => by rw [hd2]; exact digits_i off (by omega) (by omega) W)
  obtain ⟨t1, ht1⟩ : ∃ t1, t1 = d0 ++ (⟨#[32]⟩ : ByteArray) := ⟨_, rfl⟩
  have zt1 : t1.size = d0.size + (⟨#[32]⟩ : ByteArray).size := by rw [ht1, ByteArray.size_append]
  have ct1 : ∀ W, (Op.stringOp .add d0 ⟨#[32]⟩).run Tryz.prog W = .ok (.string t1) W := fun W => by rw [ht1]; exact run_string_add_sum W _ _ (by omega)
  obtain ⟨t2, ht2⟩ : ∃ t2, t2 = t1 ++ (d1 : ByteArray) := ⟨_, rfl⟩
  have zt2 : t2.size = t1.size + (d1 : ByteArray).size := by rw [ht2, ByteArray.size_append]
  have ct2 : ∀ W, (Op.stringOp .add t1 d1).run Tryz.prog W = .ok (.string t2) W := fun W => by rw [ht2]; exact run_string_add_sum W _ _ (by omega)
  obtain ⟨t3, ht3⟩ : ∃ t3, t3 = t2 ++ (⟨#[32, 118, 111, 105, 100, 32]⟩ : ByteArray) := ⟨_, rfl⟩
  have zt3 : t3.size = t2.size + (⟨#[32, 118, 111, 105, 100, 32]⟩ : ByteArray).size := by rw [ht3, ByteArray.size_append]
  have ct3 : ∀ W, (Op.stringOp .add t2 ⟨#[32, 118, 111, 105, 100, 32]⟩).run Tryz.prog W = .ok (.string t3) W := fun W => by rw [ht3]; exact run_string_add_sum W _ _ (by omega)
  obtain ⟨t4, ht4⟩ : ∃ t4, t4 = t3 ++ (d2 : ByteArray) := ⟨_, rfl⟩
  have zt4 : t4.size = t3.size + (d2 : ByteArray).size := by rw [ht4, ByteArray.size_append]
  have ct4 : ∀ W, (Op.stringOp .add t3 d2).run Tryz.prog W = .ok (.string t4) W := fun W => by rw [ht4]; exact run_string_add_sum W _ _ (by omega)
  have HL : RowKit.Hid (lineS ⟨id, frm, kno, sort, num, den, off⟩ = t4) := Lib.hid (by
    unfold lineS
    rw [if_pos (by exact ho), ht4, ht3, ht2, ht1, hd0, hd1, hd2]
    unfold joinB voidB_
    simp only [List.map_cons, List.map_nil, Lib.join_cons, Lib.joinTail]
    simp [ByteArray.ext_iff])
  rw [HL.out]
  have HG : decide (0 < off) = true := decide_eq_true ho
  clear hf hd0 hd1 hd2 ht1 ht2 ht3 ht4 zd0 zd1 zd2 zt1 zt2 zt3 zt4 zsp zvd b0 b1 b2 b3 b4 b5 hs
  go_enter Tryz.func41, Tryz.ntmps41
  go_wp2_with fail
  refine (C.out _).mono ?_
  rintro e w1 ⟨rfl, hk1⟩
  have K1 := Lib.hid (K0.out.trans hk1)
  have R1 := Lib.hid (R0.out.kept hk1)
  clear hk1
  have SB : RowKit.Hid (∀ W, Kept w1 W → W.cell? ⟨w.heap.size, 0, none⟩ = some (.int .i64 id) ∧ W.cell? ⟨w.heap.size, 2, none⟩ = some (.int .i64 kno) ∧ Kept w1 W) := Lib.hid (fun W hW => ⟨((R1.out.kept hW) 0 _ rfl).1, ((R1.out.kept hW) 2 _ rfl).1, hW⟩)
  have SST : RowKit.Hid (∀ W W', (W.cell? ⟨w.heap.size, 0, none⟩ = some (.int .i64 id) ∧ W.cell? ⟨w.heap.size, 2, none⟩ = some (.int .i64 kno) ∧ Kept w1 W) → Kept W W' → W'.cell? ⟨w.heap.size, 0, none⟩ = some (.int .i64 id) ∧ W'.cell? ⟨w.heap.size, 2, none⟩ = some (.int .i64 kno) ∧ Kept w1 W') := Lib.hid (fun W W' h hk => SB.out W' (h.2.2.trans hk))
  have SB1 := Lib.hid (SB.out _ ((Kept.refl w1).drew))
  have a0 := (R1.out 0 _ rfl).1
  have a2 := (R1.out 2 _ rfl).1
  have la := cell_lt a0
  go_upto_region 4 with (fail)
  go_cut [5] (fun v wx => v = .string t2 ∧ Kept w1 wx)
  case first =>
    go_region_held3 (fun W => W.cell? ⟨w.heap.size, 0, none⟩ = some (.int .i64 id) ∧ W.cell? ⟨w.heap.size, 2, none⟩ = some (.int .i64 kno) ∧ Kept w1 W) (first | (with_reducible exact SB1.out) | (with_reducible assumption) | (with_reducible refine SST.out _ _ ?_ hkk; assumption) | fail) (first | fail | (go_at_call 108; first | (with_reducible refine (Hd0.out _).mono ?_; rintro e w5 ⟨rfl, hkk⟩) | (with_reducible refine (Hd1.out _).mono ?_; rintro e w5 ⟨rfl, hkk⟩)))
    all_goals
      obtain ⟨-, -, hkz⟩ := ‹_ ∧ _›
      go_wp2
      go_meet
      exact ⟨rfl, hkz⟩
  obtain ⟨rfl, kx⟩ := hcut
  obtain ⟨w4, rfl⟩ : ∃ w4, w4 = wc := ⟨_, rfl⟩
  have KX := Lib.hid kx
  have R4 := Lib.hid (R1.out.kept kx)
  clear kx a0 a2 la SB SST SB1
  have a0 := (R4.out 0 _ rfl).1
  have a1 := (R4.out 1 _ rfl).1
  have a2 := (R4.out 2 _ rfl).1
  have a3 := (R4.out 3 _ rfl).1
  have a4 := (R4.out 4 _ rfl).1
  have a5 := (R4.out 5 _ rfl).1
  have a6 := (R4.out 6 _ rfl).1
  have la := cell_lt a0
  go_wp2_with fail
  refine (Hd2.out _).mono ?_
  rintro e w5 ⟨rfl, hk5⟩
  go_wp2
  go_ret2
  exact ⟨rfl, K1.out.trans (KX.out.trans hk5)⟩
set_option maxRecDepth 100000 in
set_option maxHeartbeats 6400000 in
theorem rwrite_equal (id frm kno num den off : Int) (sort : ByteArray) (hs : sort.size ≤ 1000) (hf : formB ⟨id, frm, kno, sort, num, den, off⟩ = true) (ho : ¬ 0 < off) (w : World) :
    Calls Tryz.prog 41 #[eqV ⟨id, frm, kno, sort, num, den, off⟩] w fun e w' => e = .returned (.tuple #[.string (lineS ⟨id, frm, kno, sort, num, den, off⟩), .int .i64 0]) ∧ Kept w w' := by
  have f := formS hf
  have b0 := f.id
  have b1 := f.kno
  have b2 := f.off
  have b3 := f.frm
  have b4 := f.num
  have b5 := f.den
  dsimp only at b0 b1 b2 b3 b4 b5
  clear f
  have C := Lib.hid (fun W => rformed_any ⟨id, frm, kno, sort, num, den, off⟩ (by show sort.size ≤ _; have : sort.size ≤ 1000 := hs; omega) W)
  have R0 := Lib.hid (RowC.new w [.int .i64 id, .int .i64 frm, .int .i64 kno, .string sort, .int .i64 num, .int .i64 den, .int .i64 off] 37)
  have K0 : RowKit.Hid (Kept w (w.alloc (.cells #[.int .i64 id, .int .i64 frm, .int .i64 kno, .string sort, .int .i64 num, .int .i64 den, .int .i64 off] 37))) := Lib.hid ((Kept.refl w).alloc _)
  rw [hf] at C
  unfold eqV at C ⊢
  dsimp only at C hs ⊢
  have zsp : (⟨#[32]⟩ : ByteArray).size = 1 := rfl
  have zeq : (⟨#[32, 101, 113, 117, 97, 108, 32]⟩ : ByteArray).size = 7 := rfl
  obtain ⟨d0, hd0⟩ : ∃ d0, d0 = itoaB id := ⟨_, rfl⟩
  have zd0 : d0.size ≤ 21 := by rw [hd0]; exact itoa_size (by omega) (by omega)
  have Hd0 : RowKit.Hid (∀ W, Calls Tryz.prog 108 #[.int .i64 id] W fun e w' => e = .returned (.string d0) ∧ Kept W w') := Lib.hid (fun W => by rw [hd0]; exact digits_i id (by omega) (by omega) W)
  obtain ⟨d1, hd1⟩ : ∃ d1, d1 = itoaB kno := ⟨_, rfl⟩
  have zd1 : d1.size ≤ 21 := by rw [hd1]; exact itoa_size (by omega) (by omega)
  have Hd1 : RowKit.Hid (∀ W, Calls Tryz.prog 108 #[.int .i64 kno] W fun e w' => e = .returned (.string d1) ∧ Kept W w') := Lib.hid (fun W => by rw [hd1]; exact digits_i kno (by omega) (by omega) W)
  obtain ⟨d2, hd2⟩ : ∃ d2, d2 = itoaB frm := ⟨_, rfl⟩
  have zd2 : d2.size ≤ 21 := by rw [hd2]; exact itoa_size (by omega) (by omega)
  have Hd2 : RowKit.Hid (∀ W, Calls Tryz.prog 108 #[.int .i64 frm] W fun e w' => e = .returned (.string d2) ∧ Kept W w') := Lib.hid (fun W => by rw [hd2]; exact digits_i frm (by omega) (by omega) W)
  obtain ⟨d3, hd3⟩ : ∃ d3, d3 = itoaB num := ⟨_, rfl⟩
  have zd3 : d3.size ≤ 21 := by rw [hd3]; exact itoa_size (by omega) (by omega)
  have Hd3 : RowKit.Hid (∀ W, Calls Tryz.prog 108 #[.int .i64 num] W fun e w' => e = .returned (.string d3) ∧ Kept W w') := Lib.hid (fun W => by rw [hd3]; exact digits_i num (by omega) (by omega) W)
  obtain ⟨d4, hd4⟩ : ∃ d4, d4 = itoaB den := ⟨_, rfl⟩
  have zd4 : d4.size ≤ 21 := by rw [hd4]; exact itoa_size (by omega) (by omega)
  have Hd4 : RowKit.Hid (∀ W, Calls Tryz.prog 108 #[.int .i64 den] W fun e w' => e = .returned (.string d4) ∧ Kept W w') := Lib.hid (fun W => by rw [hd4]; exact digits_i den (by omega) (by omega) W)
  obtain ⟨t1, ht1⟩ : ∃ t1, t1 = d0 ++ (⟨#[32]⟩ : ByteArray) := ⟨_, rfl⟩
  have zt1 : t1.size = d0.size + (⟨#[32]⟩ : ByteArray).size := by rw [ht1, ByteArray.size_append]
  have ct1 : ∀ W, (Op.stringOp .add d0 ⟨#[32]⟩).run Tryz.prog W = .ok (.string t1) W := fun W => by rw [ht1]; exact run_string_add_sum W _ _ (by omega)
  obtain ⟨t2, ht2⟩ : ∃ t2, t2 = t1 ++ (d1 : ByteArray) := ⟨_, rfl⟩
  have zt2 : t2.size = t1.size + (d1 : ByteArray).size := by rw [ht2, ByteArray.size_append]
  have ct2 : ∀ W, (Op.stringOp .add t1 d1).run Tryz.prog W = .ok (.string t2) W := fun W => by rw [ht2]; exact run_string_add_sum W _ _ (by omega)
  obtain ⟨u1, hu1⟩ : ∃ u1, u1 = t2 ++ (⟨#[32, 101, 113, 117, 97, 108, 32]⟩ : ByteArray) := ⟨_, rfl⟩
  have zu1 : u1.size = t2.size + (⟨#[32, 101, 113, 117, 97, 108, 32]⟩ : ByteArray).size := by rw [hu1, ByteArray.size_append]
  have cu1 : ∀ W, (Op.stringOp .add t2 ⟨#[32, 101, 113, 117, 97, 108, 32]⟩).run Tryz.prog W = .ok (.string u1) W := fun W => by rw [hu1]; exact run_string_add_sum W _ _ (by omega)
  obtain ⟨u2, hu2⟩ : ∃ u2, u2 = u1 ++ (sort : ByteArray) := ⟨_, rfl⟩
  have zu2 : u2.size = u1.size + (sort : ByteArray).size := by rw [hu2, ByteArray.size_append]
  have cu2 : ∀ W, (Op.stringOp .add u1 sort).run Tryz.prog W = .ok (.string u2) W := fun W => by rw [hu2]; exact run_string_add_sum W _ _ (by omega)
  obtain ⟨u3, hu3⟩ : ∃ u3, u3 = u2 ++ (⟨#[32]⟩ : ByteArray) := ⟨_, rfl⟩
  have zu3 : u3.size = u2.size + (⟨#[32]⟩ : ByteArray).size := by rw [hu3, ByteArray.size_append]
  have cu3 : ∀ W, (Op.stringOp .add u2 ⟨#[32]⟩).run Tryz.prog W = .ok (.string u3) W := fun W => by rw [hu3]; exact run_string_add_sum W _ _ (by omega)
  obtain ⟨u4, hu4⟩ : ∃ u4, u4 = u3 ++ (d2 : ByteArray) := ⟨_, rfl⟩
  have zu4 : u4.size = u3.size + (d2 : ByteArray).size := by rw [hu4, ByteArray.size_append]
  have cu4 : ∀ W, (Op.stringOp .add u3 d2).run Tryz.prog W = .ok (.string u4) W := fun W => by rw [hu4]; exact run_string_add_sum W _ _ (by omega)
  obtain ⟨u5, hu5⟩ : ∃ u5, u5 = u4 ++ (⟨#[32]⟩ : ByteArray) := ⟨_, rfl⟩
  have zu5 : u5.size = u4.size + (⟨#[32]⟩ : ByteArray).size := by rw [hu5, ByteArray.size_append]
  have cu5 : ∀ W, (Op.stringOp .add u4 ⟨#[32]⟩).run Tryz.prog W = .ok (.string u5) W := fun W => by rw [hu5]; exact run_string_add_sum W _ _ (by omega)
  obtain ⟨u6, hu6⟩ : ∃ u6, u6 = u5 ++ (d3 : ByteArray) := ⟨_, rfl⟩
  have zu6 : u6.size = u5.size + (d3 : ByteArray).size := by rw [hu6, ByteArray.size_append]
  have cu6 : ∀ W, (Op.stringOp .add u5 d3).run Tryz.prog W = .ok (.string u6) W := fun W => by rw [hu6]; exact run_string_add_sum W _ _ (by omega)
  obtain ⟨u7, hu7⟩ : ∃ u7, u7 = u6 ++ (⟨#[32]⟩ : ByteArray) := ⟨_, rfl⟩
  have zu7 : u7.size = u6.size + (⟨#[32]⟩ : ByteArray).size := by rw [hu7, ByteArray.size_append]
  have cu7 : ∀ W, (Op.stringOp .add u6 ⟨#[32]⟩).run Tryz.prog W = .ok (.string u7) W := fun W => by rw [hu7]; exact run_string_add_sum W _ _ (by omega)
  obtain ⟨u8, hu8⟩ : ∃ u8, u8 = u7 ++ (d4 : ByteArray) := ⟨_, rfl⟩
  have zu8 : u8.size = u7.size + (d4 : ByteArray).size := by rw [hu8, ByteArray.size_append]
  have cu8 : ∀ W, (Op.stringOp .add u7 d4).run Tryz.prog W = .ok (.string u8) W := fun W => by rw [hu8]; exact run_string_add_sum W _ _ (by omega)
  have HL : RowKit.Hid (lineS ⟨id, frm, kno, sort, num, den, off⟩ = u8) := Lib.hid (by
    unfold lineS
    rw [if_neg (by exact ho), hu8, hu7, hu6, hu5, hu4, hu3, hu2, hu1, ht2, ht1, hd0, hd1, hd2, hd3, hd4]
    unfold joinB equalB_
    simp only [List.map_cons, List.map_nil, Lib.join_cons, Lib.joinTail]
    simp [ByteArray.ext_iff])
  rw [HL.out]
  have HG : decide (0 < off) = false := decide_eq_false ho
  clear hf hd0 hd1 hd2 hd3 hd4 ht1 ht2 hu1 hu2 hu3 hu4 hu5 hu6 hu7 hu8 zd0 zd1 zd2 zd3 zd4 zt1 zt2 zu1 zu2 zu3 zu4 zu5 zu6 zu7 zu8 zsp zeq b0 b1 b2 b3 b4 b5 hs
  go_enter Tryz.func41, Tryz.ntmps41
  go_wp2_with fail
  refine (C.out _).mono ?_
  rintro e w1 ⟨rfl, hk1⟩
  have K1 := Lib.hid (K0.out.trans hk1)
  have R1 := Lib.hid (R0.out.kept hk1)
  clear hk1
  have SB : RowKit.Hid (∀ W, Kept w1 W → W.cell? ⟨w.heap.size, 0, none⟩ = some (.int .i64 id) ∧ W.cell? ⟨w.heap.size, 2, none⟩ = some (.int .i64 kno) ∧ Kept w1 W) := Lib.hid (fun W hW => ⟨((R1.out.kept hW) 0 _ rfl).1, ((R1.out.kept hW) 2 _ rfl).1, hW⟩)
  have SST : RowKit.Hid (∀ W W', (W.cell? ⟨w.heap.size, 0, none⟩ = some (.int .i64 id) ∧ W.cell? ⟨w.heap.size, 2, none⟩ = some (.int .i64 kno) ∧ Kept w1 W) → Kept W W' → W'.cell? ⟨w.heap.size, 0, none⟩ = some (.int .i64 id) ∧ W'.cell? ⟨w.heap.size, 2, none⟩ = some (.int .i64 kno) ∧ Kept w1 W') := Lib.hid (fun W W' h hk => SB.out W' (h.2.2.trans hk))
  have SB1 := Lib.hid (SB.out _ ((Kept.refl w1).drew))
  have a0 := (R1.out 0 _ rfl).1
  have a2 := (R1.out 2 _ rfl).1
  have la := cell_lt a0
  go_upto_region 4 with (fail)
  go_cut [5] (fun v wx => v = .string t2 ∧ Kept w1 wx)
  case first =>
    go_region_held3 (fun W => W.cell? ⟨w.heap.size, 0, none⟩ = some (.int .i64 id) ∧ W.cell? ⟨w.heap.size, 2, none⟩ = some (.int .i64 kno) ∧ Kept w1 W) (first | (with_reducible exact SB1.out) | (with_reducible assumption) | (with_reducible refine SST.out _ _ ?_ hkk; assumption) | fail) (first | fail | (go_at_call 108; first | (with_reducible refine (Hd0.out _).mono ?_; rintro e w5 ⟨rfl, hkk⟩) | (with_reducible refine (Hd1.out _).mono ?_; rintro e w5 ⟨rfl, hkk⟩)))
    all_goals
      obtain ⟨-, -, hkz⟩ := ‹_ ∧ _›
      go_wp2
      go_meet
      exact ⟨rfl, hkz⟩
  obtain ⟨rfl, kx⟩ := hcut
  obtain ⟨w4, rfl⟩ : ∃ w4, w4 = wc := ⟨_, rfl⟩
  have KX := Lib.hid kx
  have R4 := Lib.hid (R1.out.kept kx)
  clear kx a0 a2 la SB SST SB1
  have a0 := (R4.out 0 _ rfl).1
  have a1 := (R4.out 1 _ rfl).1
  have a2 := (R4.out 2 _ rfl).1
  have a3 := (R4.out 3 _ rfl).1
  have a4 := (R4.out 4 _ rfl).1
  have a5 := (R4.out 5 _ rfl).1
  have a6 := (R4.out 6 _ rfl).1
  have la := cell_lt a0
  have SB : RowKit.Hid (∀ W, Kept w4 W → W.cell? ⟨w.heap.size, 1, none⟩ = some (.int .i64 frm) ∧ W.cell? ⟨w.heap.size, 3, none⟩ = some (.string sort) ∧ W.cell? ⟨w.heap.size, 4, none⟩ = some (.int .i64 num) ∧ W.cell? ⟨w.heap.size, 5, none⟩ = some (.int .i64 den) ∧ Kept w4 W) := Lib.hid (fun W hW => ⟨((R4.out.kept hW) 1 _ rfl).1, ((R4.out.kept hW) 3 _ rfl).1, ((R4.out.kept hW) 4 _ rfl).1, ((R4.out.kept hW) 5 _ rfl).1, hW⟩)
  have SST : RowKit.Hid (∀ W W', (W.cell? ⟨w.heap.size, 1, none⟩ = some (.int .i64 frm) ∧ W.cell? ⟨w.heap.size, 3, none⟩ = some (.string sort) ∧ W.cell? ⟨w.heap.size, 4, none⟩ = some (.int .i64 num) ∧ W.cell? ⟨w.heap.size, 5, none⟩ = some (.int .i64 den) ∧ Kept w4 W) → Kept W W' → W'.cell? ⟨w.heap.size, 1, none⟩ = some (.int .i64 frm) ∧ W'.cell? ⟨w.heap.size, 3, none⟩ = some (.string sort) ∧ W'.cell? ⟨w.heap.size, 4, none⟩ = some (.int .i64 num) ∧ W'.cell? ⟨w.heap.size, 5, none⟩ = some (.int .i64 den) ∧ Kept w4 W') := Lib.hid (fun W W' h hk => SB.out W' (h.2.2.2.2.trans hk))
  have SB1 := Lib.hid (SB.out _ ((Kept.refl w4).drew))
  go_upto_region 7 with (fail)
  go_region_held3 (fun W => W.cell? ⟨w.heap.size, 1, none⟩ = some (.int .i64 frm) ∧ W.cell? ⟨w.heap.size, 3, none⟩ = some (.string sort) ∧ W.cell? ⟨w.heap.size, 4, none⟩ = some (.int .i64 num) ∧ W.cell? ⟨w.heap.size, 5, none⟩ = some (.int .i64 den) ∧ Kept w4 W) (first | (with_reducible exact SB1.out) | (with_reducible assumption) | (with_reducible refine SST.out _ _ ?_ hkk; assumption) | fail) (first | fail | (go_at_call 108; first | (with_reducible refine (Hd2.out _).mono ?_; rintro e w5 ⟨rfl, hkk⟩) | (with_reducible refine (Hd3.out _).mono ?_; rintro e w5 ⟨rfl, hkk⟩) | (with_reducible refine (Hd4.out _).mono ?_; rintro e w5 ⟨rfl, hkk⟩)))
  all_goals
    obtain ⟨-, -, -, -, hkz⟩ := ‹_ ∧ _›
    go_wp2
    go_ret2
    exact ⟨rfl, K1.out.trans (KX.out.trans hkz)⟩
theorem rwrite_any (x : Eqv) (hs : x.sort.size ≤ 1000) (w : World) :
    Calls Tryz.prog 41 #[eqV x] w fun e w' => e = .returned (.tuple #[.string (if formB x = true then lineS x else ByteArray.empty), .int .i64 (errB (formB x))]) ∧ Kept w w' := by
  by_cases h : formB x = true
  · have e1 : errB (formB x) = 0 := by rw [h]; rfl
    rw [if_pos h, e1]
    by_cases ho : 0 < x.off
    · exact rwrite_void x.id x.frm x.kno x.num x.den x.off x.sort hs h ho w
    · exact rwrite_equal x.id x.frm x.kno x.num x.den x.off x.sort hs h ho w
  · have h' : formB x = false := by simpa using h
    have e1 : errB (formB x) = 1 := by rw [h']; rfl
    rw [if_neg h, e1]
    exact rwrite_err x.id x.frm x.kno x.num x.den x.off x.sort hs h' w
end Go.Proofs.YtcjpecdnenemaaaGreatDoor

namespace Go.Proofs.YtcjpecdnenemaaaGreatDoor
set_option linter.all false
open Go.RowKit Go.Shelf
attribute [local go_sem] Oper.semAt_some

theorem drop_byte {s : ByteArray} {k : Nat} (h : k < s.size) : s.data.toList.drop k = s[k] :: s.data.toList.drop (k + 1) := by
  rw [List.drop_eq_getElem_cons (by simpa using h)]
  rfl
theorem take_byte {s : ByteArray} {k : Nat} (h : k < s.size) : s.data.toList.take (k + 1) = s.data.toList.take k ++ [s[k]] := by
  rw [take_snocG (x := s[k]) (by rw [List.getElem?_eq_getElem (by simpa using h)]; rfl)]
theorem digF_snoc (l : List UInt8) (c : UInt8) : digF 0 (l ++ [c]) = 10 * digF 0 l + c.toNat - 48 := by
  unfold digF
  rw [List.foldl_append]
  rfl
theorem pow_le10 {m L : Nat} (h : m < 10 ^ L) (hL : L ≤ 10) : m ≤ 9999999999 := by
  have := Nat.pow_le_pow_right (show 0 < 10 by omega) hL
  omega
theorem pow_next {m L d : Nat} (h : m < 10 ^ L) (hd : d ≤ 9) : 10 * m + d < 10 ^ (L + 1) := by
  rw [Nat.pow_succ]
  omega
theorem numR_big {s : ByteArray} (h : 10 < s.size) : numR s.data.toList = 0 := by
  unfold numR
  rw [if_neg]
  rintro ⟨h1, _⟩
  have : s.data.toList.length = s.size := by simp
  omega
theorem numR_bad {s : ByteArray} {k : Nat} (hk : k < s.size) (h : s[k].toNat < 48 ∨ 57 < s[k].toNat) : numR s.data.toList = 0 := by
  unfold numR
  rw [if_neg]
  rintro ⟨_, h2⟩
  have hm : s[k] ∈ s.data.toList := by
    have : s.data.toList[k]'(by simpa using hk) = s[k] := rfl
    rw [← this]; exact List.getElem_mem _
  have := h2 _ hm
  omega
theorem numR_ok {s : ByteArray} (h : s.size ≤ 10) (hd : digC (s.data.toList.take s.size)) : numR s.data.toList = digF 0 (s.data.toList.take s.size) := by
  have ht : s.data.toList.take s.size = s.data.toList := List.take_of_length_le (by simp)
  rw [ht] at hd ⊢
  unfold numR
  rw [if_pos ⟨by simpa using h, hd⟩]
set_option maxRecDepth 100000 in
set_option maxHeartbeats 3200000 in
theorem number_any (s : ByteArray) (hs : s.size ≤ 1000) (w : World) :
    Calls Tryz.prog 112 #[.string s] w fun e w' => e = .returned (.int .i64 (numR s.data.toList)) ∧ Kept w w' := by
  by_cases hbig : 10 < s.size
  · rw [numR_big hbig]
    have c1 : decide ((0 : Int) < (s.size : Int)) = true := decide_eq_true (by omega)
    have c2 : decide ((10 : Int) < (s.size : Int)) = true := decide_eq_true (by omega)
    go_enter Tryz.func112, Tryz.ntmps112
    go_wp2_with fail
    go_loopw [3, 4] (fun v i wr => v = .int .i64 0 ∧ i = .int .i64 0 ∧ wr = w) (fun _ _ _ => 0)
    case atStart => exact ⟨by first | rfl | go_num, by first | rfl | go_num, rfl⟩
    case round =>
      obtain ⟨rfl, rfl, rfl⟩ := hrel
      go_wp2
      go_ret
      exact ⟨rfl, Kept.refl _⟩
  have c2 : decide ((10 : Int) < (s.size : Int)) = false := decide_eq_false (by omega)
  obtain ⟨T, hT⟩ : ∃ T, T = numR s.data.toList := ⟨_, rfl⟩
  rw [← hT]
  have HT := Lib.hid hT
  clear hT
  go_enter Tryz.func112, Tryz.ntmps112
  go_wp2_with fail
  go_loopw [3, 4] (fun v i wr => ∃ k m : Nat, k ≤ s.size ∧ i = .int .i64 k ∧ v = .int .i64 m ∧ m = digF 0 (s.data.toList.take k) ∧ digC (s.data.toList.take k) ∧ m < 10 ^ k ∧ wr = w) (fun _ i _ => s.size - (intOf i).toNat)
  case atStart => exact ⟨0, 0, by omega, by first | rfl | go_num, by first | rfl | go_num, by simp [digF], fun c hc => (by simp at hc), by simp, rfl⟩
  case round =>
    obtain ⟨k, m, hk, rfl, rfl, hm, hd, hp, rfl⟩ := hrel
    have HM := Lib.hid hm
    have HDC := Lib.hid hd
    have HP := Lib.hid hp
    have hm10 := pow_le10 hp (by omega)
    clear hm hd hp
    by_cases hk2 : k < s.size
    · have HB := Lib.hid (take_byte hk2)
      have hbl := s[k].toNat_lt
      have hi0 : (0 : Int) ≤ (k : Int) := by omega
      have hi1 : (k : Int) < (s.size : Int) := by omega
      have c1 : decide ((k : Int) < (s.size : Int)) = true := decide_eq_true (by omega)
      by_cases g1 : s[k].toNat < 48
      · have HNX := Lib.hid (numR_bad hk2 (.inl g1))
        have d1 : decide ((s[k].toNat : Int) < 48) = true := decide_eq_true (by omega)
        clear g1
        go_wp2
        go_ret
        exact ⟨by rw [HT.out, HNX.out]; rfl, Kept.refl _⟩
      by_cases g2 : 57 < s[k].toNat
      · have HNX := Lib.hid (numR_bad hk2 (.inr g2))
        have d1 : decide ((s[k].toNat : Int) < 48) = false := decide_eq_false (by omega)
        have d2 : decide ((57 : Int) < (s[k].toNat : Int)) = true := decide_eq_true (by omega)
        clear g1 g2
        go_wp2
        go_ret
        exact ⟨by rw [HT.out, HNX.out]; rfl, Kept.refl _⟩
      have d1 : decide ((s[k].toNat : Int) < 48) = false := decide_eq_false (by omega)
      have d2 : decide ((57 : Int) < (s[k].toNat : Int)) = false := decide_eq_false (by omega)
      have HX : RowKit.Hid (10 * m + s[k].toNat - 48 = digF 0 (s.data.toList.take (k + 1))) := Lib.hid (by rw [HB.out, digF_snoc, ← HM.out])
      have HDX : RowKit.Hid (digC (s.data.toList.take (k + 1))) := Lib.hid (by
        rw [HB.out]
        intro c hc
        rcases List.mem_append.1 hc with hc | hc
        · exact HDC.out c hc
        · simp only [List.mem_singleton] at hc; subst hc; omega)
      have HPX : RowKit.Hid (10 * m + s[k].toNat - 48 < 10 ^ (k + 1)) := Lib.hid (by
        have := pow_next (d := s[k].toNat - 48) HP.out (by omega)
        omega)
      have w1 : IntKind.i64.wrap (10 * (m : Int)) = 10 * (m : Int) := IntWalk.i64_in _ (by omega)
      have w2 : IntKind.i64.wrap (10 * (m : Int) + (s[k].toNat : Int)) = 10 * (m : Int) + (s[k].toNat : Int) := IntWalk.i64_in _ (by omega)
      have w3 : IntKind.i64.wrap (10 * (m : Int) + (s[k].toNat : Int) - 48) = 10 * (m : Int) + (s[k].toNat : Int) - 48 := IntWalk.i64_in _ (by omega)
      have w4 : IntKind.i64.wrap (s[k].toNat : Int) = (s[k].toNat : Int) := IntWalk.i64_in _ (by omega)
      have HG : RowKit.Hid (48 ≤ s[k].toNat) := Lib.hid (by omega)
      clear g1 g2
      go_wp2
      go_roundw
      case rel =>
        refine ⟨k + 1, 10 * m + s[k].toNat - 48, by omega, by go_num, ?_, HX.out, HDX.out, HPX.out, by first | rfl | trivial⟩
        have := HG.out
        congr 1
        omega
      case measure => simp [intOf] <;> omega
    · obtain rfl : k = s.size := by omega
      have HNX : RowKit.Hid (T = m) := Lib.hid (by rw [HT.out, numR_ok (by omega) HDC.out, HM.out])
      have c1 : decide ((s.size : Int) < (s.size : Int)) = false := decide_eq_false (by omega)
      go_wp2
      go_ret
      exact ⟨by rw [HNX.out]; rfl, Kept.refl _⟩

theorem info9s : (Tryz.prog.info? 9).map (fun i => (i.zero, i.size, i.bytes)) = some (some (.string ByteArray.empty), 1, 16) := by kernel_rfl
theorem own_outS {w : World} {base n : Nat} {v : Value} {xs : List ByteArray} (h : w.ownsRow base 9 1 v n (xs.map Value.string)) : ∃ A c, v = .slice A n c ∧ StA_s w A n c xs := by
  have hlen : (xs.map Value.string).length = n * 1 := h.1
  have hn : xs.length = n := by simpa using hlen
  rcases h.2 with ⟨h1, h2⟩ | ⟨g, cap, cur, h1, _, hg, hnc, hc, hs, ht⟩
  · subst h1; subst h2
    refine ⟨_, _, rfl, hn, by omega, by omega, fun j z hz => ?_⟩
    have := (List.getElem?_eq_some_iff.1 hz).1
    omega
  · subst h1
    refine ⟨_, _, rfl, hn, hnc, by unfold maxLen at hc; exact hc, fun j z hz => ⟨g, 0, rfl, ?_⟩⟩
    have hj : j < n := by rw [← hn]; exact (List.getElem?_eq_some_iff.1 hz).1
    rw [show 0 + j = j by omega, h.cellAt j (by omega), List.getElem?_map, hz]
    rfl
theorem own_row {w : World} {base n size : Nat} {e : TypeId} {v : Value} {xs : List Value} (h : w.ownsRow base e size v n xs) : ∀ j, v.ownBlock = some j → base ≤ j := fun j ej => by
  rcases h.2 with ⟨rfl, _⟩ | ⟨g, cap, cur, rfl, hb, _, _⟩
  · simp [Value.ownBlock] at ej
  · obtain rfl : g = j := by simpa [Value.ownBlock] using ej
    exact hb
theorem own_fresh {w : World} {base n c : Nat} {e : TypeId} {s : Nat} {a : Addr} {ys : List Value} (h : w.ownsRow base e s (.slice (some a) n c) n ys) : base ≤ a.block := by
  rcases h.2 with ⟨h1, _⟩ | ⟨g, cap, cur, h1, hb, _⟩
  · cases h1
  · cases h1; exact hb
def WordsRes (w : World) (T : List ByteArray) (e : Ending) (w' : World) : Prop := ∃ A n c, e = .returned (.slice A n c) ∧ StA_s w' A n c T ∧ Kept w w'
end Go.Proofs.YtcjpecdnenemaaaGreatDoor

namespace Go.Proofs.YtcjpecdnenemaaaGreatDoor
set_option linter.all false
open Go.RowKit Go.Shelf
attribute [local go_sem] Oper.semAt_some

theorem extract_list (s : ByteArray) (f k : Nat) : (s.extract f k).data.toList = (s.data.toList.take k).drop f := by
  rw [ByteArray.data_extract, Array.toList_extract]
  simp [List.extract, List.drop_take]
theorem extract_bOf (s : ByteArray) (f k : Nat) : bOf ((s.data.toList.take k).drop f) = s.extract f k := by
  rw [← extract_list, bOf_data]
theorem strC_snoc (acc : List ByteArray) (x : ByteArray) : (acc ++ [x]).map Value.string = acc.map Value.string ++ [Value.string x] := by simp

set_option maxRecDepth 100000 in
set_option maxHeartbeats 8000000 in
theorem words_any (s : ByteArray) (hs : s.size ≤ 1000) (w : World) :
    Calls Tryz.prog 111 #[.string s] w (WordsRes w (rwordsB s)) := by
  obtain ⟨T, hT⟩ : ∃ T, T = rwordsB s := ⟨_, rfl⟩
  rw [← hT]
  have HT := Lib.hid hT
  clear hT
  obtain ⟨i0, hnf, hz0, hz1, hz2⟩ := info_parts info9s
  go_enter Tryz.func111, Tryz.ntmps111
  go_wp2_with fail
  go_loopw [3, 4, 5] (fun v fr i wr => ∃ (k f : Nat) (acc : List ByteArray), k ≤ s.size + 1 ∧ f ≤ k ∧ i = .int .i64 k ∧ fr = .int .i64 f ∧ acc.length ≤ k ∧ Kept w wr ∧ wr.ownsRow w.heap.size 9 1 v acc.length (acc.map Value.string) ∧ (k ≤ s.size → acc ++ (cutF (s.data.toList.drop k) ((s.data.toList.take k).drop f)).map bOf = T) ∧ (k = s.size + 1 → acc = T)) (fun _ _ i _ => s.size + 1 - (intOf i).toNat)
  case atStart => exact ⟨0, 0, [], by omega, by omega, by first | rfl | go_num, by first | rfl | go_num, by simp, Kept.refl _, World.ownsRow_nil _ _ _ _, fun _ => by rw [HT.out]; rfl, fun h => by omega⟩
  case round =>
    obtain ⟨k, f, acc, hk, hf, rfl, rfl, hacc, hkr, hown, hnum, hend⟩ := hrel
    have HOWN := Lib.hid hown
    have HKR := Lib.hid hkr
    have HNUM := Lib.hid hnum
    have HEND := Lib.hid hend
    have HACC := Lib.hid hacc
    have hzr := hkr.size
    clear hown hkr hnum hend hacc
    by_cases hk1 : k ≤ s.size
    · have hle : decide ((k : Int) ≤ (s.size : Int)) = true := decide_eq_true (by omega)
      have x0 : (0 : Int) ≤ (f : Int) := by omega
      have x1 : (f : Int) ≤ (k : Int) := by omega
      have x2 : (k : Int) ≤ (s.size : Int) := by omega
      obtain ⟨wd, hwd⟩ : ∃ wd, wd = s.extract f k := ⟨_, rfl⟩
      have HWD := Lib.hid hwd
      have hsl : s.extract f k = wd := hwd.symm
      have HA3 : RowKit.Hid (acc.length + 1 ≤ maxLen) := Lib.hid (by have := HACC.out; unfold maxLen; omega)
      have HA4 : RowKit.Hid ((acc.length + 1) * 16 ≤ 140737488355328) := Lib.hid (by have := HACC.out; omega)
      have HO9 := Lib.hid (own_kept HOWN.out ((Kept.refl wr).alloc (.cells #[.string wd] 9)))
      have HN9 := Lib.hid (show ∀ j u, ([.string wd] : List Value)[j]? = some u → (wr.alloc (.cells #[.string wd] 9)).cell? ((⟨wr.heap.size, 0, none⟩ : Addr).add j) = some u from World.news_of_block (heap_alloc_new wr _))
      have HZ := Lib.hid (HKR.out.alloc (.cells #[.string wd] 9)).size
      have HSN := Lib.hid (strC_snoc acc wd)
      have H1C : RowKit.Hid (∀ u ∈ ([.string wd] : List Value), u.oneCell' = true) := Lib.hid (fun u hu => by simp at hu; subst hu; rfl)
      clear hwd
      by_cases hk2 : k < s.size
      · have HD := Lib.hid (drop_byte hk2)
        have HTK := Lib.hid (take_byte hk2)
        have hi0 : (0 : Int) ≤ (k : Int) := by omega
        have hi1 : (k : Int) < (s.size : Int) := by omega
        have hne : ((k : Int) == (s.size : Int)) = false := by simp; omega
        have hbl := s[k].toNat_lt
        by_cases h32 : s[k] = 32
        · have h32b : ((s[k].toNat : Int) == 32) = true := by rw [h32]; rfl
          have HNX : RowKit.Hid ((acc ++ [wd]) ++ (cutF (s.data.toList.drop (k + 1)) ((s.data.toList.take (k + 1)).drop (k + 1))).map bOf = T) := Lib.hid (by
            have h := HNUM.out hk1
            rw [HD.out, h32, cutF_sp, List.map_cons, extract_bOf, ← HWD.out] at h
            rw [show (s.data.toList.take (k + 1)).drop (k + 1) = [] by rw [List.drop_eq_nil_iff, List.length_take]; omega]
            simpa using h)
          clear h32
          go_wp2_with (at_builtin; refine wpList_append_lies _ rfl (.tmp 22) (.tmp 27) 52 rfl w.heap.size 9 i0 _ 1 16 Tryz.underlying52 hnf hz0 hz1 hz2 rfl (by decide) _ acc.length _ rfl HO9.out ⟨wr.heap.size, 0, none⟩ 1 1 [.string wd] rfl rfl HN9.out H1C.out (by decide) HA3.out HA4.out HZ.out _ rfl ?_; intro g cap w10 hown10 hgrow10 hat10 hlt10)
          have HO10 := Lib.hid hown10
          have HK10 := Lib.hid ((HKR.out.alloc (.cells #[.string wd] 9)).grown hgrow10 (fun j ej => own_row HOWN.out j ej))
          clear hown10 hgrow10 hat10 hlt10
          go_roundw
          case rel =>
            refine ⟨k + 1, k + 1, acc ++ [wd], by omega, by omega, by go_num, by go_num, by have := HACC.out; simp; omega, HK10.out, ?_, fun _ => HNX.out, fun h => by omega⟩
            rw [HSN.out, List.length_append]
            exact HO10.out
          case measure => simp [intOf] <;> omega
        · have h32b : ((s[k].toNat : Int) == 32) = false := by
            rw [beq_eq_false_iff_ne]
            intro h
            apply h32
            apply UInt8.toNat_inj.1
            have e : (32 : UInt8).toNat = 32 := rfl
            rw [e]; omega
          have HNX : RowKit.Hid (acc ++ (cutF (s.data.toList.drop (k + 1)) ((s.data.toList.take (k + 1)).drop f)).map bOf = T) := Lib.hid (by
            have h := HNUM.out hk1
            rw [HD.out, cutF_ch h32] at h
            have hlen : s.data.toList.length = s.size := by simp
            rw [HTK.out, List.drop_append_of_le_length (by rw [List.length_take]; omega)]
            exact h)
          clear h32
          go_wp2
          go_roundw
          case rel => exact ⟨k + 1, f, acc, by omega, by omega, by go_num, rfl, Nat.le_succ_of_le HACC.out, HKR.out, HOWN.out, fun _ => HNX.out, fun h => by omega⟩
          case measure => simp [intOf] <;> omega
      · obtain rfl : k = s.size := by omega
        have hne : ((s.size : Int) == (s.size : Int)) = true := by simp
        have HNX : RowKit.Hid (acc ++ [wd] = T) := Lib.hid (by
          have h := HNUM.out hk1
          rw [show s.data.toList.drop s.size = [] by rw [List.drop_eq_nil_iff]; simp] at h
          unfold cutF at h
          rw [List.map_cons, extract_bOf, ← HWD.out] at h
          exact h)
        go_wp2_with (at_builtin; refine wpList_append_lies _ rfl (.tmp 22) (.tmp 27) 52 rfl w.heap.size 9 i0 _ 1 16 Tryz.underlying52 hnf hz0 hz1 hz2 rfl (by decide) _ acc.length _ rfl HO9.out ⟨wr.heap.size, 0, none⟩ 1 1 [.string wd] rfl rfl HN9.out H1C.out (by decide) HA3.out HA4.out HZ.out _ rfl ?_; intro g cap w10 hown10 hgrow10 hat10 hlt10)
        have HO10 := Lib.hid hown10
        have HK10 := Lib.hid ((HKR.out.alloc (.cells #[.string wd] 9)).grown hgrow10 (fun j ej => own_row HOWN.out j ej))
        clear hown10 hgrow10 hat10 hlt10
        go_roundw
        case rel =>
          refine ⟨s.size + 1, s.size + 1, acc ++ [wd], by omega, by omega, by go_num, by go_num, by have := HACC.out; simp; omega, HK10.out, ?_, fun h => by omega, fun _ => HNX.out⟩
          rw [HSN.out, List.length_append]
          exact HO10.out
        case measure => simp [intOf] <;> omega
    · obtain rfl : k = s.size + 1 := by omega
      have hown := HOWN.out
      have HTT := Lib.hid (HEND.out rfl)
      obtain ⟨A7, c7, rfl, hs7⟩ := own_outS hown
      have HS7 := Lib.hid hs7
      have hle : decide (((s.size + 1 : Nat) : Int) ≤ (s.size : Int)) = false := decide_eq_false (by omega)
      clear hown hs7
      go_wp2
      go_ret
      exact ⟨A7, acc.length, c7, rfl, by rw [← HTT.out]; exact HS7.out, HKR.out⟩
end Go.Proofs.YtcjpecdnenemaaaGreatDoor

namespace Go.Proofs.YtcjpecdnenemaaaGreatDoor
set_option linter.all false
open Go.RowKit Go.Shelf

set_option maxRecDepth 100000 in
set_option maxHeartbeats 4000000 in
theorem sameE_any (A B : Option Addr) (n c d : Nat) (xs : List Eqv) (w : World) (h1 : TabA w A n c xs) (h2 : TabA w B n d xs) :
    Calls Tryz.prog 44 #[.slice A n c, .slice B n d] w fun e w' => e = .returned (.bool true) ∧ Kept w w' := by
  have H1 := Lib.hid h1
  have H2 := Lib.hid h2
  have hnc := h1.2.1
  have hcm := h1.2.2.1
  have hnd := h2.2.1
  have hdm := h2.2.2.1
  clear h1 h2
  have hnn : ((n : Int) != (n : Int)) = false := by simp
  go_enter Tryz.func44, Tryz.ntmps44
  go_wp2_with fail
  go_loopw [5] (fun i wr => ∃ k : Nat, k ≤ n ∧ i = .int .i64 k ∧ Kept w wr) (fun i _ => n - (intOf i).toNat)
  case atStart => exact ⟨0, by omega, by first | rfl | go_num, Kept.refl _⟩
  case round =>
    obtain ⟨k, hk, rfl, hkr⟩ := hrel
    have HKR := Lib.hid hkr
    clear hkr
    by_cases hlt : k < n
    · obtain ⟨b, off, hA, hcc⟩ := H1.out.2.2.2.2 (by omega)
      obtain ⟨b2, off2, hB, hcc2⟩ := H2.out.2.2.2.2 (by omega)
      subst hA
      subst hB
      have hxl : k < xs.length := by rw [H1.out.1]; exact hlt
      obtain ⟨x, hx⟩ : ∃ x, xs[k]? = some x := ⟨xs[k]'hxl, List.getElem?_eq_getElem hxl⟩
      obtain ⟨q0, q1, q2, q3, q4, q5, q6⟩ := (hcc k x hx).kept HKR.out
      obtain ⟨p0, p1, p2, p3, p4, p5, p6⟩ := (hcc2 k x hx).kept HKR.out
      have i0 : (0 : Int) ≤ (k : Int) := by omega
      have i1 : (k : Int) < (n : Int) := by omega
      have it : (k : Int).toNat = k := by omega
      have hse : (x.sort.toList == x.sort.toList) = true := by simp
      clear hcc hcc2 hx
      go_upto_region 6 with (fail)
      go_cut [25] (fun s25 wx => s25 = .bool false ∧ Kept wr wx)
      case first =>
        go_quiet (fail)
        go_wp2
        go_meet
        exact ⟨by first | rfl | (simp; done), by first | exact Kept.refl _ | exact (Kept.refl _).drewN _ | exact (Kept.refl _).drew⟩
      obtain ⟨rfl, kx⟩ := hcut
      have KX := Lib.hid (HKR.out.trans kx)
      clear kx q0 q1 q2 q3 q4 q5 q6 p0 p1 p2 p3 p4 p5 p6
      go_wp2
      go_roundw
      case rel => exact ⟨k + 1, by omega, by go_num, KX.out⟩
      case measure => simp [intOf]; omega
    · obtain rfl : k = n := by omega
      go_wp2
      go_ret
      exact ⟨rfl, HKR.out⟩
theorem sameE_nil (w : World) : Calls Tryz.prog 44 #[.slice none 0 0, .slice none 0 0] w fun e w' => e = .returned (.bool true) ∧ Kept w w' := by
  have h : TabA w none 0 0 [] := ⟨rfl, by omega, by omega, fun x hx => (by cases hx), fun h => by omega⟩
  exact sameE_any none none 0 0 0 [] w h h
end Go.Proofs.YtcjpecdnenemaaaGreatDoor

namespace Go.Proofs.YtcjpecdnenemaaaGreatDoor
set_option linter.all false
open Go.RowKit Go.Shelf

theorem cutF_size : ∀ (l cur : List UInt8), ∀ x ∈ cutF l cur, x.length ≤ cur.length + l.length
  | [], cur => by
    intro x hx
    simp [cutF] at hx
    subst hx
    simp
  | c :: cs, cur => by
    intro x hx
    by_cases h : c = 32
    · subst h
      rw [cutF_sp] at hx
      rcases List.mem_cons.1 hx with rfl | hx
      · omega
      · have := cutF_size cs [] x hx
        simp at this ⊢
        omega
    · rw [cutF_ch h] at hx
      have := cutF_size cs _ x hx
      simp at this ⊢
      omega
theorem rwords_size (s : ByteArray) : ∀ x ∈ rwordsB s, x.size ≤ s.size := by
  intro x hx
  unfold rwordsB at hx
  obtain ⟨l, hl, rfl⟩ := List.mem_map.1 hx
  have := cutF_size _ _ l hl
  show l.toArray.size ≤ s.size
  simpa using this
theorem rreadS_if (s : ByteArray) : rreadS s = if (formB (rparseS (rwordsB s)) && (lineS (rparseS (rwordsB s))).toList == s.toList) = true then (rparseS (rwordsB s), 0) else (zeroE, 4) := by
  unfold rreadS
  by_cases h : formB (rparseS (rwordsB s)) = true ∧ lineS (rparseS (rwordsB s)) = s
  · rw [if_pos h, if_pos (by rw [h.1, h.2]; simp)]
  · rw [if_neg h, if_neg]
    intro hc
    obtain ⟨h1, h2⟩ := Bool.and_eq_true_iff.1 hc
    exact h ⟨h1, bytes_eq h2⟩
theorem rput7 {w : World} {b : Nat} {a0 a1 a2 a3 a4 a5 a6 : Value} (h : RowC w b [a0, a1, a2, a3, a4, a5, a6]) (v0 v1 v2 v3 v4 v5 v6 : Value) : RowC (((((((w.setCell ⟨b, 0, none⟩ v0).setCell ⟨b, 1, none⟩ v1).setCell ⟨b, 2, none⟩ v2).setCell ⟨b, 3, none⟩ v3).setCell ⟨b, 4, none⟩ v4).setCell ⟨b, 5, none⟩ v5).setCell ⟨b, 6, none⟩ v6) b [v0, v1, v2, v3, v4, v5, v6] :=
  ((((((h.put (j := 0) (by simp) _).put (j := 1) (by simp) _).put (j := 2) (by simp) _).put (j := 3) (by simp) _).put (j := 4) (by simp) _).put (j := 5) (by simp) _).put (j := 6) (by simp) _
theorem set7 {w w' : World} {b : Nat} (h : Kept w w') (hb : w.heap.size ≤ b) (v0 v1 v2 v3 v4 v5 v6 : Value) : Kept w (((((((w'.setCell ⟨b, 0, none⟩ v0).setCell ⟨b, 1, none⟩ v1).setCell ⟨b, 2, none⟩ v2).setCell ⟨b, 3, none⟩ v3).setCell ⟨b, 4, none⟩ v4).setCell ⟨b, 5, none⟩ v5).setCell ⟨b, 6, none⟩ v6) :=
  ((((((h.setCell hb _).setCell hb _).setCell hb _).setCell hb _).setCell hb _).setCell hb _).setCell hb _
set_option maxRecDepth 100000 in
set_option maxHeartbeats 8000000 in
theorem rread_other (line : ByteArray) (hl : line.size ≤ 1000) (h4 : (rwordsB line).length ≠ 4) (h7 : (rwordsB line).length ≠ 7) (w : World) :
    Calls Tryz.prog 43 #[.string line] w fun e w' => e = .returned (ofV (rreadS line)) ∧ Kept w w' := by
  obtain ⟨W0, hW0⟩ : ∃ W0, W0 = w.alloc (.cells #[.int .i64 0, .int .i64 0, .int .i64 0, .string ⟨#[]⟩, .int .i64 0, .int .i64 0, .int .i64 0] 37) := ⟨_, rfl⟩
  have KX0 : RowKit.Hid (Kept w W0) := Lib.hid (by rw [hW0]; exact (Kept.refl _).alloc _)
  have R0 : RowKit.Hid (RowC W0 w.heap.size [.int .i64 0, .int .i64 0, .int .i64 0, .string ⟨#[]⟩, .int .i64 0, .int .i64 0, .int .i64 0]) := Lib.hid (by rw [hW0]; exact RowC.new w [.int .i64 0, .int .i64 0, .int .i64 0, .string ⟨#[]⟩, .int .i64 0, .int .i64 0, .int .i64 0] 37)
  have HW := Lib.hid hW0
  clear hW0
  have HR : RowKit.Hid (Calls Tryz.prog 111 #[.string line] W0 (WordsRes W0 (rwordsB line))) := Lib.hid (words_any line hl W0)
  have HDD : RowKit.Hid (rreadS line = (zeroE, 4)) := Lib.hid (by
    have hz : rparseS (rwordsB line) = zeroE := by
      unfold rparseS
      split
      · rename_i h; rw [h] at h4; exact absurd rfl h4
      · rename_i h; rw [h] at h7; exact absurd rfl h7
      · rfl
    rw [rreadS_if, hz]
    rw [if_neg]
    intro h
    obtain ⟨h1, _⟩ := Bool.and_eq_true_iff.1 h
    exact absurd h1 (by decide))
  obtain ⟨ws, hws⟩ : ∃ ws, ws = rwordsB line := ⟨_, rfl⟩
  rw [← hws] at h4 h7 HR
  clear hws
  go_enter Tryz.func43, Tryz.ntmps43
  go_upto_region 1 with (fail)
  rw [← HW.out]
  go_wp2_with fail
  refine HR.out.mono ?_
  rintro e w3 ⟨A, n, c, rfl, hi3, hk3⟩
  have hn := hi3.1
  have hnc := hi3.2.1
  have hcm := hi3.2.2.1
  have hn4 : ((n : Int) != 4) = true := by simp; omega
  have hn7 : ((n : Int) != 7) = true := by simp; omega
  have R3 := Lib.hid (R0.out.kept hk3)
  have KY := Lib.hid (KX0.out.trans hk3)
  clear hi3 hk3 h4 h7 hn
  have a0 := (R3.out 0 _ rfl).1
  have a1 := (R3.out 1 _ rfl).1
  have a2 := (R3.out 2 _ rfl).1
  have a3 := (R3.out 3 _ rfl).1
  have a4 := (R3.out 4 _ rfl).1
  have a5 := (R3.out 5 _ rfl).1
  have a6 := (R3.out 6 _ rfl).1
  have f0 := (R3.out 0 _ rfl).2
  have f1 := (R3.out 1 _ rfl).2
  have f2 := (R3.out 2 _ rfl).2
  have f3 := (R3.out 3 _ rfl).2
  have f4 := (R3.out 4 _ rfl).2
  have f5 := (R3.out 5 _ rfl).2
  have f6 := (R3.out 6 _ rfl).2
  have la := cell_lt a0
  go_wp2
  refine bodyPost_ret (v := .tuple #[eqV zeroE, .int .i64 4]) (by simp [results, Tryz.results43, go_sem, a0, a1, a2, a3, a4, a5, a6, eqV, zeroE]) rfl ⟨by rw [HDD.out]; rfl, ?_⟩
  exact set7 KY.out (by simp; try omega) _ _ _ _ _ _ _
set_option maxRecDepth 100000 in
set_option maxHeartbeats 16000000 in
theorem rread_4 (line : ByteArray) (hl : line.size ≤ 1000) (s0 s1 s2 s3 : ByteArray) (hN : rwordsB line = [s0, s1, s2, s3]) (w : World) :
    Calls Tryz.prog 43 #[.string line] w fun e w' => e = .returned (ofV (rreadS line)) ∧ Kept w w' := by
  obtain ⟨W0, hW0⟩ : ∃ W0, W0 = w.alloc (.cells #[.int .i64 0, .int .i64 0, .int .i64 0, .string ⟨#[]⟩, .int .i64 0, .int .i64 0, .int .i64 0] 37) := ⟨_, rfl⟩
  have KX0 : RowKit.Hid (Kept w W0) := Lib.hid (by rw [hW0]; exact (Kept.refl _).alloc _)
  have R0 : RowKit.Hid (RowC W0 w.heap.size [.int .i64 0, .int .i64 0, .int .i64 0, .string ⟨#[]⟩, .int .i64 0, .int .i64 0, .int .i64 0]) := Lib.hid (by rw [hW0]; exact RowC.new w [.int .i64 0, .int .i64 0, .int .i64 0, .string ⟨#[]⟩, .int .i64 0, .int .i64 0, .int .i64 0] 37)
  have Z0 : RowKit.Hid (W0.heap.size = w.heap.size + 1) := Lib.hid (by rw [hW0]; simp)
  have HW := Lib.hid hW0
  clear hW0
  have hsz : ∀ x ∈ rwordsB line, x.size ≤ 1000 := fun x hx => Nat.le_trans (rwords_size line x hx) hl
  rw [hN] at hsz
  obtain ⟨n0, hn0⟩ : ∃ n0 : Int, n0 = numR s0.data.toList := ⟨_, rfl⟩
  have N0 : RowKit.Hid (∀ W, Calls Tryz.prog 112 #[.string s0] W fun e w' => e = .returned (.int .i64 n0) ∧ Kept W w') := Lib.hid (fun W => by rw [hn0]; exact number_any s0 (hsz s0 (by simp)) W)
  obtain ⟨n1, hn1⟩ : ∃ n1 : Int, n1 = numR s1.data.toList := ⟨_, rfl⟩
  have N1 : RowKit.Hid (∀ W, Calls Tryz.prog 112 #[.string s1] W fun e w' => e = .returned (.int .i64 n1) ∧ Kept W w') := Lib.hid (fun W => by rw [hn1]; exact number_any s1 (hsz s1 (by simp)) W)
  obtain ⟨n3, hn3⟩ : ∃ n3 : Int, n3 = numR s3.data.toList := ⟨_, rfl⟩
  have N3 : RowKit.Hid (∀ W, Calls Tryz.prog 112 #[.string s3] W fun e w' => e = .returned (.int .i64 n3) ∧ Kept W w') := Lib.hid (fun W => by rw [hn3]; exact number_any s3 (hsz s3 (by simp)) W)
  have hX : rparseS (rwordsB line) = ⟨n0, 0, n1, ⟨#[]⟩, 0, 0, n3⟩ := by
    rw [hN, hn0, hn1, hn3]
    rfl
  obtain ⟨cb, hcb⟩ : ∃ cb, cb = formB ⟨n0, 0, n1, ⟨#[]⟩, 0, 0, n3⟩ := ⟨_, rfl⟩
  obtain ⟨lb, hlb⟩ : ∃ lb, lb = lineS ⟨n0, 0, n1, ⟨#[]⟩, 0, 0, n3⟩ := ⟨_, rfl⟩
  have HK : RowKit.Hid (∀ W, Calls Tryz.prog 41 #[eqV ⟨n0, 0, n1, ⟨#[]⟩, 0, 0, n3⟩] W fun e w' => e = .returned (.tuple #[.string (if cb = true then lb else ByteArray.empty), .int .i64 (errB cb)]) ∧ Kept W w') := Lib.hid (fun W => by rw [hcb, hlb]; exact rwrite_any ⟨n0, 0, n1, ⟨#[]⟩, 0, 0, n3⟩ (by show (0 : Nat) ≤ 1000; omega) W)
  unfold eqV at HK
  dsimp only at HK
  have HD : RowKit.Hid (rreadS line = if (cb && lb.toList == line.toList) = true then (⟨n0, 0, n1, ⟨#[]⟩, 0, 0, n3⟩, 0) else (zeroE, 4)) := Lib.hid (by
    rw [rreadS_if, hX, hcb, hlb])
  have HR : RowKit.Hid (Calls Tryz.prog 111 #[.string line] W0 fun e w' => ∃ A n c, e = .returned (.slice A n c) ∧ StA_s w' A n c [s0, s1, s2, s3] ∧ Kept W0 w') := Lib.hid (by
    have := words_any line hl W0
    unfold WordsRes at this
    rw [hN] at this
    exact this)
  clear hcb hlb hX hN hsz hn0 hn1 hn3
  go_enter Tryz.func43, Tryz.ntmps43
  go_upto_region 1 with (fail)
  rw [← HW.out]
  go_wp2_with fail
  refine HR.out.mono ?_
  rintro e w3 ⟨A, n, c, rfl, hi3, hk3⟩
  have hnn : n = 4 := by rw [← hi3.1]; rfl
  subst hnn
  have hnc := hi3.2.1
  have hcm := hi3.2.2.1
  obtain ⟨bk, ok, hA, g0⟩ := hi3.2.2.2 0 s0 rfl
  subst hA
  have g1 : w3.cell? ⟨bk, ok + 1, none⟩ = some (.string s1) := by
    obtain ⟨b', o', e', g'⟩ := hi3.2.2.2 1 s1 rfl
    cases e'; exact g'
  have g3 : w3.cell? ⟨bk, ok + 3, none⟩ = some (.string s3) := by
    obtain ⟨b', o', e', g'⟩ := hi3.2.2.2 3 s3 rfl
    cases e'; exact g'
  have K3 := Lib.hid hk3
  have R3 := Lib.hid (R0.out.kept hk3)
  have KX3 := Lib.hid (KX0.out.trans hk3)
  clear hi3 hk3
  rw [Nat.add_zero] at g0
  go_upto_region 4 with (fail)
  go_cut [5] (fun sa wx => ∃ bx, sa = .pointer (some ⟨bx, 0, none⟩) ∧ w3.heap.size ≤ bx ∧ RowC wx bx [.int .i64 n0, .int .i64 0, .int .i64 n1, .string ⟨#[]⟩, .int .i64 0, .int .i64 0, .int .i64 0] ∧ Kept w3 wx)
  case first =>
    have SB : RowKit.Hid (∀ W, Kept w3 W → W.cell? ⟨bk, ok, none⟩ = some (.string s0) ∧ W.cell? ⟨bk, ok + 1, none⟩ = some (.string s1) ∧ Kept w3 W) := Lib.hid (fun W hW => ⟨(hW.cells _ _ (cell_lt g0)).trans g0, (hW.cells _ _ (cell_lt g1)).trans g1, hW⟩)
    have kd : Kept w3 w3.drew := (Kept.refl w3).drew
    have kda : Kept w3 ((w3.alloc (.cells #[.int .i64 0, .int .i64 0, .int .i64 0, .string ⟨#[]⟩, .int .i64 0, .int .i64 0, .int .i64 0] 37)).drew) := ((Kept.refl w3).alloc _).drew
    have SD := Lib.hid (SB.out _ kd)
    have SDA := Lib.hid (SB.out _ kda)
    go_region_held3 (fun W => W.cell? ⟨bk, ok, none⟩ = some (.string s0) ∧ W.cell? ⟨bk, ok + 1, none⟩ = some (.string s1) ∧ Kept w3 W)
      (first
        | (with_reducible exact SD.out)
        | (with_reducible exact SDA.out)
        | (with_reducible exact SB.out _ kk6)
        | (with_reducible exact SB.out _ kk5)
        | (with_reducible exact SB.out _ (kk6.alloc _))
        | (with_reducible exact SB.out _ (kk5.alloc _))
        | (with_reducible exact SB.out _ (set7 kk6 (Nat.le_refl _) _ _ _ _ _ _ _))
        | (with_reducible exact SB.out _ (set7 kk6 kk5.size _ _ _ _ _ _ _))
        | (with_reducible exact SB.out _ (set7 (kk6.alloc _) kk6.size _ _ _ _ _ _ _))
        | fail)
      (first
        | (go_at_call 112; (first | (with_reducible refine (N0.out _).mono ?_) | (with_reducible refine (N1.out _).mono ?_)); rintro e w5 ⟨rfl, hk5⟩; have kk5 : Kept w3 w5 := (by with_reducible exact kd.trans hk5))
        | (go_at_call 112; (first | (with_reducible refine (N0.out _).mono ?_) | (with_reducible refine (N1.out _).mono ?_)); rintro e w5 ⟨rfl, hk5⟩; have kk5 : Kept w3 w5 := (by with_reducible exact kda.trans hk5); have rz5 := ((RowC.new w3 [.int .i64 0, .int .i64 0, .int .i64 0, .string ⟨#[]⟩, .int .i64 0, .int .i64 0, .int .i64 0] 37).drew).kept hk5; have z0 := (rz5 0 _ rfl).1; have z1 := (rz5 1 _ rfl).1; have z2 := (rz5 2 _ rfl).1; have z3 := (rz5 3 _ rfl).1; have z4 := (rz5 4 _ rfl).1; have z5 := (rz5 5 _ rfl).1; have z6 := (rz5 6 _ rfl).1; have y0 := (rz5 0 _ rfl).2; have y1 := (rz5 1 _ rfl).2; have y2 := (rz5 2 _ rfl).2; have y3 := (rz5 3 _ rfl).2; have y4 := (rz5 4 _ rfl).2; have y5 := (rz5 5 _ rfl).2; have y6 := (rz5 6 _ rfl).2; have lz := cell_lt z0)
        | (go_at_call 112; (first | (with_reducible refine (N0.out _).mono ?_) | (with_reducible refine (N1.out _).mono ?_)); rintro e w6 ⟨rfl, hk6⟩; have kk6 : Kept w3 w6 := (by with_reducible exact kk5.trans hk6); first | (have rz6 := rz5.kept hk6; have z0 := (rz6 0 _ rfl).1; have z1 := (rz6 1 _ rfl).1; have z2 := (rz6 2 _ rfl).1; have z3 := (rz6 3 _ rfl).1; have z4 := (rz6 4 _ rfl).1; have z5 := (rz6 5 _ rfl).1; have z6 := (rz6 6 _ rfl).1; have y0 := (rz6 0 _ rfl).2; have y1 := (rz6 1 _ rfl).2; have y2 := (rz6 2 _ rfl).2; have y3 := (rz6 3 _ rfl).2; have y4 := (rz6 4 _ rfl).2; have y5 := (rz6 5 _ rfl).2; have y6 := (rz6 6 _ rfl).2; have lz := cell_lt z0) | skip)
        | (go_at_call 112; (first | (with_reducible refine (N0.out _).mono ?_) | (with_reducible refine (N1.out _).mono ?_)); rintro e w6 ⟨rfl, hk6⟩; have kk6 : Kept w3 w6 := (by with_reducible exact (kk5.alloc _).trans hk6); have rz6 := (RowC.new w5 [.int .i64 0, .int .i64 0, .int .i64 0, .string ⟨#[]⟩, .int .i64 0, .int .i64 0, .int .i64 0] 37).kept hk6; have z0 := (rz6 0 _ rfl).1; have z1 := (rz6 1 _ rfl).1; have z2 := (rz6 2 _ rfl).1; have z3 := (rz6 3 _ rfl).1; have z4 := (rz6 4 _ rfl).1; have z5 := (rz6 5 _ rfl).1; have z6 := (rz6 6 _ rfl).1; have y0 := (rz6 0 _ rfl).2; have y1 := (rz6 1 _ rfl).2; have y2 := (rz6 2 _ rfl).2; have y3 := (rz6 3 _ rfl).2; have y4 := (rz6 4 _ rfl).2; have y5 := (rz6 5 _ rfl).2; have y6 := (rz6 6 _ rfl).2; have lz := cell_lt z0)
        | fail)
    all_goals go_wp2
    all_goals go_meet
    all_goals first
      | (with_reducible exact ⟨w6.heap.size, rfl, kk6.size, RowC.new w6 [.int .i64 n0, .int .i64 0, .int .i64 n1, .string ⟨#[]⟩, .int .i64 0, .int .i64 0, .int .i64 0] 37, kk6.alloc _⟩)
      | (with_reducible exact ⟨w5.heap.size, rfl, kk5.size, rput7 rz6 _ _ _ _ _ _ _, set7 kk6 kk5.size _ _ _ _ _ _ _⟩)
      | (with_reducible exact ⟨w3.heap.size, rfl, Nat.le_refl _, rput7 rz6 _ _ _ _ _ _ _, set7 kk6 (Nat.le_refl _) _ _ _ _ _ _ _⟩)
  obtain ⟨bx, rfl, hbx, rx, kx⟩ := hcut
  obtain ⟨w4, rfl⟩ : ∃ w4, w4 = wc := ⟨_, rfl⟩
  have RX := Lib.hid rx
  have KX := Lib.hid kx
  clear rx kx
  have W4 := KX
  have h3 := (W4.out.cells _ _ (cell_lt g3)).trans g3
  have x0 := (RX.out 0 _ rfl).1
  have xf0 := (RX.out 0 _ rfl).2
  have hbig : bx < w4.heap.size := cell_lt x0
  clear g0 g1 g3 x0 xf0
  go_upto_region 6 with (fail)
  go_cut [5] (fun sa wx => sa = .pointer (some ⟨bx, 0, none⟩) ∧ RowC wx bx [.int .i64 n0, .int .i64 0, .int .i64 n1, .string ⟨#[]⟩, .int .i64 0, .int .i64 0, .int .i64 n3] ∧ Kept w3 wx)
  case first =>
    go_wp2_with fail
    refine (N3.out _).mono ?_
    rintro e w5 ⟨rfl, hk5⟩
    have rz := RX.out.kept hk5
    have z6 := (rz 6 _ rfl).1
    have y6 := (rz 6 _ rfl).2
    have lz := cell_lt z6
    have K5 := Lib.hid (KX.out.trans hk5)
    clear h3
    go_wp2
    go_meet
    exact ⟨rfl, by simpa using rz.put (j := 6) (by simp) (.int .i64 n3), K5.out.setCell hbx _⟩
  obtain ⟨rfl, rx, kx⟩ := hcut
  obtain ⟨w5, rfl⟩ : ∃ w5, w5 = wc := ⟨_, rfl⟩
  have R5 := Lib.hid rx
  have K5 := Lib.hid kx
  clear rx kx h3 hbig
  have x0 := (R5.out 0 _ rfl).1
  have x1 := (R5.out 1 _ rfl).1
  have x2 := (R5.out 2 _ rfl).1
  have x3 := (R5.out 3 _ rfl).1
  have x4 := (R5.out 4 _ rfl).1
  have x5 := (R5.out 5 _ rfl).1
  have x6 := (R5.out 6 _ rfl).1
  have lx := cell_lt x0
  go_wp2_with fail
  refine (HK.out _).mono ?_
  rintro e w7 ⟨rfl, hk7⟩
  have K7 := Lib.hid hk7
  have K37 := Lib.hid (K5.out.trans hk7)
  have R7 := Lib.hid (R3.out.kept K37.out)
  have RX7 := Lib.hid (R5.out.kept hk7)
  clear hk7 x0 x1 x2 x3 x4 x5 x6 lx
  have a0 := (R7.out 0 _ rfl).1
  have a1 := (R7.out 1 _ rfl).1
  have a2 := (R7.out 2 _ rfl).1
  have a3 := (R7.out 3 _ rfl).1
  have a4 := (R7.out 4 _ rfl).1
  have a5 := (R7.out 5 _ rfl).1
  have a6 := (R7.out 6 _ rfl).1
  have f0 := (R7.out 0 _ rfl).2
  have f1 := (R7.out 1 _ rfl).2
  have f2 := (R7.out 2 _ rfl).2
  have f3 := (R7.out 3 _ rfl).2
  have f4 := (R7.out 4 _ rfl).2
  have f5 := (R7.out 5 _ rfl).2
  have f6 := (R7.out 6 _ rfl).2
  have la := cell_lt a0
  have KY := Lib.hid (KX3.out.trans K37.out)
  have he1 : ((1 : Int) != 0) = true := by decide
  have he0 : ((0 : Int) != 0) = false := by decide
  have hne : bx ≠ w.heap.size := by have := K3.out.size; have := Z0.out; omega
  cases cb
  · have HDD : RowKit.Hid (rreadS line = (zeroE, 4)) := Lib.hid (by rw [HD.out]; rfl)
    have e1 : errB false = 1 := rfl
    rw [e1]
    go_wp2
    refine bodyPost_ret (v := .tuple #[eqV zeroE, .int .i64 4]) (by simp [results, Tryz.results43, go_sem, a0, a1, a2, a3, a4, a5, a6, eqV, zeroE]) rfl ⟨by rw [HDD.out]; rfl, ?_⟩
    exact set7 KY.out (by simp; try omega) _ _ _ _ _ _ _
  · have e1 : errB true = 0 := rfl
    rw [e1]
    have x0 := (RX7.out 0 _ rfl).1
    have x1 := (RX7.out 1 _ rfl).1
    have x2 := (RX7.out 2 _ rfl).1
    have x3 := (RX7.out 3 _ rfl).1
    have x4 := (RX7.out 4 _ rfl).1
    have x5 := (RX7.out 5 _ rfl).1
    have x6 := (RX7.out 6 _ rfl).1
    have lx := cell_lt x0
    have e2 : (if true = true then lb else ByteArray.empty) = lb := rfl
    rw [e2]
    rcases hq : (lb.toList == line.toList) with _ | _
    · have HDD : RowKit.Hid (rreadS line = (zeroE, 4)) := Lib.hid (by rw [HD.out, hq]; rfl)
      go_wp2
      refine bodyPost_ret (v := .tuple #[eqV zeroE, .int .i64 4]) (by simp [results, Tryz.results43, go_sem, a0, a1, a2, a3, a4, a5, a6, eqV, zeroE]) rfl ⟨by rw [HDD.out]; rfl, ?_⟩
      exact set7 KY.out (by simp; try omega) _ _ _ _ _ _ _
    · have HDD : RowKit.Hid (rreadS line = (⟨n0, 0, n1, ⟨#[]⟩, 0, 0, n3⟩, 0)) := Lib.hid (by rw [HD.out, hq]; rfl)
      go_wp2
      refine bodyPost_ret (v := .tuple #[eqV ⟨n0, 0, n1, ⟨#[]⟩, 0, 0, n3⟩, .int .i64 0]) (by simp [results, Tryz.results43, go_sem, a0, a1, a2, a3, a4, a5, a6, eqV]) rfl ⟨by rw [HDD.out]; rfl, ?_⟩
      exact set7 KY.out (by simp; try omega) _ _ _ _ _ _ _
end Go.Proofs.YtcjpecdnenemaaaGreatDoor

namespace Go.Proofs.YtcjpecdnenemaaaGreatDoor
set_option linter.all false
open Go.RowKit Go.Shelf

set_option maxRecDepth 100000 in
set_option maxHeartbeats 16000000 in
theorem rread_7 (line : ByteArray) (hl : line.size ≤ 1000) (s0 s1 s2 s3 s4 s5 s6 : ByteArray) (hN : rwordsB line = [s0, s1, s2, s3, s4, s5, s6]) (w : World) :
    Calls Tryz.prog 43 #[.string line] w fun e w' => e = .returned (ofV (rreadS line)) ∧ Kept w w' := by
  obtain ⟨W0, hW0⟩ : ∃ W0, W0 = w.alloc (.cells #[.int .i64 0, .int .i64 0, .int .i64 0, .string ⟨#[]⟩, .int .i64 0, .int .i64 0, .int .i64 0] 37) := ⟨_, rfl⟩
  have KX0 : RowKit.Hid (Kept w W0) := Lib.hid (by rw [hW0]; exact (Kept.refl _).alloc _)
  have R0 : RowKit.Hid (RowC W0 w.heap.size [.int .i64 0, .int .i64 0, .int .i64 0, .string ⟨#[]⟩, .int .i64 0, .int .i64 0, .int .i64 0]) := Lib.hid (by rw [hW0]; exact RowC.new w [.int .i64 0, .int .i64 0, .int .i64 0, .string ⟨#[]⟩, .int .i64 0, .int .i64 0, .int .i64 0] 37)
  have Z0 : RowKit.Hid (W0.heap.size = w.heap.size + 1) := Lib.hid (by rw [hW0]; simp)
  have HW := Lib.hid hW0
  clear hW0
  have hsz : ∀ x ∈ rwordsB line, x.size ≤ 1000 := fun x hx => Nat.le_trans (rwords_size line x hx) hl
  rw [hN] at hsz
  obtain ⟨n0, hn0⟩ : ∃ n0 : Int, n0 = numR s0.data.toList := ⟨_, rfl⟩
  have N0 : RowKit.Hid (∀ W, Calls Tryz.prog 112 #[.string s0] W fun e w' => e = .returned (.int .i64 n0) ∧ Kept W w') := Lib.hid (fun W => by rw [hn0]; exact number_any s0 (hsz s0 (by simp)) W)
  obtain ⟨n1, hn1⟩ : ∃ n1 : Int, n1 = numR s1.data.toList := ⟨_, rfl⟩
  have N1 : RowKit.Hid (∀ W, Calls Tryz.prog 112 #[.string s1] W fun e w' => e = .returned (.int .i64 n1) ∧ Kept W w') := Lib.hid (fun W => by rw [hn1]; exact number_any s1 (hsz s1 (by simp)) W)
  obtain ⟨n4, hn4⟩ : ∃ n4 : Int, n4 = numR s4.data.toList := ⟨_, rfl⟩
  have N4 : RowKit.Hid (∀ W, Calls Tryz.prog 112 #[.string s4] W fun e w' => e = .returned (.int .i64 n4) ∧ Kept W w') := Lib.hid (fun W => by rw [hn4]; exact number_any s4 (hsz s4 (by simp)) W)
  obtain ⟨n5, hn5⟩ : ∃ n5 : Int, n5 = numR s5.data.toList := ⟨_, rfl⟩
  have N5 : RowKit.Hid (∀ W, Calls Tryz.prog 112 #[.string s5] W fun e w' => e = .returned (.int .i64 n5) ∧ Kept W w') := Lib.hid (fun W => by rw [hn5]; exact number_any s5 (hsz s5 (by simp)) W)
  obtain ⟨n6, hn6⟩ : ∃ n6 : Int, n6 = numR s6.data.toList := ⟨_, rfl⟩
  have N6 : RowKit.Hid (∀ W, Calls Tryz.prog 112 #[.string s6] W fun e w' => e = .returned (.int .i64 n6) ∧ Kept W w') := Lib.hid (fun W => by rw [hn6]; exact number_any s6 (hsz s6 (by simp)) W)
  have hX : rparseS (rwordsB line) = ⟨n0, n4, n1, s3, n5, n6, 0⟩ := by
    rw [hN, hn0, hn1, hn4, hn5, hn6]
    rfl
  obtain ⟨cb, hcb⟩ : ∃ cb, cb = formB ⟨n0, n4, n1, s3, n5, n6, 0⟩ := ⟨_, rfl⟩
  obtain ⟨lb, hlb⟩ : ∃ lb, lb = lineS ⟨n0, n4, n1, s3, n5, n6, 0⟩ := ⟨_, rfl⟩
  have HK : RowKit.Hid (∀ W, Calls Tryz.prog 41 #[eqV ⟨n0, n4, n1, s3, n5, n6, 0⟩] W fun e w' => e = .returned (.tuple #[.string (if cb = true then lb else ByteArray.empty), .int .i64 (errB cb)]) ∧ Kept W w') := Lib.hid (fun W => by rw [hcb, hlb]; exact rwrite_any ⟨n0, n4, n1, s3, n5, n6, 0⟩ (hsz s3 (by simp)) W)
  unfold eqV at HK
  dsimp only at HK
  have HD : RowKit.Hid (rreadS line = if (cb && lb.toList == line.toList) = true then (⟨n0, n4, n1, s3, n5, n6, 0⟩, 0) else (zeroE, 4)) := Lib.hid (by
    rw [rreadS_if, hX, hcb, hlb])
  have HR : RowKit.Hid (Calls Tryz.prog 111 #[.string line] W0 fun e w' => ∃ A n c, e = .returned (.slice A n c) ∧ StA_s w' A n c [s0, s1, s2, s3, s4, s5, s6] ∧ Kept W0 w') := Lib.hid (by
    have := words_any line hl W0
    unfold WordsRes at this
    rw [hN] at this
    exact this)
  clear hcb hlb hX hN hsz hn0 hn1 hn4 hn5 hn6
  go_enter Tryz.func43, Tryz.ntmps43
  go_upto_region 1 with (fail)
  rw [← HW.out]
  go_wp2_with fail
  refine HR.out.mono ?_
  rintro e w3 ⟨A, n, c, rfl, hi3, hk3⟩
  have hnn : n = 7 := by rw [← hi3.1]; rfl
  subst hnn
  have hnc := hi3.2.1
  have hcm := hi3.2.2.1
  obtain ⟨bk, ok, hA, g0⟩ := hi3.2.2.2 0 s0 rfl
  subst hA
  have g1 : w3.cell? ⟨bk, ok + 1, none⟩ = some (.string s1) := by
    obtain ⟨b', o', e', g'⟩ := hi3.2.2.2 1 s1 rfl
    cases e'; exact g'
  have g3 : w3.cell? ⟨bk, ok + 3, none⟩ = some (.string s3) := by
    obtain ⟨b', o', e', g'⟩ := hi3.2.2.2 3 s3 rfl
    cases e'; exact g'
  have g4 : w3.cell? ⟨bk, ok + 4, none⟩ = some (.string s4) := by
    obtain ⟨b', o', e', g'⟩ := hi3.2.2.2 4 s4 rfl
    cases e'; exact g'
  have g5 : w3.cell? ⟨bk, ok + 5, none⟩ = some (.string s5) := by
    obtain ⟨b', o', e', g'⟩ := hi3.2.2.2 5 s5 rfl
    cases e'; exact g'
  have g6 : w3.cell? ⟨bk, ok + 6, none⟩ = some (.string s6) := by
    obtain ⟨b', o', e', g'⟩ := hi3.2.2.2 6 s6 rfl
    cases e'; exact g'
  have K3 := Lib.hid hk3
  have R3 := Lib.hid (R0.out.kept hk3)
  have KX3 := Lib.hid (KX0.out.trans hk3)
  clear hi3 hk3
  rw [Nat.add_zero] at g0
  go_upto_region 4 with (fail)
  go_cut [5] (fun sa wx => ∃ bx, sa = .pointer (some ⟨bx, 0, none⟩) ∧ w3.heap.size ≤ bx ∧ RowC wx bx [.int .i64 n0, .int .i64 0, .int .i64 n1, .string ⟨#[]⟩, .int .i64 0, .int .i64 0, .int .i64 0] ∧ Kept w3 wx)
  case first =>
    have SB : RowKit.Hid (∀ W, Kept w3 W → W.cell? ⟨bk, ok, none⟩ = some (.string s0) ∧ W.cell? ⟨bk, ok + 1, none⟩ = some (.string s1) ∧ Kept w3 W) := Lib.hid (fun W hW => ⟨(hW.cells _ _ (cell_lt g0)).trans g0, (hW.cells _ _ (cell_lt g1)).trans g1, hW⟩)
    have kd : Kept w3 w3.drew := (Kept.refl w3).drew
    have kda : Kept w3 ((w3.alloc (.cells #[.int .i64 0, .int .i64 0, .int .i64 0, .string ⟨#[]⟩, .int .i64 0, .int .i64 0, .int .i64 0] 37)).drew) := ((Kept.refl w3).alloc _).drew
    have SD := Lib.hid (SB.out _ kd)
    have SDA := Lib.hid (SB.out _ kda)
    go_region_held3 (fun W => W.cell? ⟨bk, ok, none⟩ = some (.string s0) ∧ W.cell? ⟨bk, ok + 1, none⟩ = some (.string s1) ∧ Kept w3 W)
      (first
        | (with_reducible exact SD.out)
        | (with_reducible exact SDA.out)
        | (with_reducible exact SB.out _ kk6)
        | (with_reducible exact SB.out _ kk5)
        | (with_reducible exact SB.out _ (kk6.alloc _))
        | (with_reducible exact SB.out _ (kk5.alloc _))
        | (with_reducible exact SB.out _ (set7 kk6 (Nat.le_refl _) _ _ _ _ _ _ _))
        | (with_reducible exact SB.out _ (set7 kk6 kk5.size _ _ _ _ _ _ _))
        | (with_reducible exact SB.out _ (set7 (kk6.alloc _) kk6.size _ _ _ _ _ _ _))
        | fail)
      (first
        | (go_at_call 112; (first | (with_reducible refine (N0.out _).mono ?_) | (with_reducible refine (N1.out _).mono ?_)); rintro e w5 ⟨rfl, hk5⟩; have kk5 : Kept w3 w5 := (by with_reducible exact kd.trans hk5))
        | (go_at_call 112; (first | (with_reducible refine (N0.out _).mono ?_) | (with_reducible refine (N1.out _).mono ?_)); rintro e w5 ⟨rfl, hk5⟩; have kk5 : Kept w3 w5 := (by with_reducible exact kda.trans hk5); have rz5 := ((RowC.new w3 [.int .i64 0, .int .i64 0, .int .i64 0, .string ⟨#[]⟩, .int .i64 0, .int .i64 0, .int .i64 0] 37).drew).kept hk5; have z0 := (rz5 0 _ rfl).1; have z1 := (rz5 1 _ rfl).1; have z2 := (rz5 2 _ rfl).1; have z3 := (rz5 3 _ rfl).1; have z4 := (rz5 4 _ rfl).1; have z5 := (rz5 5 _ rfl).1; have z6 := (rz5 6 _ rfl).1; have y0 := (rz5 0 _ rfl).2; have y1 := (rz5 1 _ rfl).2; have y2 := (rz5 2 _ rfl).2; have y3 := (rz5 3 _ rfl).2; have y4 := (rz5 4 _ rfl).2; have y5 := (rz5 5 _ rfl).2; have y6 := (rz5 6 _ rfl).2; have lz := cell_lt z0)
        | (go_at_call 112; (first | (with_reducible refine (N0.out _).mono ?_) | (with_reducible refine (N1.out _).mono ?_)); rintro e w6 ⟨rfl, hk6⟩; have kk6 : Kept w3 w6 := (by with_reducible exact kk5.trans hk6); first | (have rz6 := rz5.kept hk6; have z0 := (rz6 0 _ rfl).1; have z1 := (rz6 1 _ rfl).1; have z2 := (rz6 2 _ rfl).1; have z3 := (rz6 3 _ rfl).1; have z4 := (rz6 4 _ rfl).1; have z5 := (rz6 5 _ rfl).1; have z6 := (rz6 6 _ rfl).1; have y0 := (rz6 0 _ rfl).2; have y1 := (rz6 1 _ rfl).2; have y2 := (rz6 2 _ rfl).2; have y3 := (rz6 3 _ rfl).2; have y4 := (rz6 4 _ rfl).2; have y5 := (rz6 5 _ rfl).2; have y6 := (rz6 6 _ rfl).2; have lz := cell_lt z0) | skip)
        | (go_at_call 112; (first | (with_reducible refine (N0.out _).mono ?_) | (with_reducible refine (N1.out _).mono ?_)); rintro e w6 ⟨rfl, hk6⟩; have kk6 : Kept w3 w6 := (by with_reducible exact (kk5.alloc _).trans hk6); have rz6 := (RowC.new w5 [.int .i64 0, .int .i64 0, .int .i64 0, .string ⟨#[]⟩, .int .i64 0, .int .i64 0, .int .i64 0] 37).kept hk6; have z0 := (rz6 0 _ rfl).1; have z1 := (rz6 1 _ rfl).1; have z2 := (rz6 2 _ rfl).1; have z3 := (rz6 3 _ rfl).1; have z4 := (rz6 4 _ rfl).1; have z5 := (rz6 5 _ rfl).1; have z6 := (rz6 6 _ rfl).1; have y0 := (rz6 0 _ rfl).2; have y1 := (rz6 1 _ rfl).2; have y2 := (rz6 2 _ rfl).2; have y3 := (rz6 3 _ rfl).2; have y4 := (rz6 4 _ rfl).2; have y5 := (rz6 5 _ rfl).2; have y6 := (rz6 6 _ rfl).2; have lz := cell_lt z0)
        | fail)
    all_goals go_wp2
    all_goals go_meet
    all_goals first
      | (with_reducible exact ⟨w6.heap.size, rfl, kk6.size, RowC.new w6 [.int .i64 n0, .int .i64 0, .int .i64 n1, .string ⟨#[]⟩, .int .i64 0, .int .i64 0, .int .i64 0] 37, kk6.alloc _⟩)
      | (with_reducible exact ⟨w5.heap.size, rfl, kk5.size, rput7 rz6 _ _ _ _ _ _ _, set7 kk6 kk5.size _ _ _ _ _ _ _⟩)
      | (with_reducible exact ⟨w3.heap.size, rfl, Nat.le_refl _, rput7 rz6 _ _ _ _ _ _ _, set7 kk6 (Nat.le_refl _) _ _ _ _ _ _ _⟩)
  obtain ⟨bx, rfl, hbx, rx, kx⟩ := hcut
  obtain ⟨w4, rfl⟩ : ∃ w4, w4 = wc := ⟨_, rfl⟩
  have RX := Lib.hid rx
  have KX := Lib.hid kx
  clear rx kx
  have h3 := (KX.out.cells _ _ (cell_lt g3)).trans g3
  have x3 := (RX.out 3 _ rfl).1
  have xf3 := (RX.out 3 _ rfl).2
  have lx := cell_lt x3
  go_upto_region 7 with (fail)
  go_cut [5] (fun sa wx => sa = .pointer (some ⟨bx, 0, none⟩) ∧ RowC wx bx [.int .i64 n0, .int .i64 0, .int .i64 n1, .string s3, .int .i64 0, .int .i64 0, .int .i64 0] ∧ Kept w3 wx)
  case first =>
    go_wp2
    go_meet
    exact ⟨rfl, by simpa using RX.out.put (j := 3) (by simp) (.string s3), KX.out.setCell hbx _⟩
  obtain ⟨rfl, rx, kx⟩ := hcut
  obtain ⟨w5, rfl⟩ : ∃ w5, w5 = wc := ⟨_, rfl⟩
  have RA := Lib.hid rx
  have KA := Lib.hid kx
  clear rx kx h3 x3 xf3 lx
  have h4 := (KA.out.cells _ _ (cell_lt g4)).trans g4
  go_upto_region 8 with (fail)
  go_cut [5] (fun sa wx => sa = .pointer (some ⟨bx, 0, none⟩) ∧ RowC wx bx [.int .i64 n0, .int .i64 n4, .int .i64 n1, .string s3, .int .i64 0, .int .i64 0, .int .i64 0] ∧ Kept w3 wx)
  case first =>
    go_wp2_with fail
    refine (N4.out _).mono ?_
    rintro e w6 ⟨rfl, hk6⟩
    have rz := RA.out.kept hk6
    have z1 := (rz 1 _ rfl).1
    have y1 := (rz 1 _ rfl).2
    have lz := cell_lt z1
    have K6 := Lib.hid (KA.out.trans hk6)
    clear h4
    go_wp2
    go_meet
    exact ⟨rfl, by simpa using rz.put (j := 1) (by simp) (.int .i64 n4), K6.out.setCell hbx _⟩
  obtain ⟨rfl, rx, kx⟩ := hcut
  obtain ⟨w6, rfl⟩ : ∃ w6, w6 = wc := ⟨_, rfl⟩
  have RB := Lib.hid rx
  have KB := Lib.hid kx
  clear rx kx h4
  go_upto_region 9 with (fail)
  go_cut [5] (fun sa wx => sa = .pointer (some ⟨bx, 0, none⟩) ∧ RowC wx bx [.int .i64 n0, .int .i64 n4, .int .i64 n1, .string s3, .int .i64 n5, .int .i64 n6, .int .i64 0] ∧ Kept w3 wx)
  case first =>
    have SB : RowKit.Hid (∀ W, Kept w3 W → W.cell? ⟨bk, ok + 5, none⟩ = some (.string s5) ∧ W.cell? ⟨bk, ok + 6, none⟩ = some (.string s6) ∧ Kept w3 W) := Lib.hid (fun W hW => ⟨(hW.cells _ _ (cell_lt g5)).trans g5, (hW.cells _ _ (cell_lt g6)).trans g6, hW⟩)
    have kd : Kept w6 w6.drew := (Kept.refl w6).drew
    have kd3 := KB.out.trans kd
    have SD := Lib.hid (SB.out _ kd3)
    obtain ⟨q5, q6, -⟩ := SB.out _ KB.out
    have lq := cell_lt q5
    go_region_held3 (fun W => W.cell? ⟨bk, ok + 5, none⟩ = some (.string s5) ∧ W.cell? ⟨bk, ok + 6, none⟩ = some (.string s6) ∧ Kept w3 W)
      (first
        | (with_reducible exact SD.out)
        | (with_reducible exact SB.out _ kk8)
        | (with_reducible exact SB.out _ kk7)
        | (with_reducible exact SB.out _ ((kk8.setCell hbx _).setCell hbx _))
        | fail)
      (first
        | (go_at_call 112; (first | (with_reducible refine (N5.out _).mono ?_) | (with_reducible refine (N6.out _).mono ?_)); rintro e w7 ⟨rfl, hk7⟩; have kj7 : Kept w6 w7 := (by with_reducible exact kd.trans hk7); have kk7 := KB.out.trans kj7; have rz7 := RB.out.kept kj7)
        | (go_at_call 112; (first | (with_reducible refine (N5.out _).mono ?_) | (with_reducible refine (N6.out _).mono ?_)); rintro e w8 ⟨rfl, hk8⟩; have kk8 : Kept w3 w8 := (by with_reducible exact kk7.trans hk8); have rz8 := rz7.kept hk8; have z4 := (rz8 4 _ rfl).1; have z5 := (rz8 5 _ rfl).1; have y4 := (rz8 4 _ rfl).2; have y5 := (rz8 5 _ rfl).2; have lz := cell_lt z4)
        | fail)
    all_goals go_wp2
    all_goals go_meet
    all_goals exact ⟨rfl, by simpa using (rz8.put (j := 4) (by simp) (.int .i64 n5)).put (j := 5) (by simp) (.int .i64 n6), (kk8.setCell hbx _).setCell hbx _⟩
  obtain ⟨rfl, rx, kx⟩ := hcut
  obtain ⟨w9, rfl⟩ : ∃ w9, w9 = wc := ⟨_, rfl⟩
  have R5 := Lib.hid rx
  have K5 := Lib.hid kx
  clear rx kx g0 g1 g3 g4 g5 g6
  have x0 := (R5.out 0 _ rfl).1
  have x1 := (R5.out 1 _ rfl).1
  have x2 := (R5.out 2 _ rfl).1
  have x3 := (R5.out 3 _ rfl).1
  have x4 := (R5.out 4 _ rfl).1
  have x5 := (R5.out 5 _ rfl).1
  have x6 := (R5.out 6 _ rfl).1
  have lx := cell_lt x0
  go_wp2_with fail
  refine (HK.out _).mono ?_
  rintro e w7 ⟨rfl, hk7⟩
  have K7 := Lib.hid hk7
  have K37 := Lib.hid (K5.out.trans hk7)
  have R7 := Lib.hid (R3.out.kept K37.out)
  have RX7 := Lib.hid (R5.out.kept hk7)
  clear hk7 x0 x1 x2 x3 x4 x5 x6 lx
  have a0 := (R7.out 0 _ rfl).1
  have a1 := (R7.out 1 _ rfl).1
  have a2 := (R7.out 2 _ rfl).1
  have a3 := (R7.out 3 _ rfl).1
  have a4 := (R7.out 4 _ rfl).1
  have a5 := (R7.out 5 _ rfl).1
  have a6 := (R7.out 6 _ rfl).1
  have f0 := (R7.out 0 _ rfl).2
  have f1 := (R7.out 1 _ rfl).2
  have f2 := (R7.out 2 _ rfl).2
  have f3 := (R7.out 3 _ rfl).2
  have f4 := (R7.out 4 _ rfl).2
  have f5 := (R7.out 5 _ rfl).2
  have f6 := (R7.out 6 _ rfl).2
  have la := cell_lt a0
  have KY := Lib.hid (KX3.out.trans K37.out)
  have he1 : ((1 : Int) != 0) = true := by decide
  have he0 : ((0 : Int) != 0) = false := by decide
  have hne : bx ≠ w.heap.size := by have := K3.out.size; have := Z0.out; omega
  cases cb
  · have HDD : RowKit.Hid (rreadS line = (zeroE, 4)) := Lib.hid (by rw [HD.out]; rfl)
    have e1 : errB false = 1 := rfl
    rw [e1]
    go_wp2
    refine bodyPost_ret (v := .tuple #[eqV zeroE, .int .i64 4]) (by simp [results, Tryz.results43, go_sem, a0, a1, a2, a3, a4, a5, a6, eqV, zeroE]) rfl ⟨by rw [HDD.out]; rfl, ?_⟩
    exact set7 KY.out (by simp; try omega) _ _ _ _ _ _ _
  · have e1 : errB true = 0 := rfl
    rw [e1]
    have x0 := (RX7.out 0 _ rfl).1
    have x1 := (RX7.out 1 _ rfl).1
    have x2 := (RX7.out 2 _ rfl).1
    have x3 := (RX7.out 3 _ rfl).1
    have x4 := (RX7.out 4 _ rfl).1
    have x5 := (RX7.out 5 _ rfl).1
    have x6 := (RX7.out 6 _ rfl).1
    have lx := cell_lt x0
    have e2 : (if true = true then lb else ByteArray.empty) = lb := rfl
    rw [e2]
    rcases hq : (lb.toList == line.toList) with _ | _
    · have HDD : RowKit.Hid (rreadS line = (zeroE, 4)) := Lib.hid (by rw [HD.out, hq]; rfl)
      go_wp2
      refine bodyPost_ret (v := .tuple #[eqV zeroE, .int .i64 4]) (by simp [results, Tryz.results43, go_sem, a0, a1, a2, a3, a4, a5, a6, eqV, zeroE]) rfl ⟨by rw [HDD.out]; rfl, ?_⟩
      exact set7 KY.out (by simp; try omega) _ _ _ _ _ _ _
    · have HDD : RowKit.Hid (rreadS line = (⟨n0, n4, n1, s3, n5, n6, 0⟩, 0)) := Lib.hid (by rw [HD.out, hq]; rfl)
      go_wp2
      refine bodyPost_ret (v := .tuple #[eqV ⟨n0, n4, n1, s3, n5, n6, 0⟩, .int .i64 0]) (by simp [results, Tryz.results43, go_sem, a0, a1, a2, a3, a4, a5, a6, eqV]) rfl ⟨by rw [HDD.out]; rfl, ?_⟩
      exact set7 KY.out (by simp; try omega) _ _ _ _ _ _ _
theorem rread_any (line : ByteArray) (hl : line.size ≤ 1000) (w : World) :
    Calls Tryz.prog 43 #[.string line] w fun e w' => e = .returned (ofV (readS line)) ∧ Kept w w' := by
  rw [← rreadS_eq]
  by_cases h4 : (rwordsB line).length = 4
  · obtain ⟨s0, s1, s2, s3, h⟩ : ∃ s0 s1 s2 s3, rwordsB line = [s0, s1, s2, s3] := by
      match rwordsB line, h4 with
      | [s0, s1, s2, s3], _ => exact ⟨_, _, _, _, rfl⟩
    exact rread_4 line hl s0 s1 s2 s3 h w
  by_cases h7 : (rwordsB line).length = 7
  · obtain ⟨s0, s1, s2, s3, s4, s5, s6, h⟩ : ∃ s0 s1 s2 s3 s4 s5 s6, rwordsB line = [s0, s1, s2, s3, s4, s5, s6] := by
      match rwordsB line, h7 with
      | [s0, s1, s2, s3, s4, s5, s6], _ => exact ⟨_, _, _, _, _, _, _, rfl⟩
    exact rread_7 line hl s0 s1 s2 s3 s4 s5 s6 h w
  exact rread_other line hl h4 h7 w
end Go.Proofs.YtcjpecdnenemaaaGreatDoor
