/- the reference's numbers -/
import Derived.Test.YtdeokdlkjgpffaaGreatDoorZb
namespace Go.Proofs.YtdeokdlkjgpffaaGreatDoor
set_option linter.all false
open Go.RowKit Go.Shelf
attribute [local go_sem] Oper.semAt_some

/-- the numbers of a line, as the reference reads them -/
def numF : List UInt8 → List Int → Nat → Nat → List Int
  | [], acc, n, len => if len < 1 ∨ 9 < len then [] else acc ++ [(n : Int)]
  | c :: cs, acc, n, len =>
    if c.toNat = 32 then (if len < 1 ∨ 9 < len then [] else numF cs (acc ++ [(n : Int)]) 0 0)
    else if c.toNat < 48 ∨ 57 < c.toNat ∨ 9 < len then [] else numF cs acc (10 * n + c.toNat - 48) (len + 1)
theorem numF_end_bad {acc : List Int} {n len : Nat} (h : len < 1 ∨ 9 < len) : numF [] acc n len = [] := by unfold numF; rw [if_pos h]
theorem numF_end {acc : List Int} {n len : Nat} (h : ¬ (len < 1 ∨ 9 < len)) : numF [] acc n len = acc ++ [(n : Int)] := by unfold numF; rw [if_neg h]
theorem numF_sep_bad {c : UInt8} {cs : List UInt8} {acc : List Int} {n len : Nat} (hc : c.toNat = 32) (h : len < 1 ∨ 9 < len) : numF (c :: cs) acc n len = [] := by unfold numF; rw [if_pos hc, if_pos h]
theorem numF_sep {c : UInt8} {cs : List UInt8} {acc : List Int} {n len : Nat} (hc : c.toNat = 32) (h : ¬ (len < 1 ∨ 9 < len)) : numF (c :: cs) acc n len = numF cs (acc ++ [(n : Int)]) 0 0 := by
  conv => lhs; unfold numF
  rw [if_pos hc, if_neg h]
theorem numF_bad {c : UInt8} {cs : List UInt8} {acc : List Int} {n len : Nat} (hc : c.toNat ≠ 32) (h : c.toNat < 48 ∨ 57 < c.toNat ∨ 9 < len) : numF (c :: cs) acc n len = [] := by unfold numF; rw [if_neg hc, if_pos h]
theorem numF_dig {c : UInt8} {cs : List UInt8} {acc : List Int} {n len : Nat} (hc : c.toNat ≠ 32) (h : ¬ (c.toNat < 48 ∨ 57 < c.toNat ∨ 9 < len)) : numF (c :: cs) acc n len = numF cs acc (10 * n + c.toNat - 48) (len + 1) := by
  conv => lhs; unfold numF
  rw [if_neg hc, if_neg h]
theorem pow_le9 {m L : Nat} (h : m < 10 ^ L) (hL : L ≤ 9) : m ≤ 999999999 := by
  have := Nat.pow_le_pow_right (show 0 < 10 by omega) hL
  omega
theorem pow_le10 {m L : Nat} (h : m < 10 ^ L) (hL : L ≤ 10) : m ≤ 9999999999 := by
  have := Nat.pow_le_pow_right (show 0 < 10 by omega) hL
  omega
theorem pow_next {m L d : Nat} (h : m < 10 ^ L) (hd : d ≤ 9) : 10 * m + d < 10 ^ (L + 1) := by
  rw [Nat.pow_succ]
  omega
theorem drop_byte {s : ByteArray} {k : Nat} (h : k < s.size) : s.data.toList.drop k = s[k] :: s.data.toList.drop (k + 1) := by
  rw [List.drop_eq_getElem_cons (by simpa using h)]
  rfl
def NumsRes (w : World) (T : List Int) (e : Ending) (w' : World) : Prop := ∃ A n c, e = .returned (.slice A n c) ∧ IntA w' A n c T ∧ Kept w w'

set_option maxRecDepth 100000 in
set_option maxHeartbeats 8000000 in
theorem numbers_any (s : ByteArray) (hs : s.size ≤ 1000) (w : World) :
    Calls Tryz.prog 29 #[.string s] w (NumsRes w (numF s.data.toList [] 0 0)) := by
  obtain ⟨T, hT⟩ : ∃ T, T = numF s.data.toList [] 0 0 := ⟨_, rfl⟩
  rw [← hT]
  have HT := Lib.hid hT
  clear hT
  obtain ⟨i0, hnf, hz0, hz1, hz2⟩ := info_parts info3N
  go_enter Tryz.func29, Tryz.ntmps29
  go_wp2_with fail
  go_loopw [3, 4, 5, 6] (fun v nn ll i wr => ∃ (k m L : Nat) (acc : List Int), k ≤ s.size + 1 ∧ i = .int .i64 k ∧ nn = .int .i64 m ∧ ll = .int .i64 L ∧ m < 10 ^ L ∧ L ≤ 10 ∧ acc.length ≤ k ∧ Kept w wr ∧ wr.ownsRow w.heap.size 3 1 v acc.length (acc.flatMap intC) ∧ (k ≤ s.size → numF (s.data.toList.drop k) acc m L = T) ∧ (k = s.size + 1 → acc = T)) (fun _ _ _ i _ => s.size + 1 - (intOf i).toNat)
  case atStart => exact ⟨0, 0, 0, [], by omega, by first | rfl | go_num, by first | rfl | go_num, by first | rfl | go_num, by decide, by omega, by simp, Kept.refl _, World.ownsRow_nil _ _ _ _, fun _ => by rw [HT.out]; rfl, fun h => by omega⟩
  case round =>
    obtain ⟨k, m, L, acc, hk, rfl, rfl, rfl, hm, hL, hacc, hkr, hown, hnum, hend⟩ := hrel
    have HM := Lib.hid hm
    have HOWN := Lib.hid hown
    have HKR := Lib.hid hkr
    have HNUM := Lib.hid hnum
    have HEND := Lib.hid hend
    have HACC := Lib.hid hacc
    have hzr := hkr.size
    have hm10 := pow_le10 hm hL
    clear hm hown hkr hnum hend hacc
    by_cases hk1 : k ≤ s.size
    · by_cases hk2 : k < s.size
      · have HD := Lib.hid (drop_byte hk2)
        obtain ⟨b, hb⟩ : ∃ b, b = s[k] := ⟨_, rfl⟩
        have HB := Lib.hid hb
        have hbl := b.toNat_lt
        rw [hb] at hbl
        have hi0 : (0 : Int) ≤ (k : Int) := by omega
        have hi1 : (k : Int) < (s.size : Int) := by omega
        have hne : ((k : Int) == (s.size : Int)) = false := by simp; omega
        have hle : decide ((k : Int) ≤ (s.size : Int)) = true := decide_eq_true (by omega)
        by_cases h32 : s[k].toNat = 32
        · have h32b : ((s[k].toNat : Int) == 32) = true := by simp [h32]
          have HC32 : RowKit.Hid (b.toNat = 32) := Lib.hid (by rw [hb]; exact h32)
          clear hb h32
          by_cases hl1 : 1 ≤ L ∧ L ≤ 9
          · obtain ⟨l1, l2⟩ := hl1
            have c1 : decide ((L : Int) < 1) = false := decide_eq_false (by omega)
            have c2 : decide ((9 : Int) < (L : Int)) = false := decide_eq_false (by omega)
            have HNX : RowKit.Hid (numF (s.data.toList.drop (k + 1)) (acc ++ [(m : Int)]) 0 0 = T) := Lib.hid (by
              have h := HNUM.out hk1
              rw [HD.out, ← HB.out, numF_sep HC32.out (by omega)] at h
              exact h)
            have HA3 : RowKit.Hid (acc.length + 1 ≤ maxLen) := Lib.hid (by have := HACC.out; unfold maxLen; omega)
            have HA4 : RowKit.Hid ((acc.length + 1) * 8 ≤ 140737488355328) := Lib.hid (by have := HACC.out; omega)
            have HO9 := Lib.hid (own_kept HOWN.out ((Kept.refl wr).alloc (.cells #[.int .i64 m] 3)))
            have HN9 := Lib.hid (show ∀ j u, (intC (m : Int))[j]? = some u → (wr.alloc (.cells #[.int .i64 m] 3)).cell? ((⟨wr.heap.size, 0, none⟩ : Addr).add j) = some u from World.news_of_block (heap_alloc_new wr _))
            have HZ := Lib.hid (HKR.out.alloc (.cells #[.int .i64 m] 3)).size
            have HSN : RowKit.Hid ((acc ++ [(m : Int)]).flatMap intC = acc.flatMap intC ++ intC (m : Int)) := Lib.hid (by simp)
            go_wp2_with (at_builtin; refine wpList_append_lies _ rfl (.tmp 29) (.tmp 31) 52 rfl w.heap.size 3 i0 _ 1 8 Tryz.underlying52 hnf hz0 hz1 hz2 rfl (by decide) _ acc.length _ rfl HO9.out ⟨wr.heap.size, 0, none⟩ 1 1 (intC (m : Int)) rfl rfl HN9.out (int_one _) (by decide) HA3.out HA4.out HZ.out _ rfl ?_; intro g cap w10 hown10 hgrow10 hat10 hlt10)
            have HO10 := Lib.hid hown10
            have HK10 := Lib.hid ((HKR.out.alloc (.cells #[.int .i64 m] 3)).grown hgrow10 (fun j ej => own_row HOWN.out j ej))
            clear hown10 hgrow10 hat10 hlt10
            go_roundw
            case rel =>
              refine ⟨k + 1, 0, 0, acc ++ [(m : Int)], by omega, by go_num, by first | rfl | go_num, by first | rfl | go_num, by decide, by omega, by have := HACC.out; simp; omega, HK10.out, ?_, fun _ => HNX.out, fun h => by omega⟩
              rw [HSN.out, List.length_append]
              exact HO10.out
            case measure => simp [intOf] <;> omega
          · have h3 : L < 1 ∨ 9 < L := by omega
            have HNX : RowKit.Hid (T = []) := Lib.hid (by
              have h := HNUM.out hk1
              rw [HD.out, ← HB.out, numF_sep_bad HC32.out h3] at h
              exact h.symm)
            rcases h3 with h3 | h3
            · have c1 : decide ((L : Int) < 1) = true := decide_eq_true (by omega)
              go_wp2
              go_ret
              exact ⟨none, 0, 0, rfl, by rw [HNX.out]; exact IntA.nil _, HKR.out⟩
            · have c1 : decide ((L : Int) < 1) = false := decide_eq_false (by omega)
              have c2 : decide ((9 : Int) < (L : Int)) = true := decide_eq_true (by omega)
              go_wp2
              go_ret
              exact ⟨none, 0, 0, rfl, by rw [HNX.out]; exact IntA.nil _, HKR.out⟩
        · have h32b : ((s[k].toNat : Int) == 32) = false := by simp; omega
          have HC32 : RowKit.Hid (b.toNat ≠ 32) := Lib.hid (by rw [hb]; exact h32)
          by_cases g1 : s[k].toNat < 48
          · have HNX : RowKit.Hid (T = []) := Lib.hid (by
              have h := HNUM.out hk1
              rw [HD.out, ← HB.out, numF_bad HC32.out (by rw [hb]; omega)] at h
              exact h.symm)
            have d1 : decide ((s[k].toNat : Int) < 48) = true := decide_eq_true (by omega)
            clear hb h32 g1
            go_wp2
            go_ret
            exact ⟨none, 0, 0, rfl, by rw [HNX.out]; exact IntA.nil _, HKR.out⟩
          by_cases g2 : 57 < s[k].toNat
          · have HNX : RowKit.Hid (T = []) := Lib.hid (by
              have h := HNUM.out hk1
              rw [HD.out, ← HB.out, numF_bad HC32.out (by rw [hb]; omega)] at h
              exact h.symm)
            have d1 : decide ((s[k].toNat : Int) < 48) = false := decide_eq_false (by omega)
            have d2 : decide ((57 : Int) < (s[k].toNat : Int)) = true := decide_eq_true (by omega)
            clear hb h32 g1 g2
            go_wp2
            go_ret
            exact ⟨none, 0, 0, rfl, by rw [HNX.out]; exact IntA.nil _, HKR.out⟩
          have d1 : decide ((s[k].toNat : Int) < 48) = false := decide_eq_false (by omega)
          have d2 : decide ((57 : Int) < (s[k].toNat : Int)) = false := decide_eq_false (by omega)
          by_cases g3 : 9 < L
          · have HNX : RowKit.Hid (T = []) := Lib.hid (by
              have h := HNUM.out hk1
              rw [HD.out, ← HB.out, numF_bad HC32.out (by omega)] at h
              exact h.symm)
            have d3 : decide ((9 : Int) < (L : Int)) = true := decide_eq_true (by omega)
            clear hb h32 g1 g2 g3
            go_wp2
            go_ret
            exact ⟨none, 0, 0, rfl, by rw [HNX.out]; exact IntA.nil _, HKR.out⟩
          · have d3 : decide ((9 : Int) < (L : Int)) = false := decide_eq_false (by omega)
            have hm9 := pow_le9 HM.out (by omega)
            have HNX : RowKit.Hid (numF (s.data.toList.drop (k + 1)) acc (10 * m + s[k].toNat - 48) (L + 1) = T) := Lib.hid (by
              have h := HNUM.out hk1
              rw [HD.out, ← HB.out, numF_dig HC32.out (by rw [hb]; omega)] at h
              rw [← hb]
              exact h)
            have HMX : RowKit.Hid (10 * m + s[k].toNat - 48 < 10 ^ (L + 1)) := Lib.hid (by
              have := pow_next (d := s[k].toNat - 48) HM.out (by omega)
              omega)
            have w1 : IntKind.i64.wrap (10 * (m : Int)) = 10 * (m : Int) := IntWalk.i64_in _ (by omega)
            have w2 : IntKind.i64.wrap (10 * (m : Int) + (s[k].toNat : Int)) = 10 * (m : Int) + (s[k].toNat : Int) := IntWalk.i64_in _ (by omega)
            have w3 : IntKind.i64.wrap (10 * (m : Int) + (s[k].toNat : Int) - 48) = 10 * (m : Int) + (s[k].toNat : Int) - 48 := IntWalk.i64_in _ (by omega)
            have w4 : IntKind.i64.wrap (s[k].toNat : Int) = (s[k].toNat : Int) := IntWalk.i64_in _ (by omega)
            have HG : RowKit.Hid (48 ≤ s[k].toNat) := Lib.hid (by omega)
            clear hb h32 g1 g2
            go_wp2
            go_roundw
            case rel =>
              refine ⟨k + 1, 10 * m + s[k].toNat - 48, L + 1, acc, by omega, by go_num, ?_, by go_num, HMX.out, by omega, Nat.le_succ_of_le HACC.out, HKR.out, HOWN.out, fun _ => HNX.out, fun h => by omega⟩
              have := HG.out
              congr 1
              omega
            case measure => simp [intOf] <;> omega
      · obtain rfl : k = s.size := by omega
        have hne : ((s.size : Int) == (s.size : Int)) = true := by simp
        have HDN : RowKit.Hid (s.data.toList.drop s.size = []) := Lib.hid (by rw [List.drop_eq_nil_iff]; simp)
        by_cases hl1 : 1 ≤ L ∧ L ≤ 9
        · obtain ⟨l1, l2⟩ := hl1
          have c1 : decide ((L : Int) < 1) = false := decide_eq_false (by omega)
          have c2 : decide ((9 : Int) < (L : Int)) = false := decide_eq_false (by omega)
          have HNX : RowKit.Hid (acc ++ [(m : Int)] = T) := Lib.hid (by
            have h := HNUM.out hk1
            rw [HDN.out, numF_end (by omega)] at h
            exact h)
          have HA3 : RowKit.Hid (acc.length + 1 ≤ maxLen) := Lib.hid (by have := HACC.out; unfold maxLen; omega)
          have HA4 : RowKit.Hid ((acc.length + 1) * 8 ≤ 140737488355328) := Lib.hid (by have := HACC.out; omega)
          have HO9 := Lib.hid (own_kept HOWN.out ((Kept.refl wr).alloc (.cells #[.int .i64 m] 3)))
          have HN9 := Lib.hid (show ∀ j u, (intC (m : Int))[j]? = some u → (wr.alloc (.cells #[.int .i64 m] 3)).cell? ((⟨wr.heap.size, 0, none⟩ : Addr).add j) = some u from World.news_of_block (heap_alloc_new wr _))
          have HZ := Lib.hid (HKR.out.alloc (.cells #[.int .i64 m] 3)).size
          have HSN : RowKit.Hid ((acc ++ [(m : Int)]).flatMap intC = acc.flatMap intC ++ intC (m : Int)) := Lib.hid (by simp)
          go_wp2_with (at_builtin; refine wpList_append_lies _ rfl (.tmp 29) (.tmp 31) 52 rfl w.heap.size 3 i0 _ 1 8 Tryz.underlying52 hnf hz0 hz1 hz2 rfl (by decide) _ acc.length _ rfl HO9.out ⟨wr.heap.size, 0, none⟩ 1 1 (intC (m : Int)) rfl rfl HN9.out (int_one _) (by decide) HA3.out HA4.out HZ.out _ rfl ?_; intro g cap w10 hown10 hgrow10 hat10 hlt10)
          have HO10 := Lib.hid hown10
          have HK10 := Lib.hid ((HKR.out.alloc (.cells #[.int .i64 m] 3)).grown hgrow10 (fun j ej => own_row HOWN.out j ej))
          clear hown10 hgrow10 hat10 hlt10
          go_roundw
          case rel =>
            refine ⟨s.size + 1, 0, 0, acc ++ [(m : Int)], by omega, by go_num, by first | rfl | go_num, by first | rfl | go_num, by decide, by omega, by have := HACC.out; simp; omega, HK10.out, ?_, fun h => by omega, fun _ => HNX.out⟩
            rw [HSN.out, List.length_append]
            exact HO10.out
          case measure => simp [intOf] <;> omega
        · have h3 : L < 1 ∨ 9 < L := by omega
          have HNX : RowKit.Hid (T = []) := Lib.hid (by
            have h := HNUM.out hk1
            rw [HDN.out, numF_end_bad h3] at h
            exact h.symm)
          rcases h3 with h3 | h3
          · have c1 : decide ((L : Int) < 1) = true := decide_eq_true (by omega)
            go_wp2
            go_ret
            exact ⟨none, 0, 0, rfl, by rw [HNX.out]; exact IntA.nil _, HKR.out⟩
          · have c1 : decide ((L : Int) < 1) = false := decide_eq_false (by omega)
            have c2 : decide ((9 : Int) < (L : Int)) = true := decide_eq_true (by omega)
            go_wp2
            go_ret
            exact ⟨none, 0, 0, rfl, by rw [HNX.out]; exact IntA.nil _, HKR.out⟩
    · obtain rfl : k = s.size + 1 := by omega
      have hown := HOWN.out
      have HTT := Lib.hid (HEND.out rfl)
      obtain ⟨A7, c7, rfl, hs7⟩ := own_outK intC_len (by decide) hown
      have HS7 := Lib.hid (sli_ints hs7)
      have hle : decide (((s.size + 1 : Nat) : Int) ≤ (s.size : Int)) = false := decide_eq_false (by omega)
      clear hown hs7
      go_wp2
      go_ret
      exact ⟨A7, acc.length, c7, rfl, by rw [← HTT.out]; exact HS7.out, HKR.out⟩
end Go.Proofs.YtdeokdlkjgpffaaGreatDoor
