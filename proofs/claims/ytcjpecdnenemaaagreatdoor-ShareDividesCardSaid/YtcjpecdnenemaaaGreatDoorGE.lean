/-
  Names.
  Records of the table: CheckEqual.
  CheckEqual.
  A table in memory; slices.IndexFunc, slices.ContainsFunc over it.
  refusal.
  refusal at every table; Check.
-/
import Derived.Test.YtcjpecdnenemaaaGreatDoorGA
import Derived.Test.YtcjpecdnenemaaaGreatDoorGB
import Derived.Laws.StructEq
import Derived.Shelf.Abstract
import Derived.LoopTactic
import Derived.IntWalk
import Derived.Deep.RegionWith
namespace Go.Proofs.YtcjpecdnenemaaaGreatDoor
set_option linter.unusedVariables false
open Go.RowKit

def letB (n : Int) : Bool := inB n 97 122
def chrB (n : Int) : Bool := letB n || inB n 48 57 || decide (n = 45)
/-- the byte at an index; 0 beyond -/
def byteAt (s : ByteArray) (i : Nat) : Int := ((s.data.toList.map (fun c => (c.toNat : Int)))[i]?).getD 0
def nameB (s : ByteArray) : Bool := inB s.size 1 24 && letB (byteAt s 0) && decide (∀ i, i < s.size → chrB (byteAt s i) = true)
theorem byteAt_eq (s : ByteArray) (i : Nat) (h : i < s.size) : byteAt s i = ((s[i]).toNat : Int) := by
  unfold byteAt
  have hl : i < s.data.size := h
  simp [Array.getElem?_eq_getElem hl]
  rfl

theorem isLetter_any (n : Int) (h0 : 0 ≤ n) (h1 : n ≤ 255) (w : World) :
    Calls Tryz.prog 186 #[.int .u8 n] w fun e w' => e = .returned (.bool (letB n)) ∧ w = w' := by
  by_cases a : 97 ≤ n
  · go_enter Tryz.func186, Tryz.ntmps186
    go_wp2
    go_ret
    exact ⟨ret_bool (by unfold letB; rw [Bool.eq_iff_iff, inB_iff]; simp; omega), rfl⟩
  · go_enter Tryz.func186, Tryz.ntmps186
    go_wp2
    go_ret
    exact ⟨ret_bool (by unfold letB; rw [Bool.eq_iff_iff, inB_iff]; simp; omega), rfl⟩

theorem isName_any (s : ByteArray) (hs : s.size ≤ 9223372036854775807) (w : World) :
    Calls Tryz.prog 159 #[.string s] w fun e w' => e = .returned (.bool (nameB s)) ∧ w = w' := by
  by_cases h1 : inB s.size 1 24 = true
  · have b1 := inB_iff.1 h1
    obtain ⟨b1l, b1h⟩ := b1
    have hs0 : 0 < s.size := by omega
    have hb0 := byteAt_eq s 0 hs0
    by_cases h2 : letB (byteAt s 0) = true
    · have hh2 := Lib.hid h2
      rw [hb0] at h2
      have hb : (s[0].toNat : Int) ≤ 255 := by have := s[0].toNat_lt; omega
      clear hb0
      go_enter Tryz.func159, Tryz.ntmps159
      go_wp2_with fail
      refine (within_any _ _ _ _).mono ?_
      rintro e w' ⟨rfl, rfl⟩
      go_wp2_with fail
      refine (isLetter_any _ (by omega) (by omega) _).mono ?_
      rintro e w' ⟨rfl, rfl⟩
      go_wp2_with fail
      go_loop [3, 16] (fun u i => ∃ k : Nat, k ≤ s.size ∧ i = .int .i64 k ∧ ∀ j, j < k → chrB (byteAt s j) = true) (fun _ i => s.size - (intOf i).toNat)
      case atStart => exact ⟨0, by omega, by first | rfl | go_num, fun j hj => by omega⟩
      case round =>
        obtain ⟨k, hk, rfl, ho⟩ := hrel
        have Ho := Lib.hid ho
        clear ho h2 hb
        by_cases hlt : k < s.size
        · have hbk := Lib.hid (byteAt_eq s k hlt)
          have bk : (s[k].toNat : Int) ≤ 255 := by have := s[k].toNat_lt; omega
          by_cases hl : letB (s[k].toNat : Int) = true
          · have hc : chrB (byteAt s k) = true := by rw [hbk.out]; simp [chrB, hl]
            have Hc := Lib.hid hc
            clear hc
            go_wp2_with (first | (go_at_call 186; refine (isLetter_any _ (by omega) (by omega) _).mono ?_; rintro e w' ⟨rfl, rfl⟩))
            go_round
            case rel => exact ⟨k + 1, by omega, by go_num, fun j hj => by rcases Nat.lt_or_eq_of_le (Nat.le_of_lt_succ hj) with h | h; exact Ho.out j h; rw [h]; exact Hc.out⟩
            case measure => simp [intOf]; omega
          · have hl' : letB (s[k].toNat : Int) = false := by simpa using hl
            by_cases hd : inB (s[k].toNat : Int) 48 57 = true
            · have hc : chrB (byteAt s k) = true := by rw [hbk.out]; simp [chrB, hd]
              have Hc := Lib.hid hc
              clear hc hl
              go_wp2_with (first | (go_at_call 186; refine (isLetter_any _ (by omega) (by omega) _).mono ?_; rintro e w' ⟨rfl, rfl⟩) | (go_at_call 82; refine (within_any _ _ _ _).mono ?_; rintro e w' ⟨rfl, rfl⟩))
              go_round
              case rel => exact ⟨k + 1, by omega, by go_num, fun j hj => by rcases Nat.lt_or_eq_of_le (Nat.le_of_lt_succ hj) with h | h; exact Ho.out j h; rw [h]; exact Hc.out⟩
              case measure => simp [intOf]; omega
            · have hd' : inB (s[k].toNat : Int) 48 57 = false := by simpa using hd
              by_cases h45 : (s[k].toNat : Int) = 45
              · have hc : chrB (byteAt s k) = true := by rw [hbk.out]; simp [chrB, h45]
                have Hc := Lib.hid hc
                have e45 : ((s[k].toNat : Int) == 45) = true := by simp [h45]
                have n45 : ((s[k].toNat : Int) != 45) = false := by simp [h45]
                clear hc hl hd h45
                go_wp2_with (first | (go_at_call 186; refine (isLetter_any _ (by omega) (by omega) _).mono ?_; rintro e w' ⟨rfl, rfl⟩) | (go_at_call 82; refine (within_any _ _ _ _).mono ?_; rintro e w' ⟨rfl, rfl⟩))
                go_round
                case rel => exact ⟨k + 1, by omega, by go_num, fun j hj => by rcases Nat.lt_or_eq_of_le (Nat.le_of_lt_succ hj) with h | h; exact Ho.out j h; rw [h]; exact Hc.out⟩
                case measure => simp [intOf]; omega
              · have hc : chrB (byteAt s k) = false := by rw [hbk.out]; simp [chrB, hl', hd', h45]
                have Hc := Lib.hid hc
                have n45 : ((s[k].toNat : Int) != 45) = true := by simp [h45]
                clear hc hl hd h45
                go_wp2_with (first | (go_at_call 186; refine (isLetter_any _ (by omega) (by omega) _).mono ?_; rintro e w' ⟨rfl, rfl⟩) | (go_at_call 82; refine (within_any _ _ _ _).mono ?_; rintro e w' ⟨rfl, rfl⟩))
                go_ret
                have hex : decide (∀ i, i < s.size → chrB (byteAt s i) = true) = false := by
                  rw [decide_eq_false_iff_not]
                  intro hall
                  have := hall k hlt
                  rw [Hc.out] at this
                  cases this
                exact ⟨ret_bool (by unfold nameB; rw [hex]; simp), rfl⟩
        · obtain rfl : k = s.size := by omega
          go_wp2
          go_ret
          have hex : decide (∀ i, i < s.size → chrB (byteAt s i) = true) = true := by
            rw [decide_eq_true_iff]
            exact Ho.out
          exact ⟨ret_bool (by unfold nameB; rw [hex, hh2.out, h1]; rfl), rfl⟩
    · have h2' : letB (byteAt s 0) = false := by simpa using h2
      have hh := Lib.hid h2'
      rw [hb0] at h2'
      have hb : (s[0].toNat : Int) ≤ 255 := by have := s[0].toNat_lt; omega
      clear hb0 h2
      go_enter Tryz.func159, Tryz.ntmps159
      go_wp2_with fail
      refine (within_any _ _ _ _).mono ?_
      rintro e w' ⟨rfl, rfl⟩
      go_wp2_with fail
      refine (isLetter_any _ (by omega) (by omega) _).mono ?_
      rintro e w' ⟨rfl, rfl⟩
      go_wp2_with fail
      go_ret
      exact ⟨ret_bool (by unfold nameB; rw [hh.out]; simp), rfl⟩
  · have h1' : inB s.size 1 24 = false := by simpa using h1
    have hh := Lib.hid h1'
    clear h1
    go_enter Tryz.func159, Tryz.ntmps159
    go_wp2_with fail
    refine (within_any _ _ _ _).mono ?_
    rintro e w' ⟨rfl, rfl⟩
    go_wp2_with fail
    go_ret
    exact ⟨ret_bool (by unfold nameB; rw [hh.out]; simp), rfl⟩
end Go.Proofs.YtcjpecdnenemaaaGreatDoor

namespace Go.Proofs.YtcjpecdnenemaaaGreatDoor
set_option linter.unusedVariables false
open Go.RowKit

structure Eqv where
  id : Int
  frm : Int
  kno : Int
  sort : ByteArray
  num : Int
  den : Int
  off : Int
def eqCells (x : Eqv) : List Value := [.int .i64 x.id, .int .i64 x.frm, .int .i64 x.kno, .string x.sort, .int .i64 x.num, .int .i64 x.den, .int .i64 x.off]

def equivB (x : Eqv) : Bool := decide (x.off = 0) && nameB x.sort && inB x.frm 0 100000 && vld x.num x.den && decide (x.num > 0) && decide (cmpS x.num x.den 1000 1 ≤ 0)
def voidB (x : Eqv) : Bool := inB x.off 1 1000000 && decide (x.frm = 0) && decide (x.sort.toList = []) && decide (x.num = 0) && decide (x.den = 0)
def formB (x : Eqv) : Bool := inB x.id 1 1000000 && inB x.kno 0 100000 && (equivB x || voidB x)

theorem isVoid_any (id frm kno num den off : Int) (sort : ByteArray) (w : World) :
    Calls Tryz.prog 114 #[.agg #[.int .i64 id, .int .i64 frm, .int .i64 kno, .string sort, .int .i64 num, .int .i64 den, .int .i64 off]] w fun e w' => e = .returned (.bool (voidB ⟨id, frm, kno, sort, num, den, off⟩)) ∧ Kept w w' := by
  by_cases h1 : inB off 1 1000000 = true
  · go_enter Tryz.func114, Tryz.ntmps114
    go_wp2_with (go_at_call 82; refine (within_any _ _ _ _).mono ?_; rintro e w' ⟨rfl, rfl⟩)
    all_goals
      go_ret
      refine ⟨ret_bool ?_, by repeat (first | exact Kept.refl _ | refine Kept.alloc ?_ _ | refine Kept.drewN ?_ _)⟩
      simp_all [voidB]
  · have h1' : inB off 1 1000000 = false := by simpa using h1
    have hv : voidB ⟨id, frm, kno, sort, num, den, off⟩ = false := by simp [voidB, h1']
    rw [hv]
    clear hv h1
    go_enter Tryz.func114, Tryz.ntmps114
    go_wp2_with (go_at_call 82; refine (within_any _ _ _ _).mono ?_; rintro e w' ⟨rfl, rfl⟩)
    go_ret
    exact ⟨rfl, by repeat (first | exact Kept.refl _ | refine Kept.alloc ?_ _ | refine Kept.drewN ?_ _)⟩
/-- isEquivalent -/
theorem isEq_0 (id frm kno num den off : Int) (sort : ByteArray) (hs : sort.size ≤ 9223372036854775807)  (c0 : (off == 0) = false) (w : World) :
    Calls Tryz.prog 113 #[.agg #[.int .i64 id, .int .i64 frm, .int .i64 kno, .string sort, .int .i64 num, .int .i64 den, .int .i64 off]] w fun e w' => e = .returned (.bool false) ∧ Kept w w' := by
  go_enter Tryz.func113, Tryz.ntmps113
  go_wp2_with (first | (go_at_call 159; refine (isName_any _ hs _).mono ?_; rintro e w' ⟨rfl, rfl⟩) | (go_at_call 82; refine (within_any _ _ _ _).mono ?_; rintro e w' ⟨rfl, rfl⟩) | (go_at_call 88; refine (valid_any _ _ _).mono ?_; rintro e w1 ⟨rfl, hk1⟩; obtain ⟨hc1, hf1, hz1⟩ := hk1.facts) | (go_at_call 21; refine (compare_any _ _ _ _ _).mono ?_; rintro e w2 ⟨rfl, hk2'⟩; have hk2 := hk1.trans hk2'))
  go_ret
  exact ⟨rfl, (by repeat (first | exact Kept.refl _ | refine Kept.alloc ?_ _ | refine Kept.drewN ?_ _))⟩
theorem isEq_1 (id frm kno num den off : Int) (sort : ByteArray) (hs : sort.size ≤ 9223372036854775807) (c0 : (off == 0) = true) (c1 : nameB sort = false) (w : World) :
    Calls Tryz.prog 113 #[.agg #[.int .i64 id, .int .i64 frm, .int .i64 kno, .string sort, .int .i64 num, .int .i64 den, .int .i64 off]] w fun e w' => e = .returned (.bool false) ∧ Kept w w' := by
  go_enter Tryz.func113, Tryz.ntmps113
  go_wp2_with (first | (go_at_call 159; refine (isName_any _ hs _).mono ?_; rintro e w' ⟨rfl, rfl⟩) | (go_at_call 82; refine (within_any _ _ _ _).mono ?_; rintro e w' ⟨rfl, rfl⟩) | (go_at_call 88; refine (valid_any _ _ _).mono ?_; rintro e w1 ⟨rfl, hk1⟩; obtain ⟨hc1, hf1, hz1⟩ := hk1.facts) | (go_at_call 21; refine (compare_any _ _ _ _ _).mono ?_; rintro e w2 ⟨rfl, hk2'⟩; have hk2 := hk1.trans hk2'))
  go_ret
  exact ⟨rfl, (by repeat (first | exact Kept.refl _ | refine Kept.alloc ?_ _ | refine Kept.drewN ?_ _))⟩
theorem isEq_2 (id frm kno num den off : Int) (sort : ByteArray) (hs : sort.size ≤ 9223372036854775807) (c0 : (off == 0) = true) (c1 : nameB sort = true) (c2 : inB frm 0 100000 = false) (w : World) :
    Calls Tryz.prog 113 #[.agg #[.int .i64 id, .int .i64 frm, .int .i64 kno, .string sort, .int .i64 num, .int .i64 den, .int .i64 off]] w fun e w' => e = .returned (.bool false) ∧ Kept w w' := by
  go_enter Tryz.func113, Tryz.ntmps113
  go_wp2_with (first | (go_at_call 159; refine (isName_any _ hs _).mono ?_; rintro e w' ⟨rfl, rfl⟩) | (go_at_call 82; refine (within_any _ _ _ _).mono ?_; rintro e w' ⟨rfl, rfl⟩) | (go_at_call 88; refine (valid_any _ _ _).mono ?_; rintro e w1 ⟨rfl, hk1⟩; obtain ⟨hc1, hf1, hz1⟩ := hk1.facts) | (go_at_call 21; refine (compare_any _ _ _ _ _).mono ?_; rintro e w2 ⟨rfl, hk2'⟩; have hk2 := hk1.trans hk2'))
  go_ret
  exact ⟨rfl, (by repeat (first | exact Kept.refl _ | refine Kept.alloc ?_ _ | refine Kept.drewN ?_ _))⟩
theorem isEq_3 (id frm kno num den off : Int) (sort : ByteArray) (hs : sort.size ≤ 9223372036854775807) (c0 : (off == 0) = true) (c1 : nameB sort = true) (c2 : inB frm 0 100000 = true) (c3 : vld num den = false) (w : World) :
    Calls Tryz.prog 113 #[.agg #[.int .i64 id, .int .i64 frm, .int .i64 kno, .string sort, .int .i64 num, .int .i64 den, .int .i64 off]] w fun e w' => e = .returned (.bool false) ∧ Kept w w' := by
  go_enter Tryz.func113, Tryz.ntmps113
  go_wp2_with (first | (go_at_call 159; refine (isName_any _ hs _).mono ?_; rintro e w' ⟨rfl, rfl⟩) | (go_at_call 82; refine (within_any _ _ _ _).mono ?_; rintro e w' ⟨rfl, rfl⟩) | (go_at_call 88; refine (valid_any _ _ _).mono ?_; rintro e w1 ⟨rfl, hk1⟩; obtain ⟨hc1, hf1, hz1⟩ := hk1.facts) | (go_at_call 21; refine (compare_any _ _ _ _ _).mono ?_; rintro e w2 ⟨rfl, hk2'⟩; have hk2 := hk1.trans hk2'))
  go_ret
  exact ⟨rfl, (Kept.trans (by repeat (first | exact Kept.refl _ | refine Kept.alloc ?_ _ | refine Kept.drewN ?_ _)) hk1)⟩
theorem isEq_4 (id frm kno num den off : Int) (sort : ByteArray) (hs : sort.size ≤ 9223372036854775807) (c0 : (off == 0) = true) (c1 : nameB sort = true) (c2 : inB frm 0 100000 = true) (c3 : vld num den = true) (c4 : decide (0 < num) = false) (w : World) :
    Calls Tryz.prog 113 #[.agg #[.int .i64 id, .int .i64 frm, .int .i64 kno, .string sort, .int .i64 num, .int .i64 den, .int .i64 off]] w fun e w' => e = .returned (.bool false) ∧ Kept w w' := by
  go_enter Tryz.func113, Tryz.ntmps113
  go_wp2_with (first | (go_at_call 159; refine (isName_any _ hs _).mono ?_; rintro e w' ⟨rfl, rfl⟩) | (go_at_call 82; refine (within_any _ _ _ _).mono ?_; rintro e w' ⟨rfl, rfl⟩) | (go_at_call 88; refine (valid_any _ _ _).mono ?_; rintro e w1 ⟨rfl, hk1⟩; obtain ⟨hc1, hf1, hz1⟩ := hk1.facts) | (go_at_call 21; refine (compare_any _ _ _ _ _).mono ?_; rintro e w2 ⟨rfl, hk2'⟩; have hk2 := hk1.trans hk2'))
  go_ret
  exact ⟨rfl, (Kept.trans (by repeat (first | exact Kept.refl _ | refine Kept.alloc ?_ _ | refine Kept.drewN ?_ _)) hk1)⟩
theorem isEq_5 (id frm kno num den off : Int) (sort : ByteArray) (hs : sort.size ≤ 9223372036854775807) (c0 : (off == 0) = true) (c1 : nameB sort = true) (c2 : inB frm 0 100000 = true) (c3 : vld num den = true) (c4 : decide (0 < num) = true) (c5 : decide (cmpS num den 1000 1 ≤ 0) = false) (w : World) :
    Calls Tryz.prog 113 #[.agg #[.int .i64 id, .int .i64 frm, .int .i64 kno, .string sort, .int .i64 num, .int .i64 den, .int .i64 off]] w fun e w' => e = .returned (.bool false) ∧ Kept w w' := by
  go_enter Tryz.func113, Tryz.ntmps113
  go_wp2_with (first | (go_at_call 159; refine (isName_any _ hs _).mono ?_; rintro e w' ⟨rfl, rfl⟩) | (go_at_call 82; refine (within_any _ _ _ _).mono ?_; rintro e w' ⟨rfl, rfl⟩) | (go_at_call 88; refine (valid_any _ _ _).mono ?_; rintro e w1 ⟨rfl, hk1⟩; obtain ⟨hc1, hf1, hz1⟩ := hk1.facts) | (go_at_call 21; refine (compare_any _ _ _ _ _).mono ?_; rintro e w2 ⟨rfl, hk2'⟩; have hk2 := hk1.trans hk2'))
  go_ret
  exact ⟨rfl, (Kept.trans (by repeat (first | exact Kept.refl _ | refine Kept.alloc ?_ _ | refine Kept.drewN ?_ _)) hk2)⟩
theorem isEq_6 (id frm kno num den off : Int) (sort : ByteArray) (hs : sort.size ≤ 9223372036854775807) (c0 : (off == 0) = true) (c1 : nameB sort = true) (c2 : inB frm 0 100000 = true) (c3 : vld num den = true) (c4 : decide (0 < num) = true) (c5 : decide (cmpS num den 1000 1 ≤ 0) = true) (w : World) :
    Calls Tryz.prog 113 #[.agg #[.int .i64 id, .int .i64 frm, .int .i64 kno, .string sort, .int .i64 num, .int .i64 den, .int .i64 off]] w fun e w' => e = .returned (.bool true) ∧ Kept w w' := by
  go_enter Tryz.func113, Tryz.ntmps113
  go_wp2_with (first | (go_at_call 159; refine (isName_any _ hs _).mono ?_; rintro e w' ⟨rfl, rfl⟩) | (go_at_call 82; refine (within_any _ _ _ _).mono ?_; rintro e w' ⟨rfl, rfl⟩) | (go_at_call 88; refine (valid_any _ _ _).mono ?_; rintro e w1 ⟨rfl, hk1⟩; obtain ⟨hc1, hf1, hz1⟩ := hk1.facts) | (go_at_call 21; refine (compare_any _ _ _ _ _).mono ?_; rintro e w2 ⟨rfl, hk2'⟩; have hk2 := hk1.trans hk2'))
  go_ret
  exact ⟨rfl, (Kept.trans (by repeat (first | exact Kept.refl _ | refine Kept.alloc ?_ _ | refine Kept.drewN ?_ _)) hk2)⟩
theorem isEquivalent_any (id frm kno num den off : Int) (sort : ByteArray) (hs : sort.size ≤ 9223372036854775807) (w : World) :
    Calls Tryz.prog 113 #[.agg #[.int .i64 id, .int .i64 frm, .int .i64 kno, .string sort, .int .i64 num, .int .i64 den, .int .i64 off]] w fun e w' => e = .returned (.bool (equivB ⟨id, frm, kno, sort, num, den, off⟩)) ∧ Kept w w' := by
  by_cases c0 : (off == 0) = true
  · by_cases c1 : nameB sort = true
    · by_cases c2 : inB frm 0 100000 = true
      · by_cases c3 : vld num den = true
        · by_cases c4 : decide (0 < num) = true
          · by_cases c5 : decide (cmpS num den 1000 1 ≤ 0) = true
            · have hs' : equivB ⟨id, frm, kno, sort, num, den, off⟩ = true := by simp only [equivB, Bool.and_eq_true]; simp_all
              rw [hs']
              exact isEq_6 id frm kno num den off sort hs c0 c1 c2 c3 c4 c5 w
            · have c5' : decide (cmpS num den 1000 1 ≤ 0) = false := by simpa using c5
              have hs' : equivB ⟨id, frm, kno, sort, num, den, off⟩ = false := by rw [Bool.eq_false_iff]; intro hh; simp only [equivB, Bool.and_eq_true] at hh; simp_all
              rw [hs']
              exact isEq_5 id frm kno num den off sort hs c0 c1 c2 c3 c4 c5' w
          · have c4' : decide (0 < num) = false := by simpa using c4
            have hs' : equivB ⟨id, frm, kno, sort, num, den, off⟩ = false := by rw [Bool.eq_false_iff]; intro hh; simp only [equivB, Bool.and_eq_true] at hh; simp_all
            rw [hs']
            exact isEq_4 id frm kno num den off sort hs c0 c1 c2 c3 c4' w
        · have c3' : vld num den = false := by simpa using c3
          have hs' : equivB ⟨id, frm, kno, sort, num, den, off⟩ = false := by rw [Bool.eq_false_iff]; intro hh; simp only [equivB, Bool.and_eq_true] at hh; simp_all
          rw [hs']
          exact isEq_3 id frm kno num den off sort hs c0 c1 c2 c3' w
      · have c2' : inB frm 0 100000 = false := by simpa using c2
        have hs' : equivB ⟨id, frm, kno, sort, num, den, off⟩ = false := by rw [Bool.eq_false_iff]; intro hh; simp only [equivB, Bool.and_eq_true] at hh; simp_all
        rw [hs']
        exact isEq_2 id frm kno num den off sort hs c0 c1 c2' w
    · have c1' : nameB sort = false := by simpa using c1
      have hs' : equivB ⟨id, frm, kno, sort, num, den, off⟩ = false := by rw [Bool.eq_false_iff]; intro hh; simp only [equivB, Bool.and_eq_true] at hh; simp_all
      rw [hs']
      exact isEq_1 id frm kno num den off sort hs c0 c1' w
  · have c0' : (off == 0) = false := by simpa using c0
    have hs' : equivB ⟨id, frm, kno, sort, num, den, off⟩ = false := by rw [Bool.eq_false_iff]; intro hh; simp only [equivB, Bool.and_eq_true] at hh; simp_all
    rw [hs']
    exact isEq_0 id frm kno num den off sort hs  c0' w
end Go.Proofs.YtcjpecdnenemaaaGreatDoor

namespace Go.Proofs.YtcjpecdnenemaaaGreatDoor
set_option linter.unusedVariables false
open Go.RowKit

def errB (b : Bool) : Int := if b then 0 else 1

theorem checkEqual_any (id frm kno num den off : Int) (sort : ByteArray) (hs : sort.size ≤ 9223372036854775807) (w : World) :
    Calls Tryz.prog 45 #[.agg #[.int .i64 id, .int .i64 frm, .int .i64 kno, .string sort, .int .i64 num, .int .i64 den, .int .i64 off]] w fun e w' => e = .returned (.int .i64 (errB (formB ⟨id, frm, kno, sort, num, den, off⟩))) ∧ Kept w w' := by
  by_cases c0 : inB id 1 1000000 = true
  · by_cases c1 : inB kno 0 100000 = true
    · by_cases c2 : equivB ⟨id, frm, kno, sort, num, den, off⟩ = true
      · have hf : errB (formB ⟨id, frm, kno, sort, num, den, off⟩) = 0 := by simp [formB, c0, c1, c2, errB]
        rw [hf]
        clear hf
        go_enter Tryz.func45, Tryz.ntmps45
        go_wp2_with (first | (go_at_call 82; refine (within_any _ _ _ _).mono ?_; rintro e w' ⟨rfl, rfl⟩) | (go_at_call 113; refine (isEquivalent_any _ _ _ _ _ _ _ hs _).mono ?_; rintro e w1 ⟨rfl, hk1⟩; obtain ⟨hc1, hf1, hz1⟩ := hk1.facts))
        go_ret
        exact ⟨rfl, ((Kept.refl _).alloc _).trans hk1⟩
      · have c2' : equivB ⟨id, frm, kno, sort, num, den, off⟩ = false := by simpa using c2
        by_cases c3 : voidB ⟨id, frm, kno, sort, num, den, off⟩ = true
        · have hf : errB (formB ⟨id, frm, kno, sort, num, den, off⟩) = 0 := by simp [formB, c0, c1, c3, errB]
          rw [hf]
          clear hf c2
          go_enter Tryz.func45, Tryz.ntmps45
          go_wp2_with (first | (go_at_call 82; refine (within_any _ _ _ _).mono ?_; rintro e w' ⟨rfl, rfl⟩) | (go_at_call 113; refine (isEquivalent_any _ _ _ _ _ _ _ hs _).mono ?_; rintro e w1 ⟨rfl, hk1⟩; obtain ⟨hc1, hf1, hz1⟩ := hk1.facts) | (go_at_call 114; refine (isVoid_any _ _ _ _ _ _ _ _).mono ?_; rintro e w2 ⟨rfl, hk2⟩))
          go_ret
          exact ⟨rfl, (((Kept.refl _).alloc _).trans hk1).trans hk2⟩
        · have c3' : voidB ⟨id, frm, kno, sort, num, den, off⟩ = false := by simpa using c3
          have hf : errB (formB ⟨id, frm, kno, sort, num, den, off⟩) = 1 := by simp [formB, c0, c1, c2', c3', errB]
          rw [hf]
          clear hf c2 c3
          go_enter Tryz.func45, Tryz.ntmps45
          go_wp2_with (first | (go_at_call 82; refine (within_any _ _ _ _).mono ?_; rintro e w' ⟨rfl, rfl⟩) | (go_at_call 113; refine (isEquivalent_any _ _ _ _ _ _ _ hs _).mono ?_; rintro e w1 ⟨rfl, hk1⟩; obtain ⟨hc1, hf1, hz1⟩ := hk1.facts) | (go_at_call 114; refine (isVoid_any _ _ _ _ _ _ _ _).mono ?_; rintro e w2 ⟨rfl, hk2⟩))
          go_ret
          exact ⟨rfl, (((Kept.refl _).alloc _).trans hk1).trans hk2⟩
    · have c1' : inB kno 0 100000 = false := by simpa using c1
      have hf : errB (formB ⟨id, frm, kno, sort, num, den, off⟩) = 1 := by simp [formB, c1', errB]
      rw [hf]
      clear hf c1
      go_enter Tryz.func45, Tryz.ntmps45
      go_wp2_with (first | (go_at_call 82; refine (within_any _ _ _ _).mono ?_; rintro e w' ⟨rfl, rfl⟩))
      go_ret
      exact ⟨rfl, (Kept.refl _).alloc _⟩
  · have c0' : inB id 1 1000000 = false := by simpa using c0
    have hf : errB (formB ⟨id, frm, kno, sort, num, den, off⟩) = 1 := by simp [formB, c0', errB]
    rw [hf]
    clear hf c0
    go_enter Tryz.func45, Tryz.ntmps45
    go_wp2_with (first | (go_at_call 82; refine (within_any _ _ _ _).mono ?_; rintro e w' ⟨rfl, rfl⟩))
    go_ret
    exact ⟨rfl, (Kept.refl _).alloc _⟩
end Go.Proofs.YtcjpecdnenemaaaGreatDoor

namespace Go.Proofs.YtcjpecdnenemaaaGreatDoor
set_option linter.unusedVariables false
open Go.RowKit Go.Shelf

def eqV (x : Eqv) : Value := .agg #[.int .i64 x.id, .int .i64 x.frm, .int .i64 x.kno, .string x.sort, .int .i64 x.num, .int .i64 x.den, .int .i64 x.off]
/-- the seven cells of a record -/
def Cells7 (w : World) (b o : Nat) (x : Eqv) : Prop :=
  w.cell? ⟨b, o, none⟩ = some (.int .i64 x.id) ∧ w.cell? ⟨b, o + 1, none⟩ = some (.int .i64 x.frm) ∧ w.cell? ⟨b, o + 2, none⟩ = some (.int .i64 x.kno) ∧ w.cell? ⟨b, o + 3, none⟩ = some (.string x.sort) ∧
  w.cell? ⟨b, o + 4, none⟩ = some (.int .i64 x.num) ∧ w.cell? ⟨b, o + 5, none⟩ = some (.int .i64 x.den) ∧ w.cell? ⟨b, o + 6, none⟩ = some (.int .i64 x.off)
/-- from the cell off on block b holds the records xs -/
def Tab (w : World) (b off : Nat) (xs : List Eqv) : Prop := ∀ i x, xs[i]? = some x → Cells7 w b (off + i * 7) x
theorem Cells7.kept {w w' : World} {b o : Nat} {x : Eqv} (h : Cells7 w b o x) (hk : Kept w w') : Cells7 w' b o x := by
  have hb := cell_lt h.1
  have hc := hk.cells
  obtain ⟨h0, h1, h2, h3, h4, h5, h6⟩ := h
  exact ⟨(hc _ _ hb).trans h0, (hc _ _ hb).trans h1, (hc _ _ hb).trans h2, (hc _ _ hb).trans h3, (hc _ _ hb).trans h4, (hc _ _ hb).trans h5, (hc _ _ hb).trans h6⟩
theorem Tab.kept {w w' : World} {b off : Nat} {xs : List Eqv} (h : Tab w b off xs) (hk : Kept w w') : Tab w' b off xs := fun i x hx => (h i x hx).kept hk

def idxP (p : Eqv → Bool) (xs : List Eqv) : Int := if xs.any p = true then (xs.findIdx p : Int) else -1

/-- what a predicate that is handed in has to do -/
def PredT (g : Nat) (lb : Array Value) (p : Eqv → Bool) (w : World) : Prop :=
  ∀ (W : World) (x : Eqv), Kept w W → Calls Tryz.prog g (#[eqV x] ++ lb) W fun e w' => e = .returned (.bool (p x)) ∧ Kept W w'

theorem idxP_at {p : Eqv → Bool} {xs : List Eqv} {k : Nat} {x : Eqv} (h : xs[k]? = some x) (hp : p x = true) (ho : ∀ j y, j < k → xs[j]? = some y → p y = false) : idxP p xs = (k : Int) := by
  have hm : x ∈ xs := List.mem_of_getElem? h
  have ha : xs.any p = true := List.any_eq_true.2 ⟨x, hm, hp⟩
  unfold idxP
  rw [if_pos ha]
  congr 1
  obtain ⟨hk, hx⟩ := List.getElem?_eq_some_iff.1 h
  rw [List.findIdx_eq hk]
  refine ⟨by rw [hx]; exact hp, fun j hj => ?_⟩
  exact ho j _ hj (List.getElem?_eq_getElem (by omega))
theorem idxP_none {p : Eqv → Bool} {xs : List Eqv} (ho : ∀ (j : Nat) (y : Eqv), xs[j]? = some y → p y = false) : idxP p xs = -1 := by
  unfold idxP
  rw [if_neg]
  rw [List.any_eq_true]
  rintro ⟨x, hx, hp⟩
  obtain ⟨j, hj⟩ := List.getElem?_of_mem hx
  rw [ho j x hj] at hp
  cases hp

theorem indexFunc_any (g : Nat) (lb : Array Value) (p : Eqv → Bool) (eg : ∀ args w, (callFunc g args).run Tryz.prog w = .ok (.enter g args) w) (b off n c : Nat) (xs : List Eqv) (w : World) (hp : PredT g lb p w) (hn : xs.length = n) (hbig : n ≤ 9223372036854775807) (ht : Tab w b off xs) :
    Calls Tryz.prog 176 #[.slice (some ⟨b, off, none⟩) n c, .func (.func g) #[] lb] w fun e w' => e = .returned (.int .i64 (idxP p xs)) ∧ Kept w w' := by
  have Hp := Lib.hid hp
  have Hn := Lib.hid hn
  have Ht := Lib.hid ht
  clear hp hn ht
  go_enter Tryz.func176, Tryz.ntmps176
  go_wp2_with fail
  go_loopw [8] (fun i wr => ∃ k : Nat, k ≤ n ∧ i = .int .i64 k ∧ (∀ j x, j < k → xs[j]? = some x → p x = false) ∧ Kept w wr) (fun i _ => n - (intOf i).toNat)
  case atStart => exact ⟨0, by omega, by first | rfl | go_num, fun j x hj => by omega, Kept.refl _⟩
  case round =>
    obtain ⟨k, hk, rfl, ho, hkr⟩ := hrel
    have Ho := Lib.hid ho
    clear ho
    by_cases hlt : k < n
    · obtain ⟨x, hx⟩ : ∃ x, xs[k]? = some x := ⟨xs[k]'(by rw [Hn.out]; exact hlt), List.getElem?_eq_getElem (by rw [Hn.out]; exact hlt)⟩
      have Hx := Lib.hid hx
      obtain ⟨c0, c1, c2, c3, c4, c5, c6⟩ := (Ht.out k x hx).kept hkr
      clear hx
      by_cases hpx : p x = true
      · have Hpx := Lib.hid hpx
        go_wp2_with fail
        refine (Hp.out wr x hkr).mono ?_
        rintro e w1 ⟨rfl, hk1⟩
        go_wp2
        go_ret
        refine ⟨ret_int ?_, hkr.trans hk1⟩
        exact (idxP_at Hx.out Hpx.out Ho.out).symm
      · have hpx' : p x = false := by simpa using hpx
        have Hpx := Lib.hid hpx'
        clear hpx
        go_wp2_with fail
        refine (Hp.out wr x hkr).mono ?_
        rintro e w1 ⟨rfl, hk1⟩
        go_wp2
        go_roundw
        case rel =>
          refine ⟨k + 1, by omega, by go_num, fun j y hj hy => ?_, hkr.trans hk1⟩
          rcases Nat.lt_or_eq_of_le (Nat.le_of_lt_succ hj) with h | h
          · exact Ho.out j y h hy
          · subst h
            have := Hx.out
            rw [hy] at this
            cases this
            exact Hpx.out
        case measure => simp [intOf]; omega
    · obtain rfl : k = n := by omega
      go_wp2
      go_ret
      refine ⟨ret_int ?_, hkr⟩
      exact (idxP_none (fun j y hy => Ho.out j y (by rw [← Hn.out]; exact (List.getElem?_eq_some_iff.1 hy).1) hy)).symm

theorem idxP_nonneg (p : Eqv → Bool) (xs : List Eqv) : decide (0 ≤ idxP p xs) = xs.any p := by
  unfold idxP
  by_cases h : xs.any p = true
  · rw [if_pos h, h]; simp
  · have h' : xs.any p = false := by simpa using h
    rw [if_neg h, h']; rfl
theorem containsFunc_any (g : Nat) (lb : Array Value) (p : Eqv → Bool) (eg : ∀ args w, (callFunc g args).run Tryz.prog w = .ok (.enter g args) w) (b off n c : Nat) (xs : List Eqv) (w : World) (hp : PredT g lb p w) (hn : xs.length = n) (hbig : n ≤ 9223372036854775807) (ht : Tab w b off xs) :
    Calls Tryz.prog 149 #[.slice (some ⟨b, off, none⟩) n c, .func (.func g) #[] lb] w fun e w' => e = .returned (.bool (xs.any p)) ∧ Kept w w' := by
  have Hp := Lib.hid hp
  have Hn := Lib.hid hn
  have Ht := Lib.hid ht
  clear hp hn ht
  go_enter Tryz.func149, Tryz.ntmps149
  go_wp2_with fail
  refine (indexFunc_any g lb p eg b off n c xs w Hp.out Hn.out hbig Ht.out).mono ?_
  rintro e w1 ⟨rfl, hk1⟩
  go_wp2
  go_ret
  exact ⟨ret_bool (idxP_nonneg p xs), hk1⟩
theorem containsFunc_nil (A : Option Addr) (c g : Nat) (lb : Array Value) (w : World) :
    Calls Tryz.prog 149 #[.slice A 0 c, .func (.func g) #[] lb] w fun e w' => e = .returned (.bool false) ∧ Kept w w' := by
  have hI : ∀ w1 : World, Calls Tryz.prog 176 #[.slice A 0 c, .func (.func g) #[] lb] w1 fun e w' => e = .returned (.int .i64 (-1)) ∧ w1 = w' := by
    intro w1
    go_enter Tryz.func176, Tryz.ntmps176
    go_wp2_with fail
    refine wp_loop_rounds 1 ?_
    rw [rounds_succ]
    go_wp2
    go_ret
    exact ⟨rfl, rfl⟩
  have HI := Lib.hid hI
  clear hI
  go_enter Tryz.func149, Tryz.ntmps149
  go_wp2_with fail
  refine (HI.out _).mono ?_
  rintro e w1 ⟨rfl, rfl⟩
  go_wp2
  go_ret
  exact ⟨rfl, Kept.refl _⟩
end Go.Proofs.YtcjpecdnenemaaaGreatDoor

namespace Go.Proofs.YtcjpecdnenemaaaGreatDoor
set_option linter.unusedVariables false
open Go.RowKit Go.Shelf

theorem e150 : ∀ args w, (callFunc 150 args).run Tryz.prog w = .ok (.enter 150 args) w := enters_of Tryz.func150 (by kernel_rfl) rfl
theorem e151 : ∀ args w, (callFunc 151 args).run Tryz.prog w = .ok (.enter 151 args) w := enters_of Tryz.func151 (by kernel_rfl) rfl
theorem e152 : ∀ args w, (callFunc 152 args).run Tryz.prog w = .ok (.enter 152 args) w := enters_of Tryz.func152 (by kernel_rfl) rfl

theorem pred150 (b : Nat) (x : Eqv) (w : World) (h : Cells7 w b 0 x) : PredT 150 #[.pointer (some ⟨b, 0, none⟩)] (fun y => y.id == x.id) w := by
  intro W y hk
  have hb := cell_lt (h.kept hk).1
  obtain ⟨c0, c1, c2, c3, c4, c5, c6⟩ := h.kept hk
  simp only [Nat.zero_add] at c1 c2 c3 c4 c5 c6
  show Calls Tryz.prog 150 #[eqV y, .pointer (some ⟨b, 0, none⟩)] W _
  unfold eqV
  go_enter Tryz.func150, Tryz.ntmps150
  go_wp2
  go_ret
  exact ⟨rfl, (Kept.refl _).alloc _⟩
theorem pred152 (b : Nat) (x : Eqv) (w : World) (h : Cells7 w b 0 x) : PredT 152 #[.pointer (some ⟨b, 0, none⟩)] (fun y => y.off == x.off) w := by
  intro W y hk
  have hb := cell_lt (h.kept hk).1
  obtain ⟨c0, c1, c2, c3, c4, c5, c6⟩ := h.kept hk
  simp only [Nat.zero_add] at c1 c2 c3 c4 c5 c6
  show Calls Tryz.prog 152 #[eqV y, .pointer (some ⟨b, 0, none⟩)] W _
  unfold eqV
  go_enter Tryz.func152, Tryz.ntmps152
  go_wp2
  go_ret
  exact ⟨rfl, (Kept.refl _).alloc _⟩
theorem pred151 (b : Nat) (x : Eqv) (w : World) (h : Cells7 w b 0 x) : PredT 151 #[.pointer (some ⟨b, 0, none⟩)] (fun y => y.id == x.off && y.off == 0) w := by
  intro W y hk
  have hb := cell_lt (h.kept hk).1
  obtain ⟨c0, c1, c2, c3, c4, c5, c6⟩ := h.kept hk
  simp only [Nat.zero_add] at c1 c2 c3 c4 c5 c6
  show Calls Tryz.prog 151 #[eqV y, .pointer (some ⟨b, 0, none⟩)] W _
  unfold eqV
  by_cases k : (y.id == x.off) = true
  · go_enter Tryz.func151, Tryz.ntmps151
    go_wp2
    go_ret
    exact ⟨ret_bool (by rw [k]; rfl), (Kept.refl _).alloc _⟩
  · have k' : (y.id == x.off) = false := by simpa using k
    clear k
    go_enter Tryz.func151, Tryz.ntmps151
    go_wp2
    go_ret
    exact ⟨ret_bool (by rw [k']; rfl), (Kept.refl _).alloc _⟩

/-- why a record cannot stand behind those of a table -/
def refS (xs : List Eqv) (x : Eqv) : Int :=
  if xs.length = 200 then 2
  else if formB x = false then 1
  else if xs.any (fun y => y.id == x.id) = true then 6
  else if (match xs.getLast? with | some y => decide (x.kno < y.kno) | none => false) = true then 7
  else if x.off = 0 then 0
  else if xs.any (fun y => y.id == x.off && y.off == 0) = false then 5
  else if xs.any (fun y => y.off == x.off) = true then 6 else 0

theorem refusal_full (b off c : Nat) (x : Eqv) (w : World) :
    Calls Tryz.prog 102 #[.slice (some ⟨b, off, none⟩) 200 c, eqV x] w fun e w' => e = .returned (.int .i64 2) ∧ Kept w w' := by
  unfold eqV
  go_enter Tryz.func102, Tryz.ntmps102
  go_wp2_with fail
  go_ret
  exact ⟨rfl, (Kept.refl _).alloc _⟩

theorem ref_form (b off n c : Nat) (xs : List Eqv) (x : Eqv) (hs : x.sort.size ≤ 9223372036854775807) (hn : xs.length = n) (hbig : n ≤ 9223372036854775807) (n200 : ((n : Int) == 200) = false) (hform : formB x = false) (w : World) (ht : Tab w b off xs) :
    Calls Tryz.prog 102 #[.slice (some ⟨b, off, none⟩) n c, eqV x] w fun e w' => e = .returned (.int .i64 1) ∧ Kept w w' := by
  have hmf : ∀ (fn : Fn) (first cap : Array Value) (w : World), (Instr.makeFunc fn first cap).run Tryz.prog w = .ok (.func fn first cap) w := fun _ _ _ _ => rfl
  have Hn := Lib.hid hn
  have Ht := Lib.hid ht
  clear hn ht
  have hform' : errB (formB ⟨x.id, x.frm, x.kno, x.sort, x.num, x.den, x.off⟩) = 1 := by rw [show (⟨x.id, x.frm, x.kno, x.sort, x.num, x.den, x.off⟩ : Eqv) = x from rfl, hform]; rfl
  clear hform
  unfold eqV
  go_enter Tryz.func102, Tryz.ntmps102
  go_wp2_with fail
  refine (checkEqual_any _ _ _ _ _ _ _ hs _).mono ?_
  rintro e w1 ⟨rfl, hk1⟩
  obtain ⟨hc1, hf1, hz1⟩ := hk1.facts
  have ct1 := Cells7.kept (x := x) (b := w.heap.size) (o := 0) ⟨by simp [go_sem], by simp [go_sem], by simp [go_sem], by simp [go_sem], by simp [go_sem], by simp [go_sem], by simp [go_sem]⟩ hk1
  have CT1 := Lib.hid ct1
  have TT1 := Lib.hid ((Ht.out.kept ((Kept.refl _).alloc _)).kept hk1)
  clear ct1
  go_wp2_with fail
  go_ret
  exact ⟨rfl, ((Kept.refl _).alloc _).trans hk1⟩
theorem ref_id (b off n c : Nat) (xs : List Eqv) (x : Eqv) (hs : x.sort.size ≤ 9223372036854775807) (hn : xs.length = n) (hbig : n ≤ 9223372036854775807) (n200 : ((n : Int) == 200) = false) (hform : formB x = true) (i1 : xs.any (fun y => y.id == x.id) = true) (w : World) (ht : Tab w b off xs) :
    Calls Tryz.prog 102 #[.slice (some ⟨b, off, none⟩) n c, eqV x] w fun e w' => e = .returned (.int .i64 6) ∧ Kept w w' := by
  have hmf : ∀ (fn : Fn) (first cap : Array Value) (w : World), (Instr.makeFunc fn first cap).run Tryz.prog w = .ok (.func fn first cap) w := fun _ _ _ _ => rfl
  have Hn := Lib.hid hn
  have Ht := Lib.hid ht
  clear hn ht
  have hform' : errB (formB ⟨x.id, x.frm, x.kno, x.sort, x.num, x.den, x.off⟩) = 0 := by rw [show (⟨x.id, x.frm, x.kno, x.sort, x.num, x.den, x.off⟩ : Eqv) = x from rfl, hform]; rfl
  clear hform
  unfold eqV
  go_enter Tryz.func102, Tryz.ntmps102
  go_wp2_with fail
  refine (checkEqual_any _ _ _ _ _ _ _ hs _).mono ?_
  rintro e w1 ⟨rfl, hk1⟩
  obtain ⟨hc1, hf1, hz1⟩ := hk1.facts
  have ct1 := Cells7.kept (x := x) (b := w.heap.size) (o := 0) ⟨by simp [go_sem], by simp [go_sem], by simp [go_sem], by simp [go_sem], by simp [go_sem], by simp [go_sem], by simp [go_sem]⟩ hk1
  have CT1 := Lib.hid ct1
  have TT1 := Lib.hid ((Ht.out.kept ((Kept.refl _).alloc _)).kept hk1)
  clear ct1
  go_wp2_with fail
  refine (containsFunc_any 150 _ _ e150 b off n c xs _ (pred150 _ x _ CT1.out) Hn.out hbig TT1.out).mono ?_
  rintro e w2 ⟨rfl, hk2'⟩
  have hk2 := hk1.trans hk2'
  have CT2 := Lib.hid (CT1.out.kept hk2')
  have TT2 := Lib.hid (TT1.out.kept hk2')
  clear hc1 hf1 hz1
  obtain ⟨hc2, hf2, hz2⟩ := hk2.facts
  go_wp2_with fail
  go_ret
  exact ⟨rfl, ((Kept.refl _).alloc _).trans hk2⟩
theorem ref_time (b off n c : Nat) (xs : List Eqv) (x : Eqv) (hs : x.sort.size ≤ 9223372036854775807) (hn : xs.length = n) (hbig : n ≤ 9223372036854775807) (n200 : ((n : Int) == 200) = false) (hform : formB x = true) (i1 : xs.any (fun y => y.id == x.id) = false) (z : Eqv) (hz0 : xs[n - 1]? = some z) (npos : 0 < n) (ltm : x.kno < z.kno) (w : World) (ht : Tab w b off xs) :
    Calls Tryz.prog 102 #[.slice (some ⟨b, off, none⟩) n c, eqV x] w fun e w' => e = .returned (.int .i64 7) ∧ Kept w w' := by
  have hmf : ∀ (fn : Fn) (first cap : Array Value) (w : World), (Instr.makeFunc fn first cap).run Tryz.prog w = .ok (.func fn first cap) w := fun _ _ _ _ => rfl
  have Hn := Lib.hid hn
  have Ht := Lib.hid ht
  clear hn ht
  have HZ := Lib.hid hz0
  clear hz0
  have hform' : errB (formB ⟨x.id, x.frm, x.kno, x.sort, x.num, x.den, x.off⟩) = 0 := by rw [show (⟨x.id, x.frm, x.kno, x.sort, x.num, x.den, x.off⟩ : Eqv) = x from rfl, hform]; rfl
  clear hform
  unfold eqV
  go_enter Tryz.func102, Tryz.ntmps102
  go_wp2_with fail
  refine (checkEqual_any _ _ _ _ _ _ _ hs _).mono ?_
  rintro e w1 ⟨rfl, hk1⟩
  obtain ⟨hc1, hf1, hz1⟩ := hk1.facts
  have ct1 := Cells7.kept (x := x) (b := w.heap.size) (o := 0) ⟨by simp [go_sem], by simp [go_sem], by simp [go_sem], by simp [go_sem], by simp [go_sem], by simp [go_sem], by simp [go_sem]⟩ hk1
  have CT1 := Lib.hid ct1
  have TT1 := Lib.hid ((Ht.out.kept ((Kept.refl _).alloc _)).kept hk1)
  clear ct1
  go_wp2_with fail
  refine (containsFunc_any 150 _ _ e150 b off n c xs _ (pred150 _ x _ CT1.out) Hn.out hbig TT1.out).mono ?_
  rintro e w2 ⟨rfl, hk2'⟩
  have hk2 := hk1.trans hk2'
  have CT2 := Lib.hid (CT1.out.kept hk2')
  have TT2 := Lib.hid (TT1.out.kept hk2')
  clear hc1 hf1 hz1
  obtain ⟨hc2, hf2, hz2⟩ := hk2.facts
  obtain ⟨l0, l1, l2, l3, l4, l5, l6⟩ := TT2.out (n - 1) z HZ.out
  have np : (0 : Int) < (n : Int) := by omega
  have gd : decide ((0 : Int) < (n : Int)) = true := by simpa using np
  have nw : IntKind.i64.wrap ((n : Int) - 1) = (n : Int) - 1 := IntWalk.i64_in _ (by omega)
  have nt : ((n : Int) - 1).toNat = n - 1 := by omega
  have nb : (0 : Int) ≤ (n : Int) - 1 := by omega
  have nc : (n : Int) - 1 < (n : Int) := by omega
  go_wp2_with fail
  go_quiet (fail)
  clear nw nt nb nc
  go_wp2_with fail
  go_ret
  exact ⟨rfl, ((Kept.refl _).alloc _).trans (hk2.drewN _)⟩
theorem ref_eq (b off n c : Nat) (xs : List Eqv) (x : Eqv) (hs : x.sort.size ≤ 9223372036854775807) (hn : xs.length = n) (hbig : n ≤ 9223372036854775807) (n200 : ((n : Int) == 200) = false) (hform : formB x = true) (i1 : xs.any (fun y => y.id == x.id) = false) (z : Eqv) (hz0 : xs[n - 1]? = some z) (npos : 0 < n) (ltm : ¬ (x.kno < z.kno)) (o0 : (x.off == 0) = true) (w : World) (ht : Tab w b off xs) :
    Calls Tryz.prog 102 #[.slice (some ⟨b, off, none⟩) n c, eqV x] w fun e w' => e = .returned (.int .i64 0) ∧ Kept w w' := by
  have hmf : ∀ (fn : Fn) (first cap : Array Value) (w : World), (Instr.makeFunc fn first cap).run Tryz.prog w = .ok (.func fn first cap) w := fun _ _ _ _ => rfl
  have Hn := Lib.hid hn
  have Ht := Lib.hid ht
  clear hn ht
  have HZ := Lib.hid hz0
  clear hz0
  have hform' : errB (formB ⟨x.id, x.frm, x.kno, x.sort, x.num, x.den, x.off⟩) = 0 := by rw [show (⟨x.id, x.frm, x.kno, x.sort, x.num, x.den, x.off⟩ : Eqv) = x from rfl, hform]; rfl
  clear hform
  unfold eqV
  go_enter Tryz.func102, Tryz.ntmps102
  go_wp2_with fail
  refine (checkEqual_any _ _ _ _ _ _ _ hs _).mono ?_
  rintro e w1 ⟨rfl, hk1⟩
  obtain ⟨hc1, hf1, hz1⟩ := hk1.facts
  have ct1 := Cells7.kept (x := x) (b := w.heap.size) (o := 0) ⟨by simp [go_sem], by simp [go_sem], by simp [go_sem], by simp [go_sem], by simp [go_sem], by simp [go_sem], by simp [go_sem]⟩ hk1
  have CT1 := Lib.hid ct1
  have TT1 := Lib.hid ((Ht.out.kept ((Kept.refl _).alloc _)).kept hk1)
  clear ct1
  go_wp2_with fail
  refine (containsFunc_any 150 _ _ e150 b off n c xs _ (pred150 _ x _ CT1.out) Hn.out hbig TT1.out).mono ?_
  rintro e w2 ⟨rfl, hk2'⟩
  have hk2 := hk1.trans hk2'
  have CT2 := Lib.hid (CT1.out.kept hk2')
  have TT2 := Lib.hid (TT1.out.kept hk2')
  clear hc1 hf1 hz1
  obtain ⟨hc2, hf2, hz2⟩ := hk2.facts
  obtain ⟨l0, l1, l2, l3, l4, l5, l6⟩ := TT2.out (n - 1) z HZ.out
  have np : (0 : Int) < (n : Int) := by omega
  have gd : decide ((0 : Int) < (n : Int)) = true := by simpa using np
  have nw : IntKind.i64.wrap ((n : Int) - 1) = (n : Int) - 1 := IntWalk.i64_in _ (by omega)
  have nt : ((n : Int) - 1).toNat = n - 1 := by omega
  have nb : (0 : Int) ≤ (n : Int) - 1 := by omega
  have nc : (n : Int) - 1 < (n : Int) := by omega
  go_wp2_with fail
  go_quiet (fail)
  clear nw nt nb nc
  go_wp2_with fail
  go_ret
  exact ⟨rfl, ((Kept.refl _).alloc _).trans (hk2.drewN _)⟩
theorem ref_none (b off n c : Nat) (xs : List Eqv) (x : Eqv) (hs : x.sort.size ≤ 9223372036854775807) (hn : xs.length = n) (hbig : n ≤ 9223372036854775807) (n200 : ((n : Int) == 200) = false) (hform : formB x = true) (i1 : xs.any (fun y => y.id == x.id) = false) (z : Eqv) (hz0 : xs[n - 1]? = some z) (npos : 0 < n) (ltm : ¬ (x.kno < z.kno)) (o0 : (x.off == 0) = false) (i2 : xs.any (fun y => y.id == x.off && y.off == 0) = false) (w : World) (ht : Tab w b off xs) :
    Calls Tryz.prog 102 #[.slice (some ⟨b, off, none⟩) n c, eqV x] w fun e w' => e = .returned (.int .i64 5) ∧ Kept w w' := by
  have hmf : ∀ (fn : Fn) (first cap : Array Value) (w : World), (Instr.makeFunc fn first cap).run Tryz.prog w = .ok (.func fn first cap) w := fun _ _ _ _ => rfl
  have Hn := Lib.hid hn
  have Ht := Lib.hid ht
  clear hn ht
  have HZ := Lib.hid hz0
  clear hz0
  have hform' : errB (formB ⟨x.id, x.frm, x.kno, x.sort, x.num, x.den, x.off⟩) = 0 := by rw [show (⟨x.id, x.frm, x.kno, x.sort, x.num, x.den, x.off⟩ : Eqv) = x from rfl, hform]; rfl
  clear hform
  unfold eqV
  go_enter Tryz.func102, Tryz.ntmps102
  go_wp2_with fail
  refine (checkEqual_any _ _ _ _ _ _ _ hs _).mono ?_
  rintro e w1 ⟨rfl, hk1⟩
  obtain ⟨hc1, hf1, hz1⟩ := hk1.facts
  have ct1 := Cells7.kept (x := x) (b := w.heap.size) (o := 0) ⟨by simp [go_sem], by simp [go_sem], by simp [go_sem], by simp [go_sem], by simp [go_sem], by simp [go_sem], by simp [go_sem]⟩ hk1
  have CT1 := Lib.hid ct1
  have TT1 := Lib.hid ((Ht.out.kept ((Kept.refl _).alloc _)).kept hk1)
  clear ct1
  go_wp2_with fail
  refine (containsFunc_any 150 _ _ e150 b off n c xs _ (pred150 _ x _ CT1.out) Hn.out hbig TT1.out).mono ?_
  rintro e w2 ⟨rfl, hk2'⟩
  have hk2 := hk1.trans hk2'
  have CT2 := Lib.hid (CT1.out.kept hk2')
  have TT2 := Lib.hid (TT1.out.kept hk2')
  clear hc1 hf1 hz1
  obtain ⟨hc2, hf2, hz2⟩ := hk2.facts
  obtain ⟨l0, l1, l2, l3, l4, l5, l6⟩ := TT2.out (n - 1) z HZ.out
  have np : (0 : Int) < (n : Int) := by omega
  have gd : decide ((0 : Int) < (n : Int)) = true := by simpa using np
  have nw : IntKind.i64.wrap ((n : Int) - 1) = (n : Int) - 1 := IntWalk.i64_in _ (by omega)
  have nt : ((n : Int) - 1).toNat = n - 1 := by omega
  have nb : (0 : Int) ≤ (n : Int) - 1 := by omega
  have nc : (n : Int) - 1 < (n : Int) := by omega
  go_wp2_with fail
  go_quiet (fail)
  clear nw nt nb nc
  go_wp2_with fail
  refine (containsFunc_any 151 _ _ e151 b off n c xs _ (pred151 _ x _ (CT2.out.kept ((Kept.refl _).drewN _))) Hn.out hbig (TT2.out.kept ((Kept.refl _).drewN _))).mono ?_
  rintro e w3 ⟨rfl, hk3'⟩
  have hk3 := (hk2.drewN _).trans hk3'
  have CT3 := Lib.hid ((CT2.out.kept ((Kept.refl _).drewN _)).kept hk3')
  have TT3 := Lib.hid ((TT2.out.kept ((Kept.refl _).drewN _)).kept hk3')
  clear hc2 hf2 hz2
  obtain ⟨hc3, hf3, hz3⟩ := hk3.facts
  go_wp2_with fail
  go_ret
  exact ⟨rfl, ((Kept.refl _).alloc _).trans hk3⟩
theorem ref_twice (b off n c : Nat) (xs : List Eqv) (x : Eqv) (hs : x.sort.size ≤ 9223372036854775807) (hn : xs.length = n) (hbig : n ≤ 9223372036854775807) (n200 : ((n : Int) == 200) = false) (hform : formB x = true) (i1 : xs.any (fun y => y.id == x.id) = false) (z : Eqv) (hz0 : xs[n - 1]? = some z) (npos : 0 < n) (ltm : ¬ (x.kno < z.kno)) (o0 : (x.off == 0) = false) (i2 : xs.any (fun y => y.id == x.off && y.off == 0) = true) (i3 : xs.any (fun y => y.off == x.off) = true) (w : World) (ht : Tab w b off xs) :
    Calls Tryz.prog 102 #[.slice (some ⟨b, off, none⟩) n c, eqV x] w fun e w' => e = .returned (.int .i64 6) ∧ Kept w w' := by
  have hmf : ∀ (fn : Fn) (first cap : Array Value) (w : World), (Instr.makeFunc fn first cap).run Tryz.prog w = .ok (.func fn first cap) w := fun _ _ _ _ => rfl
  have Hn := Lib.hid hn
  have Ht := Lib.hid ht
  clear hn ht
  have HZ := Lib.hid hz0
  clear hz0
  have hform' : errB (formB ⟨x.id, x.frm, x.kno, x.sort, x.num, x.den, x.off⟩) = 0 := by rw [show (⟨x.id, x.frm, x.kno, x.sort, x.num, x.den, x.off⟩ : Eqv) = x from rfl, hform]; rfl
  clear hform
  unfold eqV
  go_enter Tryz.func102, Tryz.ntmps102
  go_wp2_with fail
  refine (checkEqual_any _ _ _ _ _ _ _ hs _).mono ?_
  rintro e w1 ⟨rfl, hk1⟩
  obtain ⟨hc1, hf1, hz1⟩ := hk1.facts
  have ct1 := Cells7.kept (x := x) (b := w.heap.size) (o := 0) ⟨by simp [go_sem], by simp [go_sem], by simp [go_sem], by simp [go_sem], by simp [go_sem], by simp [go_sem], by simp [go_sem]⟩ hk1
  have CT1 := Lib.hid ct1
  have TT1 := Lib.hid ((Ht.out.kept ((Kept.refl _).alloc _)).kept hk1)
  clear ct1
  go_wp2_with fail
  refine (containsFunc_any 150 _ _ e150 b off n c xs _ (pred150 _ x _ CT1.out) Hn.out hbig TT1.out).mono ?_
  rintro e w2 ⟨rfl, hk2'⟩
  have hk2 := hk1.trans hk2'
  have CT2 := Lib.hid (CT1.out.kept hk2')
  have TT2 := Lib.hid (TT1.out.kept hk2')
  clear hc1 hf1 hz1
  obtain ⟨hc2, hf2, hz2⟩ := hk2.facts
  obtain ⟨l0, l1, l2, l3, l4, l5, l6⟩ := TT2.out (n - 1) z HZ.out
  have np : (0 : Int) < (n : Int) := by omega
  have gd : decide ((0 : Int) < (n : Int)) = true := by simpa using np
  have nw : IntKind.i64.wrap ((n : Int) - 1) = (n : Int) - 1 := IntWalk.i64_in _ (by omega)
  have nt : ((n : Int) - 1).toNat = n - 1 := by omega
  have nb : (0 : Int) ≤ (n : Int) - 1 := by omega
  have nc : (n : Int) - 1 < (n : Int) := by omega
  go_wp2_with fail
  go_quiet (fail)
  clear nw nt nb nc
  go_wp2_with fail
  refine (containsFunc_any 151 _ _ e151 b off n c xs _ (pred151 _ x _ (CT2.out.kept ((Kept.refl _).drewN _))) Hn.out hbig (TT2.out.kept ((Kept.refl _).drewN _))).mono ?_
  rintro e w3 ⟨rfl, hk3'⟩
  have hk3 := (hk2.drewN _).trans hk3'
  have CT3 := Lib.hid ((CT2.out.kept ((Kept.refl _).drewN _)).kept hk3')
  have TT3 := Lib.hid ((TT2.out.kept ((Kept.refl _).drewN _)).kept hk3')
  clear hc2 hf2 hz2
  obtain ⟨hc3, hf3, hz3⟩ := hk3.facts
  go_wp2_with fail
  refine (containsFunc_any 152 _ _ e152 b off n c xs _ (pred152 _ x _ CT3.out) Hn.out hbig TT3.out).mono ?_
  rintro e w4 ⟨rfl, hk4'⟩
  have hk4 := hk3.trans hk4'
  have CT4 := Lib.hid (CT3.out.kept hk4')
  have TT4 := Lib.hid (TT3.out.kept hk4')
  clear hc3 hf3 hz3
  obtain ⟨hc4, hf4, hz4⟩ := hk4.facts
  go_wp2_with fail
  go_ret
  exact ⟨rfl, ((Kept.refl _).alloc _).trans hk4⟩
theorem ref_ok (b off n c : Nat) (xs : List Eqv) (x : Eqv) (hs : x.sort.size ≤ 9223372036854775807) (hn : xs.length = n) (hbig : n ≤ 9223372036854775807) (n200 : ((n : Int) == 200) = false) (hform : formB x = true) (i1 : xs.any (fun y => y.id == x.id) = false) (z : Eqv) (hz0 : xs[n - 1]? = some z) (npos : 0 < n) (ltm : ¬ (x.kno < z.kno)) (o0 : (x.off == 0) = false) (i2 : xs.any (fun y => y.id == x.off && y.off == 0) = true) (i3 : xs.any (fun y => y.off == x.off) = false) (w : World) (ht : Tab w b off xs) :
    Calls Tryz.prog 102 #[.slice (some ⟨b, off, none⟩) n c, eqV x] w fun e w' => e = .returned (.int .i64 0) ∧ Kept w w' := by
  have hmf : ∀ (fn : Fn) (first cap : Array Value) (w : World), (Instr.makeFunc fn first cap).run Tryz.prog w = .ok (.func fn first cap) w := fun _ _ _ _ => rfl
  have Hn := Lib.hid hn
  have Ht := Lib.hid ht
  clear hn ht
  have HZ := Lib.hid hz0
  clear hz0
  have hform' : errB (formB ⟨x.id, x.frm, x.kno, x.sort, x.num, x.den, x.off⟩) = 0 := by rw [show (⟨x.id, x.frm, x.kno, x.sort, x.num, x.den, x.off⟩ : Eqv) = x from rfl, hform]; rfl
  clear hform
  unfold eqV
  go_enter Tryz.func102, Tryz.ntmps102
  go_wp2_with fail
  refine (checkEqual_any _ _ _ _ _ _ _ hs _).mono ?_
  rintro e w1 ⟨rfl, hk1⟩
  obtain ⟨hc1, hf1, hz1⟩ := hk1.facts
  have ct1 := Cells7.kept (x := x) (b := w.heap.size) (o := 0) ⟨by simp [go_sem], by simp [go_sem], by simp [go_sem], by simp [go_sem], by simp [go_sem], by simp [go_sem], by simp [go_sem]⟩ hk1
  have CT1 := Lib.hid ct1
  have TT1 := Lib.hid ((Ht.out.kept ((Kept.refl _).alloc _)).kept hk1)
  clear ct1
  go_wp2_with fail
  refine (containsFunc_any 150 _ _ e150 b off n c xs _ (pred150 _ x _ CT1.out) Hn.out hbig TT1.out).mono ?_
  rintro e w2 ⟨rfl, hk2'⟩
  have hk2 := hk1.trans hk2'
  have CT2 := Lib.hid (CT1.out.kept hk2')
  have TT2 := Lib.hid (TT1.out.kept hk2')
  clear hc1 hf1 hz1
  obtain ⟨hc2, hf2, hz2⟩ := hk2.facts
  obtain ⟨l0, l1, l2, l3, l4, l5, l6⟩ := TT2.out (n - 1) z HZ.out
  have np : (0 : Int) < (n : Int) := by omega
  have gd : decide ((0 : Int) < (n : Int)) = true := by simpa using np
  have nw : IntKind.i64.wrap ((n : Int) - 1) = (n : Int) - 1 := IntWalk.i64_in _ (by omega)
  have nt : ((n : Int) - 1).toNat = n - 1 := by omega
  have nb : (0 : Int) ≤ (n : Int) - 1 := by omega
  have nc : (n : Int) - 1 < (n : Int) := by omega
  go_wp2_with fail
  go_quiet (fail)
  clear nw nt nb nc
  go_wp2_with fail
  refine (containsFunc_any 151 _ _ e151 b off n c xs _ (pred151 _ x _ (CT2.out.kept ((Kept.refl _).drewN _))) Hn.out hbig (TT2.out.kept ((Kept.refl _).drewN _))).mono ?_
  rintro e w3 ⟨rfl, hk3'⟩
  have hk3 := (hk2.drewN _).trans hk3'
  have CT3 := Lib.hid ((CT2.out.kept ((Kept.refl _).drewN _)).kept hk3')
  have TT3 := Lib.hid ((TT2.out.kept ((Kept.refl _).drewN _)).kept hk3')
  clear hc2 hf2 hz2
  obtain ⟨hc3, hf3, hz3⟩ := hk3.facts
  go_wp2_with fail
  refine (containsFunc_any 152 _ _ e152 b off n c xs _ (pred152 _ x _ CT3.out) Hn.out hbig TT3.out).mono ?_
  rintro e w4 ⟨rfl, hk4'⟩
  have hk4 := hk3.trans hk4'
  have CT4 := Lib.hid (CT3.out.kept hk4')
  have TT4 := Lib.hid (TT3.out.kept hk4')
  clear hc3 hf3 hz3
  obtain ⟨hc4, hf4, hz4⟩ := hk4.facts
  go_wp2_with fail
  go_ret
  exact ⟨rfl, ((Kept.refl _).alloc _).trans hk4⟩
theorem ref0_form (A : Option Addr) (c : Nat) (x : Eqv) (hs : x.sort.size ≤ 9223372036854775807) (hform : formB x = false) (w : World) :
    Calls Tryz.prog 102 #[.slice A 0 c, eqV x] w fun e w' => e = .returned (.int .i64 1) ∧ Kept w w' := by
  have hmf : ∀ (fn : Fn) (first cap : Array Value) (w : World), (Instr.makeFunc fn first cap).run Tryz.prog w = .ok (.func fn first cap) w := fun _ _ _ _ => rfl
  have hform' : errB (formB ⟨x.id, x.frm, x.kno, x.sort, x.num, x.den, x.off⟩) = 1 := by rw [show (⟨x.id, x.frm, x.kno, x.sort, x.num, x.den, x.off⟩ : Eqv) = x from rfl, hform]; rfl
  clear hform
  unfold eqV
  go_enter Tryz.func102, Tryz.ntmps102
  go_wp2_with fail
  refine (checkEqual_any _ _ _ _ _ _ _ hs _).mono ?_
  rintro e w1 ⟨rfl, hk1⟩
  obtain ⟨hc1, hf1, hz1⟩ := hk1.facts
  go_wp2_with fail
  go_ret
  exact ⟨rfl, ((Kept.refl _).alloc _).trans hk1⟩
theorem ref0_eq (A : Option Addr) (c : Nat) (x : Eqv) (hs : x.sort.size ≤ 9223372036854775807) (hform : formB x = true) (o0 : (x.off == 0) = true) (w : World) :
    Calls Tryz.prog 102 #[.slice A 0 c, eqV x] w fun e w' => e = .returned (.int .i64 0) ∧ Kept w w' := by
  have hmf : ∀ (fn : Fn) (first cap : Array Value) (w : World), (Instr.makeFunc fn first cap).run Tryz.prog w = .ok (.func fn first cap) w := fun _ _ _ _ => rfl
  have hform' : errB (formB ⟨x.id, x.frm, x.kno, x.sort, x.num, x.den, x.off⟩) = 0 := by rw [show (⟨x.id, x.frm, x.kno, x.sort, x.num, x.den, x.off⟩ : Eqv) = x from rfl, hform]; rfl
  clear hform
  unfold eqV
  go_enter Tryz.func102, Tryz.ntmps102
  go_wp2_with fail
  refine (checkEqual_any _ _ _ _ _ _ _ hs _).mono ?_
  rintro e w1 ⟨rfl, hk1⟩
  obtain ⟨hc1, hf1, hz1⟩ := hk1.facts
  go_wp2_with fail
  refine (containsFunc_nil _ _ _ _ _).mono ?_
  rintro e w2 ⟨rfl, hk2'⟩
  have hk2 := hk1.trans hk2'
  clear hc1 hf1 hz1
  obtain ⟨hc2, hf2, hz2⟩ := hk2.facts
  go_wp2_with fail
  go_quiet (fail)
  go_wp2_with fail
  go_ret
  exact ⟨rfl, ((Kept.refl _).alloc _).trans (hk2.drewN _)⟩
theorem ref0_none (A : Option Addr) (c : Nat) (x : Eqv) (hs : x.sort.size ≤ 9223372036854775807) (hform : formB x = true) (o0 : (x.off == 0) = false) (w : World) :
    Calls Tryz.prog 102 #[.slice A 0 c, eqV x] w fun e w' => e = .returned (.int .i64 5) ∧ Kept w w' := by
  have hmf : ∀ (fn : Fn) (first cap : Array Value) (w : World), (Instr.makeFunc fn first cap).run Tryz.prog w = .ok (.func fn first cap) w := fun _ _ _ _ => rfl
  have hform' : errB (formB ⟨x.id, x.frm, x.kno, x.sort, x.num, x.den, x.off⟩) = 0 := by rw [show (⟨x.id, x.frm, x.kno, x.sort, x.num, x.den, x.off⟩ : Eqv) = x from rfl, hform]; rfl
  clear hform
  unfold eqV
  go_enter Tryz.func102, Tryz.ntmps102
  go_wp2_with fail
  refine (checkEqual_any _ _ _ _ _ _ _ hs _).mono ?_
  rintro e w1 ⟨rfl, hk1⟩
  obtain ⟨hc1, hf1, hz1⟩ := hk1.facts
  go_wp2_with fail
  refine (containsFunc_nil _ _ _ _ _).mono ?_
  rintro e w2 ⟨rfl, hk2'⟩
  have hk2 := hk1.trans hk2'
  clear hc1 hf1 hz1
  obtain ⟨hc2, hf2, hz2⟩ := hk2.facts
  go_wp2_with fail
  go_quiet (fail)
  go_wp2_with fail
  refine (containsFunc_nil _ _ _ _ _).mono ?_
  rintro e w3 ⟨rfl, hk3'⟩
  have hk3 := (hk2.drewN _).trans hk3'
  clear hc2 hf2 hz2
  obtain ⟨hc3, hf3, hz3⟩ := hk3.facts
  go_wp2_with fail
  go_ret
  exact ⟨rfl, ((Kept.refl _).alloc _).trans hk3⟩
end Go.Proofs.YtcjpecdnenemaaaGreatDoor

namespace Go.Proofs.YtcjpecdnenemaaaGreatDoor
set_option linter.unusedVariables false
open Go.RowKit Go.Shelf

/-- a slice that holds the records xs -/
def TabA (w : World) (A : Option Addr) (n c : Nat) (xs : List Eqv) : Prop :=
  xs.length = n ∧ n ≤ c ∧ c ≤ 9223372036854775807 ∧ (∀ x ∈ xs, x.sort.size ≤ 9223372036854775807) ∧ (0 < n → ∃ b off, A = some ⟨b, off, none⟩ ∧ Tab w b off xs)
theorem TabA.kept {w w' : World} {A : Option Addr} {n c : Nat} {xs : List Eqv} (h : TabA w A n c xs) (hk : Kept w w') : TabA w' A n c xs :=
  ⟨h.1, h.2.1, h.2.2.1, h.2.2.2.1, fun hn => by
    obtain ⟨b, off, e, ht⟩ := h.2.2.2.2 hn
    exact ⟨b, off, e, ht.kept hk⟩⟩
theorem TabA.take {w : World} {A : Option Addr} {n c : Nat} {xs : List Eqv} (h : TabA w A n c xs) {k : Nat} (hk : k ≤ n) : TabA w A k c (xs.take k) :=
  ⟨by rw [List.length_take]; have := h.1; omega, by have := h.2.1; omega, h.2.2.1, fun x hx => h.2.2.2.1 x (List.mem_of_mem_take hx), fun hn => by
    obtain ⟨b, off, e, ht⟩ := h.2.2.2.2 (by omega)
    refine ⟨b, off, e, fun i x hx => ht i x ?_⟩
    rw [List.getElem?_take] at hx
    split at hx
    · exact hx
    · cases hx⟩

theorem refusal_any (A : Option Addr) (n c : Nat) (xs : List Eqv) (x : Eqv) (hs : x.sort.size ≤ 9223372036854775807) (w : World) (h : TabA w A n c xs) :
    Calls Tryz.prog 102 #[.slice A n c, eqV x] w fun e w' => e = .returned (.int .i64 (refS xs x)) ∧ Kept w w' := by
  obtain ⟨hn, hc, hm, hss, ht⟩ := h
  have hbig : n ≤ 9223372036854775807 := by omega
  rcases Nat.eq_zero_or_pos n with h0 | hpos
  · subst h0
    have hx : xs = [] := List.eq_nil_of_length_eq_zero hn
    subst hx
    by_cases hf : formB x = true
    · by_cases ho : x.off = 0
      · have e : refS [] x = 0 := by simp [refS, hf, ho]
        rw [e]
        exact ref0_eq A c x hs hf (by simp [ho]) w
      · have e : refS [] x = 5 := by simp [refS, hf, ho]
        rw [e]
        exact ref0_none A c x hs hf (by simp [ho]) w
    · have hf' : formB x = false := by simpa using hf
      have e : refS [] x = 1 := by simp [refS, hf']
      rw [e]
      exact ref0_form A c x hs hf' w
  · obtain ⟨b, off, rfl, htab⟩ := ht hpos
    by_cases h200 : n = 200
    · subst h200
      have e : refS xs x = 2 := by simp [refS, hn]
      rw [e]
      exact refusal_full b off c x w
    have n200 : ((n : Int) == 200) = false := by simp; omega
    have e1 : ¬ xs.length = 200 := by omega
    by_cases hf : formB x = true
    · by_cases i1 : xs.any (fun y => y.id == x.id) = true
      · have e : refS xs x = 6 := by unfold refS; rw [if_neg e1, if_neg (by simp [hf]), if_pos i1]
        rw [e]
        exact ref_id b off n c xs x hs hn hbig n200 hf i1 w htab
      · have i1' : xs.any (fun y => y.id == x.id) = false := by simpa using i1
        obtain ⟨z, hz⟩ : ∃ z, xs[n - 1]? = some z := ⟨xs[n - 1]'(by omega), List.getElem?_eq_getElem (by omega)⟩
        have hl : xs.getLast? = some z := by rw [List.getLast?_eq_getElem?, hn, hz]
        by_cases lt : x.kno < z.kno
        · have e : refS xs x = 7 := by unfold refS; rw [if_neg e1, if_neg (by simp [hf]), if_neg i1, hl, if_pos (by simp [lt])]
          rw [e]
          exact ref_time b off n c xs x hs hn hbig n200 hf i1' z hz hpos lt w htab
        · have pre : refS xs x = if x.off = 0 then 0 else if xs.any (fun y => y.id == x.off && y.off == 0) = false then 5 else if xs.any (fun y => y.off == x.off) = true then 6 else 0 := by
            unfold refS; rw [if_neg e1, if_neg (by simp [hf]), if_neg i1, hl, if_neg (by simp [lt])]
          rw [pre]
          by_cases ho : x.off = 0
          · rw [if_pos ho]
            exact ref_eq b off n c xs x hs hn hbig n200 hf i1' z hz hpos lt (by simp [ho]) w htab
          · rw [if_neg ho]
            by_cases i2 : xs.any (fun y => y.id == x.off && y.off == 0) = true
            · rw [if_neg (by simp [i2])]
              by_cases i3 : xs.any (fun y => y.off == x.off) = true
              · rw [if_pos i3]
                exact ref_twice b off n c xs x hs hn hbig n200 hf i1' z hz hpos lt (by simp [ho]) i2 i3 w htab
              · rw [if_neg i3]
                exact ref_ok b off n c xs x hs hn hbig n200 hf i1' z hz hpos lt (by simp [ho]) i2 (by simpa using i3) w htab
            · have i2' : xs.any (fun y => y.id == x.off && y.off == 0) = false := by simpa using i2
              rw [if_pos i2']
              exact ref_none b off n c xs x hs hn hbig n200 hf i1' z hz hpos lt (by simp [ho]) i2' w htab
    · have hf' : formB x = false := by simpa using hf
      have e : refS xs x = 1 := by unfold refS; rw [if_neg e1, if_pos hf']
      rw [e]
      exact ref_form b off n c xs x hs hn hbig n200 hf' w htab

/-- the error at an index of a table -/
def refAt (xs : List Eqv) (i : Nat) : Int := match xs[i]? with | some x => refS (xs.take i) x | none => 0
/-- the first index that is refused, and why -/
def chkS (xs : List Eqv) : Int × Int := match (List.range xs.length).find? (fun i => refAt xs i != 0) with | some i => ((i : Int), refAt xs i) | none => (0, 0)
theorem chkS_at {xs : List Eqv} {k : Nat} (hk : k < xs.length) (h : refAt xs k ≠ 0) (ho : ∀ j, j < k → refAt xs j = 0) : chkS xs = ((k : Int), refAt xs k) := by
  have : (List.range xs.length).find? (fun i => refAt xs i != 0) = some k := by
    rw [List.find?_range_eq_some]
    exact ⟨by simp [h], by simpa using hk, fun j hj => by simp [ho j hj]⟩
  unfold chkS
  rw [this]
theorem chkS_none {xs : List Eqv} (ho : ∀ j, j < xs.length → refAt xs j = 0) : chkS xs = (0, 0) := by
  have : (List.range xs.length).find? (fun i => refAt xs i != 0) = none := by
    rw [List.find?_eq_none]
    intro j hj
    simp [ho j (by simpa using hj)]
  unfold chkS
  rw [this]

theorem check_any (A : Option Addr) (n c : Nat) (xs : List Eqv) (w : World) (h : TabA w A n c xs) :
    Calls Tryz.prog 36 #[.slice A n c] w fun e w' => e = .returned (.tuple #[.int .i64 (chkS xs).1, .int .i64 (chkS xs).2]) ∧ Kept w w' := by
  have hm := h.2.2.1
  have hnc := h.2.1
  have H := Lib.hid h
  clear h
  go_enter Tryz.func36, Tryz.ntmps36
  go_wp2_with fail
  go_loopw [9] (fun i wr => ∃ k : Nat, k ≤ n ∧ i = .int .i64 k ∧ (∀ j, j < k → refAt xs j = 0) ∧ Kept w wr) (fun i _ => n - (intOf i).toNat)
  case atStart => exact ⟨0, by omega, by first | rfl | go_num, fun j hj => by omega, Kept.refl _⟩
  case round =>
    obtain ⟨k, hk, rfl, ho, hkr⟩ := hrel
    have Ho := Lib.hid ho
    clear ho
    by_cases hlt : k < n
    · obtain ⟨b, off, hA, htab⟩ := H.out.2.2.2.2 (by omega)
      subst hA
      have hxl : k < xs.length := by rw [H.out.1]; exact hlt
      obtain ⟨x, hx⟩ : ∃ x, xs[k]? = some x := ⟨xs[k]'hxl, List.getElem?_eq_getElem hxl⟩
      have hsx := H.out.2.2.2.1 x (List.mem_of_getElem? hx)
      have hra : refAt xs k = refS (xs.take k) x := by unfold refAt; rw [hx]
      have HRA := Lib.hid hra
      obtain ⟨c0, c1, c2, c3, c4, c5, c6⟩ := (htab k x hx).kept hkr
      have HT := Lib.hid (htab.kept hkr)
      have HK := Lib.hid (H.out.take (k := k) (by omega))
      clear hx hra htab
      generalize hR : refS (xs.take k) x = R at HRA
      have HR := Lib.hid hR
      clear hR
      by_cases hR0 : R = 0
      · have hR0' : (R != 0) = false := by simp [hR0]
        have HZ := Lib.hid (HRA.out.trans hR0)
        clear hR0
        go_wp2_with fail
        go_region_with (go_at_call 102; refine (refusal_any _ k c (xs.take k) x hsx _ ((HK.out.kept hkr).kept (((Kept.refl wr).alloc _).drew))).mono ?_; rw [HR.out]; rintro e w1 ⟨rfl, hk1'⟩; have hk1 := (hkr.alloc _).drew.trans hk1')
        all_goals
          go_wp2
          go_roundw
          case rel =>
            refine ⟨k + 1, by omega, by go_num, fun j hj => ?_, hk1⟩
            rcases Nat.lt_or_eq_of_le (Nat.le_of_lt_succ hj) with h | h
            · exact Ho.out j h
            · rw [h]; exact HZ.out
          case measure => simp [intOf]; omega
      · have hR0' : (R != 0) = true := by simp [hR0]
        have HN := Lib.hid hR0
        clear hR0
        go_wp2_with fail
        go_region_with (go_at_call 102; refine (refusal_any _ k c (xs.take k) x hsx _ ((HK.out.kept hkr).kept (((Kept.refl wr).alloc _).drew))).mono ?_; rw [HR.out]; rintro e w1 ⟨rfl, hk1'⟩; have hk1 := (hkr.alloc _).drew.trans hk1')
        all_goals
          go_wp2
          go_ret2
          have e := chkS_at hxl (by rw [HRA.out]; exact HN.out) Ho.out
          exact ⟨by rw [e, HRA.out]; rfl, hk1⟩
    · obtain rfl : k = n := by omega
      go_wp2
      go_ret2
      have e := chkS_none (xs := xs) (fun j hj => Ho.out j (by have := H.out.1; omega))
      exact ⟨by rw [e]; rfl, hkr⟩
end Go.Proofs.YtcjpecdnenemaaaGreatDoor
