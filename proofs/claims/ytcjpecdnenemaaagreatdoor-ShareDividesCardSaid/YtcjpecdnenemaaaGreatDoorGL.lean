/-
  sumOf; rows of ints in memory.
  Divide.
  Divide: the walk.
-/
import Derived.Test.YtcjpecdnenemaaaGreatDoorGJ
import Derived.Test.YtcjpecdnenemaaaGreatDoorGA
import Derived.Laws.MakeOwn
namespace Go.Proofs.YtcjpecdnenemaaaGreatDoor
set_option linter.all false
open Go.RowKit Go.Shelf

/-- a slice that holds the ints zs -/
def IntsA (w : World) (A : Option Addr) (n c : Nat) (zs : List Int) : Prop :=
  zs.length = n ∧ n ≤ c ∧ c ≤ 9223372036854775807 ∧ (∀ z ∈ zs, -9223372036854775808 ≤ z ∧ z ≤ 9223372036854775807) ∧ (0 < n → ∃ b off, A = some ⟨b, off, none⟩ ∧ ∀ j z, zs[j]? = some z → w.cell? ⟨b, off + j, none⟩ = some (.int .i64 z))
theorem IntsA.kept {w w' : World} {A : Option Addr} {n c : Nat} {zs : List Int} (h : IntsA w A n c zs) (hk : Kept w w') : IntsA w' A n c zs :=
  ⟨h.1, h.2.1, h.2.2.1, h.2.2.2.1, fun hn => by
    obtain ⟨b, off, e, ht⟩ := h.2.2.2.2 hn
    exact ⟨b, off, e, fun j z hj => (hk.cells _ _ (cell_lt (ht j z hj))).trans (ht j z hj)⟩⟩

def partsB (zs : List Int) : Bool := zs.all fun z => inB z 0 1000
/-- what sumOf returns -/
def sumOfS (zs : List Int) (d : Bool) : Int × Int :=
  if 40 < zs.length then (0, 2) else if (d && partsB zs) = true then (if zs.sum = 0 then (0, 11) else (zs.sum, 0)) else (0, 1)
theorem sum_bd : ∀ (zs : List Int), partsB zs = true → 0 ≤ zs.sum ∧ zs.sum ≤ 1000 * zs.length
  | [], _ => by simp
  | z :: zs, h => by
    unfold partsB at h
    simp only [List.all_cons, Bool.and_eq_true] at h
    have ih := sum_bd zs h.2
    have := inB_iff.1 h.1
    simp only [List.sum_cons, List.length_cons]
    push_cast
    omega
theorem parts_snoc (zs : List Int) (z : Int) : partsB (zs ++ [z]) = (partsB zs && inB z 0 1000) := by simp [partsB]

set_option maxHeartbeats 1000000 in
theorem sumOf_any (A : Option Addr) (n c : Nat) (zs : List Int) (d : Bool) (w : World) (h : IntsA w A n c zs) :
    Calls Tryz.prog 134 #[.slice A n c, .bool d] w fun e w' => e = .returned (i2V (sumOfS zs d)) ∧ Kept w w' := by
  have H := Lib.hid h
  have hnc := h.2.1
  have hm := h.2.2.1
  clear h
  by_cases h40 : 40 < n
  · have HO := Lib.hid (show sumOfS zs d = (0, 2) by unfold sumOfS; rw [if_pos (by rw [H.out.1]; exact h40)])
    go_enter Tryz.func134, Tryz.ntmps134
    have h4 : (40 : Int) < (n : Int) := by omega
    go_wp2
    go_ret2
    exact ⟨by rw [HO.out]; rfl, Kept.refl _⟩
  · have h4 : ¬ (40 : Int) < (n : Int) := by omega
    go_enter Tryz.func134, Tryz.ntmps134
    go_wp2_with fail
    go_loopw [1, 6, 14] (fun dv sv i wr => ∃ (k : Nat) (s : Int), k ≤ n ∧ i = .int .i64 k ∧ sv = .int .i64 s ∧ dv = .bool (d && partsB (zs.take k)) ∧ ((d && partsB (zs.take k)) = true → s = (zs.take k).sum) ∧ Kept w wr) (fun _ _ i _ => n - (intOf i).toNat)
    case atStart => exact ⟨0, 0, by omega, by first | rfl | go_num, rfl, by simp [partsB], by simp, Kept.refl _⟩
    case round =>
      obtain ⟨k, s, hk, rfl, rfl, rfl, hs, hkr⟩ := hrel
      have HS := Lib.hid hs
      clear hs
      by_cases hlt : k < n
      · obtain ⟨b, off, hA, hc⟩ := H.out.2.2.2.2 (by omega)
        subst hA
        have hxl : k < zs.length := by rw [H.out.1]; exact hlt
        obtain ⟨z, hz⟩ : ∃ z, zs[k]? = some z := ⟨zs[k]'hxl, List.getElem?_eq_getElem hxl⟩
        obtain ⟨zb1, zb2⟩ := H.out.2.2.2.1 z (List.mem_of_getElem? hz)
        have c0 := (hkr.cells _ _ (cell_lt (hc k z hz))).trans (hc k z hz)
        have HP := Lib.hid (show partsB (zs.take (k + 1)) = (partsB (zs.take k) && inB z 0 1000) by rw [take_snoc' hz, parts_snoc])
        have HSum := Lib.hid (show (zs.take (k + 1)).sum = (zs.take k).sum + z by rw [take_snoc' hz]; simp)
        have HB := Lib.hid (fun (h : partsB (zs.take k) = true) => sum_bd _ h)
        have HL := Lib.hid (show (zs.take k).length = k by rw [List.length_take]; omega)
        clear hz hc
        rcases hd : (d && partsB (zs.take k)) with _ | _
        · have HD := Lib.hid hd
          clear hd
          go_wp2
          go_roundw
          case rel => exact ⟨k + 1, _, by omega, by go_num, rfl, by rw [HP.out, ← Bool.and_assoc, HD.out]; rfl, (by rw [HP.out, ← Bool.and_assoc, HD.out]; intro h; simp at h), hkr⟩
          case measure => simp [intOf]; omega
        · have HD := Lib.hid hd
          have hs' := HS.out hd
          have hpk : partsB (zs.take k) = true := by simp only [Bool.and_eq_true] at hd; exact hd.2
          have hb := HB.out hpk
          rw [HL.out] at hb
          rw [← hs'] at hb
          obtain ⟨hb1, hb2⟩ := hb
          have HS' := Lib.hid hs'
          clear hd hs' hpk
          by_cases hin : inB z 0 1000 = true
          · obtain ⟨i1, i2⟩ := inB_iff.1 hin
            have HI := Lib.hid hin
            clear hin
            go_wp2_with fail
            refine (within_any _ _ _ _).mono ?_
            rw [HI.out]
            rintro e w' ⟨rfl, rfl⟩
            go_wp2
            go_roundw
            case rel => exact ⟨k + 1, _, by omega, by go_num, rfl, by rw [HP.out, ← Bool.and_assoc, HD.out, HI.out]; rfl, fun _ => by rw [HSum.out, HS'.out], hkr⟩
            case measure => simp [intOf]; omega
          · have HI := Lib.hid (show inB z 0 1000 = false by simpa using hin)
            clear hin
            go_wp2_with fail
            refine (within_any _ _ _ _).mono ?_
            rw [HI.out]
            rintro e w' ⟨rfl, rfl⟩
            go_wp2
            go_roundw
            case rel => exact ⟨k + 1, _, by omega, by go_num, rfl, by rw [HP.out, ← Bool.and_assoc, HD.out, HI.out]; rfl, (by rw [HP.out, ← Bool.and_assoc, HD.out, HI.out]; intro h; simp at h), hkr⟩
            case measure => simp [intOf]; omega
      · obtain rfl : k = n := by omega
        have ht : zs.take k = zs := List.take_of_length_le (by rw [H.out.1]; exact Nat.le_refl _)
        rw [ht]
        rw [ht] at HS
        have h41 : ¬ 40 < zs.length := by rw [H.out.1]; exact h40
        rcases hd : (d && partsB zs) with _ | _
        · have HO := Lib.hid (show sumOfS zs d = (0, 1) by unfold sumOfS; rw [if_neg h41, if_neg (by rw [hd]; simp)])
          clear hd ht h41
          go_wp2
          go_ret2
          exact ⟨by rw [HO.out]; rfl, hkr⟩
        · have hs' := HS.out hd
          by_cases h0 : s = 0
          · have HO := Lib.hid (show sumOfS zs d = (0, 11) by unfold sumOfS; rw [if_neg h41, if_pos hd, if_pos (by rw [← hs']; exact h0)])
            subst h0
            clear hd ht h41 hs'
            go_wp2
            go_ret2
            exact ⟨by rw [HO.out]; rfl, hkr⟩
          · have HO := Lib.hid (show sumOfS zs d = (s, 0) by unfold sumOfS; rw [if_neg h41, if_pos hd, if_neg (by rw [← hs']; exact h0), ← hs'])
            have h0' : (s == 0) = false := by simp [h0]
            clear hd ht h41 hs' h0
            go_wp2
            go_ret2
            exact ⟨by rw [HO.out]; rfl, hkr⟩
end Go.Proofs.YtcjpecdnenemaaaGreatDoor

namespace Go.Proofs.YtcjpecdnenemaaaGreatDoor
set_option linter.all false
open Go.RowKit Go.Shelf

def fl2 (l : List (Int × Int)) : List Value := l.flatMap fun p => [.int .i64 p.1, .int .i64 p.2]
theorem fl2_len (l : List (Int × Int)) : (fl2 l).length = l.length * 2 := by
  induction l with
  | nil => rfl
  | cons x l ih =>
    have : (fl2 (x :: l)).length = 2 + (fl2 l).length := by unfold fl2; rw [List.flatMap_cons, List.length_append]; rfl
    rw [this, ih, List.length_cons]; omega
theorem fl2_snoc (l : List (Int × Int)) (p : Int × Int) : fl2 (l ++ [p]) = fl2 l ++ [.int .i64 p.1, .int .i64 p.2] := by simp [fl2]
def zer (n : Nat) : List Value := List.replicate n (.int .i64 0)
theorem made_zero2 (n : Nat) : madeCells #[.int .i64 0, .int .i64 0] n = (zer n).toArray := by
  unfold madeCells zer
  apply Array.ext
  · simp
  · intro i h1 h2
    simp
    have : i % 2 = 0 ∨ i % 2 = 1 := by omega
    rcases this with h | h <;> rw [h] <;> rfl
theorem set2 (A : List Value) (m k : Nat) (a b : Value) (hA : A.length = k * 2) : (((A ++ zer ((m + 1) * 2)).set (k * 2) a).set (k * 2 + 1) b) = A ++ [a, b] ++ zer (m * 2) := by
  have e : zer ((m + 1) * 2) = .int .i64 0 :: .int .i64 0 :: zer (m * 2) := by unfold zer; rw [show (m + 1) * 2 = m * 2 + 1 + 1 by omega, List.replicate_succ, List.replicate_succ]
  rw [e, List.set_append_right _ _ (by omega), hA, Nat.sub_self, List.set_cons_zero, List.set_append_right _ _ (by omega), hA, show k * 2 + 1 - k * 2 = 0 + 1 by omega, List.set_cons_succ, List.set_cons_zero]
  simp

/-- what each heir gets, by the sum of the parts -/
def shareS (sn sd s p : Int) : Int × Int × Int := normS (sn * p) (sd * s)
def shareE (sn sd s : Int) (zs : List Int) : Int := match zs.find? (fun p => (shareS sn sd s p).2.2 != 0) with | some p => (shareS sn sd s p).2.2 | none => 0
def shareL (sn sd s : Int) (zs : List Int) : List (Int × Int) := zs.map fun p => ((shareS sn sd s p).1, (shareS sn sd s p).2.1)
/-- what Divide returns -/
def divS (sn sd : Int) (zs : List Int) : List (Int × Int) × Int :=
  let r := sumOfS zs (vld sn sd && decide (0 ≤ sn))
  if r.2 = 0 then (if shareE sn sd r.1 zs = 0 then (shareL sn sd r.1 zs, 0) else ([], shareE sn sd r.1 zs)) else ([], r.2)
def DivRes (w : World) (r : List (Int × Int) × Int) (e : Ending) (w' : World) : Prop :=
  ((r.2 ≠ 0 ∧ e = .returned (.tuple #[.slice none 0 0, .int .i64 r.2])) ∨ (r.2 = 0 ∧ ∃ g, e = .returned (.tuple #[.slice (some ⟨g, 0, none⟩) r.1.length r.1.length, .int .i64 0]) ∧ w.heap.size ≤ g ∧ RowC w' g (fl2 r.1))) ∧ Kept w w'
theorem shareE_none {sn sd s : Int} {zs : List Int} (h : ∀ (j : Nat) p, zs[j]? = some p → (shareS sn sd s p).2.2 = 0) : shareE sn sd s zs = 0 := by
  unfold shareE
  rw [List.find?_eq_none.2]
  intro p hp
  obtain ⟨j, hj⟩ := List.getElem?_of_mem hp
  simp [h j p hj]
theorem shareE_at {sn sd s : Int} {zs : List Int} {k : Nat} {z : Int} (hz : zs[k]? = some z) (he : (shareS sn sd s z).2.2 ≠ 0) (h : ∀ j p, j < k → zs[j]? = some p → (shareS sn sd s p).2.2 = 0) : shareE sn sd s zs = (shareS sn sd s z).2.2 := by
  unfold shareE
  have : zs.find? (fun p => (shareS sn sd s p).2.2 != 0) = some z := by
    obtain ⟨hk, hx⟩ := List.getElem?_eq_some_iff.1 hz
    rw [List.find?_eq_some_iff_append]
    refine ⟨by simp [he], zs.take k, zs.drop (k + 1), ?_, ?_⟩
    · rw [← hx, ← List.drop_eq_getElem_cons hk, List.take_append_drop]
    · intro a ha
      obtain ⟨j, hj⟩ := List.getElem?_of_mem ha
      rw [List.getElem?_take] at hj
      split at hj
      · simp [h j a (by assumption) hj]
      · cases hj
  rw [this]

theorem make32 (n : Nat) (hn : n ≤ 40) (w : World) : (Instr.makeSlice 32 (.int .i64 (n : Int)) (.int .i64 (n : Int))).run Tryz.prog w = .ok (.slice (some ⟨w.heap.size, 0, none⟩) n n) (w.alloc (.cells (zer (n * 2)).toArray 23)) := by
  obtain ⟨i, hi, hz, hsz, hb⟩ : ∃ i, Tryz.prog.info? 23 = some i ∧ i.zero = some (.agg #[.int .i64 0, .int .i64 0]) ∧ i.size = 2 ∧ i.bytes = 16 := by
    have h : (Tryz.prog.info? 23).map (fun i => (i.zero, i.size, i.bytes)) = some (some (.agg #[.int .i64 0, .int .i64 0]), 2, 16) := by kernel_rfl
    cases hh : Tryz.prog.info? 23 with
    | none => rw [hh] at h; cases h
    | some i =>
      rw [hh] at h
      simp only [Option.map_some, Option.some.injEq, Prod.mk.injEq] at h
      exact ⟨i, rfl, h.1, h.2.1, h.2.2⟩
  have := run_make (P := Tryz.prog) w 32 23 i _ Tryz.underlying32 hi hz .i64 .i64 (n : Int) (n : Int) (by omega) (Int.le_refl _) (by rw [hb]; omega) (by omega)
  rw [this, hsz, Int.toNat_natCast]
  rw [show (Value.agg #[.int .i64 0, .int .i64 0]).cells = #[.int .i64 0, .int .i64 0] from rfl, made_zero2]
end Go.Proofs.YtcjpecdnenemaaaGreatDoor

namespace Go.Proofs.YtcjpecdnenemaaaGreatDoor
set_option linter.all false
open Go.RowKit Go.Shelf

theorem sumOf_ok {zs : List Int} {d : Bool} (h : (sumOfS zs d).2 = 0) : d = true ∧ partsB zs = true ∧ zs.length ≤ 40 ∧ (sumOfS zs d).1 = zs.sum ∧ 0 < zs.sum ∧ zs.sum ≤ 40000 := by
  unfold sumOfS at h ⊢
  by_cases h1 : 40 < zs.length
  · rw [if_pos h1] at h; cases h
  · rw [if_neg h1] at h ⊢
    by_cases h2 : (d && partsB zs) = true
    · rw [if_pos h2] at h ⊢
      simp only [Bool.and_eq_true] at h2
      have hb := sum_bd zs h2.2
      by_cases h3 : zs.sum = 0
      · rw [if_pos h3] at h; cases h
      · rw [if_neg h3]
        exact ⟨h2.1, h2.2, by omega, rfl, by omega, by omega⟩
    · rw [if_neg h2] at h; cases h
theorem sumOf_false {zs : List Int} : (sumOfS zs false).2 ≠ 0 := by
  intro h
  exact absurd (sumOf_ok h).1 (by simp)
theorem part_in {zs : List Int} (h : partsB zs = true) {j : Nat} {z : Int} (hz : zs[j]? = some z) : 0 ≤ z ∧ z ≤ 1000 := by
  unfold partsB at h
  rw [List.all_eq_true] at h
  exact inB_iff.1 (h z (List.mem_of_getElem? hz))

set_option maxHeartbeats 1600000 in
theorem divide_err (A : Option Addr) (n c : Nat) (zs : List Int) (sn sd : Int) (w : World) (h : IntsA w A n c zs) (he : (sumOfS zs (vld sn sd && decide (0 ≤ sn))).2 ≠ 0) :
    Calls Tryz.prog 70 #[.agg #[.int .i64 sn, .int .i64 sd], .slice A n c] w fun e w' => e = .returned (.tuple #[.slice none 0 0, .int .i64 (sumOfS zs (vld sn sd && decide (0 ≤ sn))).2]) ∧ Kept w w' := by
  have H := Lib.hid h
  clear h
  obtain ⟨r, hr⟩ : ∃ r, sumOfS zs (vld sn sd && decide (0 ≤ sn)) = r := ⟨_, rfl⟩
  rw [hr] at he ⊢
  have he' : (r.2 != 0) = true := by simp [he]
  have HE := Lib.hid he
  clear he
  have B0 : RowC (w.alloc (.cells #[.int .i64 sn, .int .i64 sd] 23)) w.heap.size [.int .i64 sn, .int .i64 sd] := RowC.new w [.int .i64 sn, .int .i64 sd] 23
  have HB0 := Lib.hid B0
  clear B0
  by_cases hv : vld sn sd = true
  · have HV := Lib.hid hv
    have HR := Lib.hid (show sumOfS zs (decide (0 ≤ sn)) = r by rw [← hr, hv]; rfl)
    clear hr hv
    go_enter Tryz.func70, Tryz.ntmps70
    go_wp2_with fail
    refine (valid_any sn sd _).mono ?_
    rw [HV.out]
    rintro e w1 ⟨rfl, hk1⟩
    have R := HB0.out.kept hk1
    have p0 := (R 0 _ rfl).1
    have hpl := cell_lt p0
    clear R
    go_wp2_with fail
    refine (sumOf_any A n c zs _ _ (H.out.kept (((Kept.refl _).alloc _).trans hk1))).mono ?_
    rw [HR.out]
    rintro e w2 ⟨rfl, hk2⟩
    dsimp only [i2V]
    go_wp2
    go_ret2
    exact ⟨rfl, (((Kept.refl _).alloc _).trans hk1).trans hk2⟩
  · have HV := Lib.hid (show vld sn sd = false by simpa using hv)
    have HR := Lib.hid (show sumOfS zs false = r by rw [← hr, HV.out]; rfl)
    clear hr hv
    go_enter Tryz.func70, Tryz.ntmps70
    go_wp2_with fail
    refine (valid_any sn sd _).mono ?_
    rw [HV.out]
    rintro e w1 ⟨rfl, hk1⟩
    go_wp2_with fail
    refine (sumOf_any A n c zs _ _ (H.out.kept (((Kept.refl _).alloc _).trans hk1))).mono ?_
    rw [HR.out]
    rintro e w2 ⟨rfl, hk2⟩
    dsimp only [i2V]
    go_wp2
    go_ret2
    exact ⟨rfl, (((Kept.refl _).alloc _).trans hk1).trans hk2⟩

set_option maxHeartbeats 1600000 in
theorem divide_go (A : Option Addr) (n c : Nat) (zs : List Int) (sn sd : Int) (w : World) (h : IntsA w A n c zs) (hv : vld sn sd = true) (hn0 : 0 ≤ sn) (he : (sumOfS zs true).2 = 0) :
    Calls Tryz.prog 70 #[.agg #[.int .i64 sn, .int .i64 sd], .slice A n c] w (DivRes w (if shareE sn sd zs.sum zs = 0 then (shareL sn sd zs.sum zs, 0) else ([], shareE sn sd zs.sum zs))) := by
  have H := Lib.hid h
  clear h
  obtain ⟨_, hp, h40, hs, hpos, hsb⟩ := sumOf_ok he
  have HS := Lib.hid (show sumOfS zs true = (zs.sum, 0) from Prod.ext hs he)
  have HV := Lib.hid hv
  have HP := Lib.hid hp
  have hb := vld_bd hv
  obtain ⟨⟨d1, d2⟩, n1, n2⟩ := hb
  obtain ⟨s, hsum⟩ : ∃ s, zs.sum = s := ⟨_, rfl⟩
  rw [hsum] at hpos hsb HS ⊢
  have hn40 : n ≤ 40 := by rw [← H.out.1]; exact h40
  clear hv hp he hs hsum h40
  have B0 : RowC (w.alloc (.cells #[.int .i64 sn, .int .i64 sd] 23)) w.heap.size [.int .i64 sn, .int .i64 sd] := RowC.new w [.int .i64 sn, .int .i64 sd] 23
  have HB0 := Lib.hid B0
  have hmk := make32 n hn40
  obtain ⟨RR, hRR⟩ : ∃ RR, (if shareE sn sd s zs = 0 then (shareL sn sd s zs, 0) else (([] : List (Int × Int)), shareE sn sd s zs)) = RR := ⟨_, rfl⟩
  rw [hRR]
  have HRR := Lib.hid hRR
  clear B0 hRR
  go_enter Tryz.func70, Tryz.ntmps70
  go_wp2_with fail
  refine (valid_any sn sd _).mono ?_
  rw [HV.out]
  rintro e w1 ⟨rfl, hk1⟩
  have R := HB0.out.kept hk1
  have p0 := (R 0 _ rfl).1
  have hpl := cell_lt p0
  clear R
  go_wp2_with fail
  refine (sumOf_any A n c zs _ _ (H.out.kept (((Kept.refl _).alloc _).trans hk1))).mono ?_
  rw [HS.out]
  rintro e w2 ⟨rfl, hk2⟩
  have hkw2 : Kept w w2 := (((Kept.refl _).alloc _).trans hk1).trans hk2
  have hszw := hkw2.size
  dsimp only [i2V]
  have Rz := RowC.new w2 (zer (n * 2)) 23
  have RB := ((HB0.out.kept hk1).kept hk2).kept ((Kept.refl _).alloc (.cells (zer (n * 2)).toArray 23))
  have HRz := Lib.hid Rz
  have HRB := Lib.hid RB
  clear Rz RB p0
  have hgw : w.heap.size < w2.heap.size := by have := hk2.size; omega
  go_wp2
  go_loopw [31] (fun i wr => ∃ k : Nat, k ≤ n ∧ i = .int .i64 k ∧ (∀ j p, j < k → zs[j]? = some p → (shareS sn sd s p).2.2 = 0) ∧ RowC wr w2.heap.size (fl2 (shareL sn sd s (zs.take k)) ++ zer ((n - k) * 2)) ∧ RowC wr w.heap.size [.int .i64 sn, .int .i64 sd] ∧ Kept w wr) (fun i _ => n - (intOf i).toNat)
  case atStart => exact ⟨0, by omega, by first | rfl | go_num, fun j p hj => by omega, by simpa [shareL, fl2] using HRz.out, HRB.out, hkw2.alloc _⟩
  case round =>
    obtain ⟨k, hk, rfl, ho, hrow, hbox, hkr⟩ := hrel
    have Ho := Lib.hid ho
    have Hrow := Lib.hid hrow
    have Hbox := Lib.hid hbox
    have q0 := (hbox 0 _ rfl).1
    have q1 := (hbox 1 _ rfl).1
    clear ho hrow hbox
    by_cases hlt : k < n
    · obtain ⟨b, off, hA, hc⟩ := H.out.2.2.2.2 (by omega)
      subst hA
      have hxl : k < zs.length := by rw [H.out.1]; exact hlt
      obtain ⟨z, hz⟩ : ∃ z, zs[k]? = some z := ⟨zs[k]'hxl, List.getElem?_eq_getElem hxl⟩
      obtain ⟨z0, z1⟩ := part_in HP.out hz
      have c0 := (hkr.cells _ _ (cell_lt (hc k z hz))).trans (hc k z hz)
      have HZ := Lib.hid hz
      have m1 := mul_bd (n := sn) (d := z) 1000000000000 1000 n1 n2 z0 z1 (by omega)
      have m2 := mul_bd (n := sd) (d := s) 1000000 40000 (by omega) d2 (by omega) hsb (by omega)
      obtain ⟨m11, m12⟩ := m1
      obtain ⟨m21, m22⟩ := m2
      obtain ⟨r, hr⟩ : ∃ r, shareS sn sd s z = r := ⟨_, rfl⟩
      have HR := Lib.hid hr
      have HR' := Lib.hid (show normS (sn * z) (sd * s) = r from hr)
      have e0 : (fl2 (shareL sn sd s (zs.take k))).length = k * 2 := by rw [fl2_len]; unfold shareL; rw [List.length_map, List.length_take]; omega
      have E0 := Lib.hid e0
      obtain ⟨m, hm⟩ : ∃ m, n - k = m + 1 := ⟨n - k - 1, by omega⟩
      have Hrow2 := Lib.hid (show RowC wr w2.heap.size (fl2 (shareL sn sd s (zs.take k)) ++ zer ((m + 1) * 2)) by rw [← hm]; exact Hrow.out)
      have hlen : (fl2 (shareL sn sd s (zs.take k)) ++ zer ((m + 1) * 2)).length = n * 2 := by rw [List.length_append, e0]; unfold zer; rw [List.length_replicate]; omega
      have HM := Lib.hid hm
      have HLen := Lib.hid hlen
      clear hz hr hc e0 hm hlen
      obtain ⟨v0, hv0⟩ : ∃ v, (fl2 (shareL sn sd s (zs.take k)) ++ zer ((m + 1) * 2))[k * 2]? = some v := ⟨_, List.getElem?_eq_getElem (by rw [HLen.out]; omega)⟩
      obtain ⟨v1, hv1⟩ : ∃ v, (fl2 (shareL sn sd s (zs.take k)) ++ zer ((m + 1) * 2))[k * 2 + 1]? = some v := ⟨_, List.getElem?_eq_getElem (by rw [HLen.out]; omega)⟩
      have HV0 := Lib.hid hv0
      have HV1 := Lib.hid hv1
      clear hv0 hv1
      by_cases hz0 : r.2.2 = 0
      · have hz0' : (r.2.2 != 0) = false := by simp [hz0]
        have HZ0 := Lib.hid hz0
        clear hz0
        go_wp2_with fail
        refine (norm_any (sn * z) (sd * s) _).mono ?_
        rw [HR'.out]
        rintro e w3 ⟨rfl, hk3⟩
        have hrow3 := Hrow2.out.kept hk3
        have t0 := hrow3 (k * 2) v0 HV0.out
        have t1 := hrow3 (k * 2 + 1) v1 HV1.out
        obtain ⟨t01, t02⟩ := t0
        obtain ⟨t11, t12⟩ := t1
        have hg3 := cell_lt t01
        have HT := Lib.hid hrow3
        clear hrow3
        dsimp only [feV]
        go_wp2
        go_roundw
        case rel =>
          refine ⟨k + 1, by omega, by go_num, fun j p hj hp => ?_, ?_, ?_, ?_⟩
          · rcases Nat.lt_or_eq_of_le (Nat.le_of_lt_succ hj) with h | h
            · exact Ho.out j p h hp
            · subst h
              have := HZ.out
              rw [hp] at this
              cases this
              rw [HR.out]; exact HZ0.out
          · have hx := (HT.out.put (j := k * 2) (by rw [HLen.out]; omega) (.int .i64 r.1)).put (j := k * 2 + 1) (by rw [List.length_set, HLen.out]; omega) (.int .i64 r.2.1)
            rw [set2 _ m k _ _ E0.out] at hx
            have e1 : fl2 (shareL sn sd s (zs.take (k + 1))) = fl2 (shareL sn sd s (zs.take k)) ++ [.int .i64 r.1, .int .i64 r.2.1] := by
              rw [take_snoc' HZ.out]
              unfold shareL
              rw [List.map_append, List.map_cons, List.map_nil, fl2_snoc, HR.out]
            rw [e1, show n - (k + 1) = m by have := HM.out; omega]
            exact hx
          · exact ((Hbox.out.kept hk3).far (by omega) _).far (by omega) _
          · exact ((hkr.trans hk3).setCell (by simp; omega) _).setCell (by simp; omega) _
        case measure => simp [intOf]; omega
      · have hz0' : (r.2.2 != 0) = true := by simp [hz0]
        have HZ0 := Lib.hid hz0
        clear hz0
        go_wp2_with fail
        refine (norm_any (sn * z) (sd * s) _).mono ?_
        rw [HR'.out]
        rintro e w3 ⟨rfl, hk3⟩
        have hrow3 := Hrow2.out.kept hk3
        have t0 := hrow3 (k * 2) v0 HV0.out
        have t1 := hrow3 (k * 2 + 1) v1 HV1.out
        obtain ⟨t01, t02⟩ := t0
        obtain ⟨t11, t12⟩ := t1
        have hg3 := cell_lt t01
        have HT := Lib.hid hrow3
        clear hrow3
        dsimp only [feV]
        go_wp2
        go_ret2
        have hE : shareE sn sd s zs = r.2.2 := by rw [shareE_at HZ.out (by rw [HR.out]; exact HZ0.out) Ho.out, HR.out]
        have hR : RR = ([], r.2.2) := by rw [← HRR.out, hE, if_neg HZ0.out]
        rw [hR]
        exact ⟨.inl ⟨HZ0.out, rfl⟩, ((hkr.trans hk3).setCell (by simp; omega) _).setCell (by simp; omega) _⟩
    · obtain rfl : k = n := by omega
      have hE : shareE sn sd s zs = 0 := shareE_none (fun j p hj => Ho.out j p (by rw [← H.out.1]; exact (List.getElem?_eq_some_iff.1 hj).1) hj)
      have HR := Lib.hid (show RR = (shareL sn sd s zs, 0) by rw [← HRR.out, if_pos hE])
      clear hE
      go_wp2
      go_ret2
      rw [HR.out]
      have hl : (shareL sn sd s zs).length = k := by unfold shareL; rw [List.length_map, H.out.1]
      refine ⟨.inr ⟨rfl, w2.heap.size, (by rw [hl]; rfl), hszw, ?_⟩, hkr⟩
      have := Hrow.out
      rw [List.take_of_length_le (by rw [H.out.1]; exact Nat.le_refl _), Nat.sub_self] at this
      simpa [zer] using this

/-- Divide -/
theorem divide_any (A : Option Addr) (n c : Nat) (zs : List Int) (sn sd : Int) (w : World) (h : IntsA w A n c zs) :
    Calls Tryz.prog 70 #[.agg #[.int .i64 sn, .int .i64 sd], .slice A n c] w (DivRes w (divS sn sd zs)) := by
  by_cases he : (sumOfS zs (vld sn sd && decide (0 ≤ sn))).2 = 0
  · obtain ⟨hd, hp, h40, hs, hpos, hsb⟩ := sumOf_ok he
    have hd' := hd
    simp only [Bool.and_eq_true, decide_eq_true_eq] at hd
    have := divide_go A n c zs sn sd w h hd.1 hd.2 (by rw [hd'] at he; exact he)
    unfold divS
    simp only [he, if_true, hs]
    exact this
  · refine (divide_err A n c zs sn sd w h he).mono ?_
    rintro e w' ⟨rfl, hk⟩
    unfold divS
    simp only [he, if_false]
    exact ⟨.inl ⟨he, rfl⟩, hk⟩
end Go.Proofs.YtcjpecdnenemaaaGreatDoor
