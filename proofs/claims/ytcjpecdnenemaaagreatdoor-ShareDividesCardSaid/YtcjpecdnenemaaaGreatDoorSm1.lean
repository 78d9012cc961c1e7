/-
  The sum of a list of fractions: what it is; the calculation of Sum.
-/
import Derived.Test.YtcjpecdnenemaaaGreatDoorGN
import Derived.Test.YtcjpecdnenemaaaGreatDoorFrM
namespace Go.Proofs.YtcjpecdnenemaaaGreatDoor
set_option linter.all false
open Go.RowKit Go.Shelf

/-- the sum of a list, if that is in range all along -/
def sumF (l : List (Int × Int)) : Option (Int × Int) := l.foldl addO (some (0, 1))
def sumS (l : List (Int × Int)) : Int × Int × Int := if 1000 < l.length then (0, 0, 2) else if (l.all fun p => vld p.1 p.2) = true then okL (sumF l) else (0, 0, 1)
theorem addO_none (l : List (Int × Int)) : l.foldl addO none = none := by
  induction l with
  | nil => rfl
  | cons e l ih => exact ih
theorem sumF_snoc (l : List (Int × Int)) (p : Int × Int) : sumF (l ++ [p]) = addO (sumF l) p := by simp [sumF]
theorem sumF_none_of {l : List (Int × Int)} {k : Nat} (h : sumF (l.take k) = none) : sumF l = none := by
  have : sumF l = (l.drop k).foldl addO (sumF (l.take k)) := by unfold sumF; rw [← List.foldl_append, List.take_append_drop]
  rw [this, h, addO_none]
theorem sumF_vld : ∀ (l : List (Int × Int)) (acc r : Int × Int), vld acc.1 acc.2 = true → l.foldl addO (some acc) = some r → vld r.1 r.2 = true
  | [], acc, r, hv, h => by simp at h; subst h; exact hv
  | e :: l, acc, r, hv, h => by
    rw [List.foldl_cons] at h
    rcases hs : addO (some acc) e with _ | a
    · rw [hs, addO_none] at h; cases h
    · rw [hs] at h
      refine sumF_vld l a r ?_ h
      exact lowF_vld hs
theorem sumF_bd {l : List (Int × Int)} {a b : Int} (h : sumF l = some (a, b)) : Bd a b := vld_bd (sumF_vld l (0, 1) (a, b) (by decide) h)
/-- a slice of fractions -/
def FracsA (w : World) (A : Option Addr) (n c : Nat) (es : List (Int × Int)) : Prop :=
  es.length = n ∧ n ≤ c ∧ c ≤ 9223372036854775807 ∧
  (0 < n → ∃ b off, A = some ⟨b, off, none⟩ ∧ ∀ i p, es[i]? = some p → w.cell? ⟨b, off + i * 2, none⟩ = some (.int .i64 p.1) ∧ w.cell? ⟨b, off + i * 2 + 1, none⟩ = some (.int .i64 p.2))
theorem FracsA.kept {w w' : World} {A : Option Addr} {n c : Nat} {es : List (Int × Int)} (h : FracsA w A n c es) (hk : Kept w w') : FracsA w' A n c es :=
  ⟨h.1, h.2.1, h.2.2.1, fun hn => by
    obtain ⟨b, off, e, hc⟩ := h.2.2.2 hn
    exact ⟨b, off, e, fun i p hp => ⟨(hk.cells _ _ (cell_lt (hc i p hp).1)).trans (hc i p hp).1, (hk.cells _ _ (cell_lt (hc i p hp).2)).trans (hc i p hp).2⟩⟩⟩

set_option maxRecDepth 100000 in
set_option maxHeartbeats 1600000 in
theorem take_none (p : Nat) (an ad bn bd : Int) (ha : Bd an ad) (hb : Bd bn bd) (hr : lowF (an * bd + bn * ad) (ad * bd) = none) (w : World) (h : RowC w p [.int .i64 an, .int .i64 ad]) :
    Calls Tryz.prog 101 #[.pointer (some ⟨p, 0, none⟩), .agg #[.int .i64 bn, .int .i64 bd]] w fun e w' => e = .panicked limPanic ∧ Kept w w' := by
  have hpl := cell_lt (h 0 _ rfl).1
  obtain ⟨W1, hW1⟩ : ∃ W1 : World, W1 = w.alloc (.cells #[.int .i64 bn, .int .i64 bd] 92) := ⟨_, rfl⟩
  have P1 : RowC W1 p [.int .i64 an, .int .i64 ad] := by rw [hW1]; exact h.kept ((Kept.refl _).alloc _)
  have Q1 : RowC W1 w.heap.size [.int .i64 bn, .int .i64 bd] := by rw [hW1]; exact RowC.new w [.int .i64 bn, .int .i64 bd] 92
  have K1 : Kept w W1 := by rw [hW1]; exact (Kept.refl _).alloc _
  have HW1 := Lib.hid hW1
  have HP1 := Lib.hid P1
  have HQ1 := Lib.hid Q1
  have HK1 := Lib.hid K1
  have HC : RowKit.Hid (∀ W, Calls Tryz.prog 94 #[.agg #[.int .i64 an, .int .i64 ad], .agg #[.int .i64 bn, .int .i64 bd]] W fun e w' => e = .panicked limPanic ∧ Kept W w') := Lib.hid (fun W => plus_none an ad bn bd ha hb hr W)
  clear hW1 P1 Q1 h ha hb hr K1
  go_enter Tryz.func101, Tryz.ntmps101
  go_wp2_with fail
  rw [← HW1.out]
  have p0 := (HP1.out 0 _ rfl).1
  have p1 := (HP1.out 1 _ rfl).1
  have q0 := (HQ1.out 0 _ rfl).1
  have q1 := (HQ1.out 1 _ rfl).1
  have z0 := (HP1.out 0 _ rfl).2
  have z1 := (HP1.out 1 _ rfl).2
  have hp1 := cell_lt p0
  go_region_dies
  all_goals
    refine (HC.out _).mono ?_
    rintro e w2 ⟨rfl, hk⟩
    first
      | exact ⟨rfl, rfl, (HK1.out.drew).trans hk⟩
      | exact ⟨rfl, rfl, (HK1.out.drewN _).trans hk⟩
      | exact ⟨rfl, rfl, HK1.out.trans hk⟩

def SumEnd : Option (Int × Int) → Ending → Prop
  | some r, e => e = .returned (.agg #[.int .i64 r.1, .int .i64 r.2])
  | none, e => e = .panicked limPanic
set_option maxRecDepth 100000 in
set_option maxHeartbeats 1600000 in
theorem sum1_any (bl : Nat) (A : Option Addr) (n c : Nat) (es : List (Int × Int)) (w : World) (hv : w.cell? ⟨bl, 0, none⟩ = some (.slice A n c)) (hF : FracsA w A n c es) (hev : ∀ p ∈ es, vld p.1 p.2 = true) (hn : n ≤ 1000) :
    Calls Tryz.prog 99 #[.pointer (some ⟨bl, 0, none⟩)] w fun e w' => SumEnd (sumF es) e ∧ Kept w w' := by
  have hmf : ∀ (fn : Fn) (first cap : Array Value) (w : World), (Instr.makeFunc fn first cap).run Tryz.prog w = .ok (.func fn first cap) w := fun _ _ _ _ => rfl
  have HB := Lib.hid hv
  have HF := Lib.hid hF
  have HEV := Lib.hid hev
  have lh := cell_lt hv
  have hnc := hF.2.1
  have hcm := hF.2.2.1
  clear hv hF hev
  go_enter Tryz.func99, Tryz.ntmps99
  go_wp2_with fail
  refine (whole_any 0 _).mono ?_
  rintro e w1 ⟨rfl, hk1⟩
  have k1 : Kept w w1 := ((Kept.refl _).alloc _).trans hk1
  have R4 := RowC.new w1 [.int .i64 0, .int .i64 1] 92
  have R3 := ((RowC.new w [.int .i64 0, .int .i64 0] 92).kept hk1).kept ((Kept.refl _).alloc (.cells #[.int .i64 0, .int .i64 1] 92))
  have H4 := Lib.hid R4
  have H3 := Lib.hid R3
  have g1 := (k1.cells _ _ lh).trans HB.out
  have hz1 := k1.size
  have lh1 : bl < w1.heap.size := by omega
  have hz1' : w.heap.size < w1.heap.size := by have := hk1.size; simp at this; omega
  clear R4 R3
  go_wp2
  go_loopw [10] (fun i wr => ∃ (k : Nat) (a b : Int), k ≤ n ∧ i = .int .i64 k ∧ sumF (es.take k) = some (a, b) ∧ RowC wr w1.heap.size [.int .i64 a, .int .i64 b] ∧ RowC wr w.heap.size [.int .i64 0, .int .i64 0] ∧ Kept w wr ∧ w1.heap.size < wr.heap.size) (fun i _ => n - (intOf i).toNat)
  case atStart => exact ⟨0, 0, 1, by omega, by first | rfl | go_num, rfl, H4.out, H3.out, k1.alloc _, by simp⟩
  case round =>
    obtain ⟨k, a, b, hk, rfl, hu, hr4, hr3, hkr, hzr⟩ := hrel
    have HUk := Lib.hid hu
    have H4 := Lib.hid hr4
    have H3 := Lib.hid hr3
    clear hu hr4 hr3
    by_cases hlt : k < n
    · obtain ⟨bb, off, hB, hcc⟩ := HF.out.2.2.2 (by omega)
      subst hB
      have hxl : k < es.length := by rw [HF.out.1]; exact hlt
      obtain ⟨p, hp⟩ : ∃ p, es[k]? = some p := ⟨es[k]'hxl, List.getElem?_eq_getElem hxl⟩
      have f0 := (hcc k p hp).1
      have f1 := (hcc k p hp).2
      have v0 := (hkr.cells _ _ (cell_lt f0)).trans f0
      have v1 := (hkr.cells _ _ (cell_lt f1)).trans f1
      have hpv := vld_bd (HEV.out p (List.mem_of_getElem? hp))
      have hav := sumF_bd HUk.out
      have hsn : sumF (es.take (k + 1)) = addO (some (a, b)) p := by rw [take_snoc' hp, sumF_snoc, HUk.out]
      have i0 : (0 : Int) ≤ (k : Int) := by omega
      have i1 : (k : Int) < (n : Int) := by omega
      have it : (k : Int).toNat = k := by omega
      have kal : Kept w (wr.alloc (.cells #[.int .i64 p.1, .int .i64 p.2] 23)) := hkr.alloc _
      rcases hadd : addO (some (a, b)) p with _ | r2
      · rw [hadd] at hsn
        have hnone := Lib.hid (sumF_none_of hsn)
        have hadd' : lowF (a * p.2 + p.1 * b) (b * p.2) = none := hadd
        have T2 : RowKit.Hid (∀ W, RowC W w1.heap.size [.int .i64 a, .int .i64 b] → Calls Tryz.prog 101 #[.pointer (some ⟨w1.heap.size, 0, none⟩), .agg #[.int .i64 p.1, .int .i64 p.2]] W fun e w' => e = .panicked limPanic ∧ Kept W w') := Lib.hid (fun W hW => take_none _ _ _ _ _ hav hpv hadd' W hW)
        have H4h := Lib.hid (H4.out.kept ((Kept.refl wr).alloc (.cells #[.int .i64 p.1, .int .i64 p.2] 23)))
        have KA := Lib.hid kal
        clear hcc hp f0 f1 hpv hav hsn hadd hadd' kal
        go_wp2_with fail
        refine (T2.out _ H4h.out).mono ?_
        rintro e wt ⟨rfl, hkt⟩
        refine ⟨rfl, ?_, KA.out.trans hkt⟩
        rw [hnone.out]
        rfl
      · rw [hadd] at hsn
        have hadd' : lowF (a * p.2 + p.1 * b) (b * p.2) = some (r2.1, r2.2) := hadd
        have T2 : RowKit.Hid (∀ W, RowC W w1.heap.size [.int .i64 a, .int .i64 b] → Calls Tryz.prog 101 #[.pointer (some ⟨w1.heap.size, 0, none⟩), .agg #[.int .i64 p.1, .int .i64 p.2]] W fun e w' => e = .returned (.tuple #[]) ∧ But w1.heap.size W w' ∧ RowC w' w1.heap.size [.int .i64 r2.1, .int .i64 r2.2]) := Lib.hid (fun W hW => take_ok _ _ _ _ _ _ _ hav hpv hadd' W hW)
        have HR2 := Lib.hid hsn
        have H4h := Lib.hid (H4.out.kept ((Kept.refl wr).alloc (.cells #[.int .i64 p.1, .int .i64 p.2] 23)))
        have H3h := Lib.hid (H3.out.kept ((Kept.refl wr).alloc (.cells #[.int .i64 p.1, .int .i64 p.2] 23)))
        have KA := Lib.hid kal
        clear hcc hp f0 f1 hpv hav hsn hadd hadd' kal
        go_wp2_with fail
        refine (T2.out _ H4h.out).mono ?_
        rintro e wt ⟨rfl, hbt, hrow⟩
        go_wp2
        go_roundw
        case rel =>
          refine ⟨k + 1, r2.1, r2.2, by omega, by go_num, HR2.out, hrow, hbt.row H3h.out (by omega), KA.out.but hbt (by omega), ?_⟩
          have := hbt.size
          simp at this
          omega
        case measure => simp [intOf]; omega
    · obtain rfl : k = n := by omega
      have hu2 := HUk.out
      rw [List.take_of_length_le (by rw [HF.out.1]; exact Nat.le_refl _)] at hu2
      have HU2 := Lib.hid hu2
      have u0 := (H4.out 0 _ rfl).1
      have u1 := (H4.out 1 _ rfl).1
      have e0 := (H3.out 0 _ rfl).1
      have e1 := (H3.out 1 _ rfl).1
      have z0 := (H3.out 0 _ rfl).2
      have z1 := (H3.out 1 _ rfl).2
      have lu := cell_lt u0
      have lv := cell_lt e0
      clear hu2
      go_wp2
      refine bodyPost_ret (v := .agg #[.int .i64 a, .int .i64 b]) (by simp [results, Tryz.results99, go_sem, e0, e1]) rfl ⟨by rw [HU2.out]; rfl, ?_⟩
      exact (hkr.setCell (Nat.le_refl _) _).setCell (Nat.le_refl _) _
end Go.Proofs.YtcjpecdnenemaaaGreatDoor
