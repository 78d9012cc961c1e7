/-
  sortOf; slices.Index and Contains of strings and ints.
-/
import Derived.Test.YtcjpecdnenemaaaGreatDoorGQ
import Derived.Test.YtcjpecdnenemaaaGreatDoorRn3
namespace Go.Proofs.YtcjpecdnenemaaaGreatDoor
set_option linter.all false
open Go.RowKit Go.Shelf

def sortS (xs : List Eqv) (x : Eqv) : ByteArray := match xs.find? (fun y => y.id == x.off) with | some y => y.sort | none => x.sort
theorem find_snoc {xs : List Eqv} {k : Nat} {y : Eqv} (h : xs[k]? = some y) {p : Eqv → Bool} (hn : (xs.take k).find? p = none) : (xs.take (k + 1)).find? p = if p y = true then some y else none := by
  rw [take_snoc' h, List.find?_append, hn]
  by_cases hp : p y = true
  · simp [hp]
  · simp [hp]
theorem sortS_at {xs : List Eqv} {x : Eqv} {k : Nat} {y : Eqv} (h : xs[k]? = some y) (hn : (xs.take k).find? (fun z => z.id == x.off) = none) (hp : (y.id == x.off) = true) : sortS xs x = y.sort := by
  have h1 := find_snoc h hn
  rw [if_pos hp] at h1
  unfold sortS
  rw [← List.take_append_drop (k + 1) xs, List.find?_append, h1]
  rfl
theorem sortS_none {xs : List Eqv} {x : Eqv} (hn : xs.find? (fun z => z.id == x.off) = none) : sortS xs x = x.sort := by
  unfold sortS; rw [hn]
set_option maxRecDepth 100000 in
set_option maxHeartbeats 1600000 in
theorem sortOf_any (A : Option Addr) (n c : Nat) (xs : List Eqv) (x : Eqv) (w : World) (hT : TabA w A n c xs) :
    Calls Tryz.prog 125 #[.slice A n c, eqV x] w fun e w' => e = .returned (.string (sortS xs x)) ∧ Kept w w' := by
  have HT := Lib.hid hT
  have hlen := hT.1
  have hnc := hT.2.1
  have hcm := hT.2.2.1
  have R0 := Lib.hid (RowC.new w (eqCells x) 37)
  have K0 := Lib.hid ((Kept.refl w).alloc (boxX x))
  clear hT
  obtain ⟨id, frm, kno, sort, num, den, off⟩ := x
  unfold boxX at K0
  dsimp only at K0
  unfold eqV
  dsimp only
  go_enter Tryz.func125, Tryz.ntmps125
  go_wp2_with fail
  go_loopw [9] (fun i wr => ∃ k : Nat, k ≤ n ∧ i = .int .i64 k ∧ (xs.take k).find? (fun z => z.id == off) = none ∧ Kept (w.alloc (boxX ⟨id, frm, kno, sort, num, den, off⟩)) wr) (fun i _ => n - (intOf i).toNat)
  case atStart => exact ⟨0, by omega, by first | rfl | go_num, by simp, Kept.refl _⟩
  case round =>
    obtain ⟨k, hk, rfl, hno, hkr⟩ := hrel
    have HN := Lib.hid hno
    have kz : (0 : Int) ≤ (k : Int) := by omega
    clear hno
    have X := R0.out.kept hkr
    have x3 := (X 3 _ rfl).1
    have x6 := (X 6 _ rfl).1
    by_cases hkn : k < n
    · obtain ⟨y, hy⟩ : ∃ y, xs[k]? = some y := ⟨xs[k]'(by omega), List.getElem?_eq_getElem (by omega)⟩
      obtain ⟨bb, of, hB, hcc⟩ := HT.out.2.2.2.2 (by omega)
      subst hB
      have HS := Lib.hid (find_snoc hy HN.out)
      obtain ⟨c0, c1, c2, c3, c4, c5, c6⟩ := (hcc k y hy).kept (K0.out.trans hkr)
      have HY := Lib.hid hy
      have k1 : (k : Int) < (n : Int) := by omega
      have kt : (k : Int).toNat = k := by omega
      have x6l := cell_lt x6
      have HX := Lib.hid (X.kept ((Kept.refl wr).alloc (boxX y)))
      have x6b := (HX.out 6 _ rfl).1
      unfold boxX at x6b
      clear hy hcc X
      rcases hb : (y.id == off) with _ | _
      · have HP := Lib.hid hb
        go_wp2
        go_roundw
        case rel => exact ⟨k + 1, by omega, by go_num, by rw [HS.out, HP.out]; rfl, hkr.alloc _⟩
        case measure => simp [intOf]; omega
      · have HP := Lib.hid hb
        go_wp2
        go_ret
        exact ⟨by rw [sortS_at HY.out HN.out HP.out]; rfl, K0.out.trans (hkr.alloc _)⟩
    · obtain rfl : k = n := by omega
      have hn := HN.out
      rw [List.take_of_length_le (by omega)] at hn
      have HN2 := Lib.hid (sortS_none (xs := xs) (x := ⟨id, frm, kno, sort, num, den, off⟩) hn)
      clear hn
      go_wp2
      go_ret
      exact ⟨by rw [HN2.out]; rfl, K0.out.trans hkr⟩
theorem take_snocG {α : Type} {xs : List α} {k : Nat} {x : α} (h : xs[k]? = some x) : xs.take (k + 1) = xs.take k ++ [x] := by
  rw [List.take_succ, h]; rfl

def StA_s (w : World) (A : Option Addr) (n c : Nat) (zs : List ByteArray) : Prop :=
  zs.length = n ∧ n ≤ c ∧ c ≤ 9223372036854775807 ∧ ∀ j z, zs[j]? = some z → ∃ b off, A = some ⟨b, off, none⟩ ∧ w.cell? ⟨b, off + j, none⟩ = some (Value.string z)
theorem StA_s.kept {w w' : World} {A : Option Addr} {n c : Nat} {zs : List ByteArray} (h : StA_s w A n c zs) (hk : Kept w w') : StA_s w' A n c zs :=
  ⟨h.1, h.2.1, h.2.2.1, fun j z hj => by
    obtain ⟨b, off, e, ht⟩ := h.2.2.2 j z hj
    exact ⟨b, off, e, (hk.cells _ _ (cell_lt ht)).trans ht⟩⟩
set_option maxRecDepth 100000 in
set_option maxHeartbeats 1600000 in
theorem index_s (A : Option Addr) (n c : Nat) (zs : List ByteArray) (s : ByteArray) (w : World) (hT : StA_s w A n c zs) :
    Calls Tryz.prog 141 #[.slice A n c, Value.string s] w fun e w' => ∃ r : Int, e = .returned (.int .i64 r) ∧ decide (0 ≤ r) = zs.any (fun z => (s.toList == z.toList)) ∧ Kept w w' := by
  have HT := Lib.hid hT
  have hlen := hT.1
  have hnc := hT.2.1
  have hcm := hT.2.2.1
  clear hT
  go_enter Tryz.func141, Tryz.ntmps141
  go_wp2_with fail
  go_loopw [8] (fun i wr => ∃ k : Nat, k ≤ n ∧ i = .int .i64 k ∧ (zs.take k).any (fun z => (s.toList == z.toList)) = false ∧ Kept w wr) (fun i _ => n - (intOf i).toNat)
  case atStart => exact ⟨0, by omega, by first | rfl | go_num, by simp, Kept.refl _⟩
  case round =>
    obtain ⟨k, hk, rfl, hno, hkr⟩ := hrel
    have HN := Lib.hid hno
    have kz : (0 : Int) ≤ (k : Int) := by omega
    clear hno
    by_cases hkn : k < n
    · obtain ⟨z, hz⟩ : ∃ z, zs[k]? = some z := ⟨zs[k]'(by omega), List.getElem?_eq_getElem (by omega)⟩
      obtain ⟨bb, of, hB, hcc⟩ := HT.out.2.2.2 k z hz
      subst hB
      have c0 := (hkr.cells _ _ (cell_lt hcc)).trans hcc
      have k1 : (k : Int) < (n : Int) := by omega
      have kt : (k : Int).toNat = k := by omega
      have HS := Lib.hid (show (zs.take (k + 1)).any (fun z => (s.toList == z.toList)) = ((zs.take k).any (fun z => (s.toList == z.toList)) || (s.toList == z.toList)) by rw [take_snocG hz, List.any_append]; simp)
      have HM := Lib.hid (List.mem_of_getElem? hz)
      clear hz hcc
      rcases hb : (s.toList == z.toList) with _ | _
      · have HP := Lib.hid hb
        go_wp2
        go_roundw
        case rel => exact ⟨k + 1, by omega, by go_num, by rw [HS.out, HN.out, HP.out]; rfl, hkr⟩
        case measure => simp [intOf]; omega
      · have HP := Lib.hid hb
        go_wp2
        go_ret
        refine ⟨(k : Int), rfl, ?_, hkr⟩
        rw [List.any_eq_true.2 ⟨z, HM.out, HP.out⟩]
        simp
    · obtain rfl : k = n := by omega
      go_wp2
      go_ret
      refine ⟨-1, rfl, ?_, hkr⟩
      have hn := HN.out
      rw [List.take_of_length_le (by omega)] at hn
      rw [hn]; rfl
set_option maxRecDepth 100000 in
set_option maxHeartbeats 1600000 in
theorem contains_s (A : Option Addr) (n c : Nat) (zs : List ByteArray) (s : ByteArray) (w : World) (hT : StA_s w A n c zs) :
    Calls Tryz.prog 79 #[.slice A n c, Value.string s] w fun e w' => e = .returned (.bool (zs.any (fun z => (s.toList == z.toList)))) ∧ Kept w w' := by
  have H := Lib.hid (fun W h => index_s A n c zs s W h)
  have HT := Lib.hid hT
  clear hT
  obtain ⟨R, hR⟩ : ∃ R, zs.any (fun z => (s.toList == z.toList)) = R := ⟨_, rfl⟩
  rw [hR] at H ⊢
  clear hR
  go_enter Tryz.func79, Tryz.ntmps79
  go_wp2_with fail
  refine (H.out _ HT.out).mono ?_
  rintro e w1 ⟨r, rfl, hr, hk1⟩
  have HR := Lib.hid hr
  clear hr
  go_wp2
  go_ret
  refine ⟨?_, hk1⟩
  rw [← HR.out]; rfl

def StA_i (w : World) (A : Option Addr) (n c : Nat) (zs : List Int) : Prop :=
  zs.length = n ∧ n ≤ c ∧ c ≤ 9223372036854775807 ∧ ∀ j z, zs[j]? = some z → ∃ b off, A = some ⟨b, off, none⟩ ∧ w.cell? ⟨b, off + j, none⟩ = some (Value.int .i64 z)
theorem StA_i.kept {w w' : World} {A : Option Addr} {n c : Nat} {zs : List Int} (h : StA_i w A n c zs) (hk : Kept w w') : StA_i w' A n c zs :=
  ⟨h.1, h.2.1, h.2.2.1, fun j z hj => by
    obtain ⟨b, off, e, ht⟩ := h.2.2.2 j z hj
    exact ⟨b, off, e, (hk.cells _ _ (cell_lt ht)).trans ht⟩⟩
set_option maxRecDepth 100000 in
set_option maxHeartbeats 1600000 in
theorem index_i (A : Option Addr) (n c : Nat) (zs : List Int) (s : Int) (w : World) (hT : StA_i w A n c zs) :
    Calls Tryz.prog 142 #[.slice A n c, Value.int .i64 s] w fun e w' => ∃ r : Int, e = .returned (.int .i64 r) ∧ decide (0 ≤ r) = zs.any (fun z => (s == z)) ∧ Kept w w' := by
  have HT := Lib.hid hT
  have hlen := hT.1
  have hnc := hT.2.1
  have hcm := hT.2.2.1
  clear hT
  go_enter Tryz.func142, Tryz.ntmps142
  go_wp2_with fail
  go_loopw [8] (fun i wr => ∃ k : Nat, k ≤ n ∧ i = .int .i64 k ∧ (zs.take k).any (fun z => (s == z)) = false ∧ Kept w wr) (fun i _ => n - (intOf i).toNat)
  case atStart => exact ⟨0, by omega, by first | rfl | go_num, by simp, Kept.refl _⟩
  case round =>
    obtain ⟨k, hk, rfl, hno, hkr⟩ := hrel
    have HN := Lib.hid hno
    have kz : (0 : Int) ≤ (k : Int) := by omega
    clear hno
    by_cases hkn : k < n
    · obtain ⟨z, hz⟩ : ∃ z, zs[k]? = some z := ⟨zs[k]'(by omega), List.getElem?_eq_getElem (by omega)⟩
      obtain ⟨bb, of, hB, hcc⟩ := HT.out.2.2.2 k z hz
      subst hB
      have c0 := (hkr.cells _ _ (cell_lt hcc)).trans hcc
      have k1 : (k : Int) < (n : Int) := by omega
      have kt : (k : Int).toNat = k := by omega
      have HS := Lib.hid (show (zs.take (k + 1)).any (fun z => (s == z)) = ((zs.take k).any (fun z => (s == z)) || (s == z)) by rw [take_snocG hz, List.any_append]; simp)
      have HM := Lib.hid (List.mem_of_getElem? hz)
      clear hz hcc
      rcases hb : (s == z) with _ | _
      · have HP := Lib.hid hb
        go_wp2
        go_roundw
        case rel => exact ⟨k + 1, by omega, by go_num, by rw [HS.out, HN.out, HP.out]; rfl, hkr⟩
        case measure => simp [intOf]; omega
      · have HP := Lib.hid hb
        go_wp2
        go_ret
        refine ⟨(k : Int), rfl, ?_, hkr⟩
        rw [List.any_eq_true.2 ⟨z, HM.out, HP.out⟩]
        simp
    · obtain rfl : k = n := by omega
      go_wp2
      go_ret
      refine ⟨-1, rfl, ?_, hkr⟩
      have hn := HN.out
      rw [List.take_of_length_le (by omega)] at hn
      rw [hn]; rfl
set_option maxRecDepth 100000 in
set_option maxHeartbeats 1600000 in
theorem contains_i (A : Option Addr) (n c : Nat) (zs : List Int) (s : Int) (w : World) (hT : StA_i w A n c zs) :
    Calls Tryz.prog 80 #[.slice A n c, Value.int .i64 s] w fun e w' => e = .returned (.bool (zs.any (fun z => (s == z)))) ∧ Kept w w' := by
  have H := Lib.hid (fun W h => index_i A n c zs s W h)
  have HT := Lib.hid hT
  clear hT
  obtain ⟨R, hR⟩ : ∃ R, zs.any (fun z => (s == z)) = R := ⟨_, rfl⟩
  rw [hR] at H ⊢
  clear hR
  go_enter Tryz.func80, Tryz.ntmps80
  go_wp2_with fail
  refine (H.out _ HT.out).mono ?_
  rintro e w1 ⟨r, rfl, hr, hk1⟩
  have HR := Lib.hid hr
  clear hr
  go_wp2
  go_ret
  refine ⟨?_, hk1⟩
  rw [← HR.out]; rfl
end Go.Proofs.YtcjpecdnenemaaaGreatDoor
