/-
  counts, of the reference.
-/
import Derived.Test.YtcjpecdnenemaaaGreatDoorRn4
import Derived.Test.YtcjpecdnenemaaaGreatDoorGJ
namespace Go.Proofs.YtcjpecdnenemaaaGreatDoor
set_option linter.all false
open Go.RowKit Go.Shelf

def rcntB (xs : List Eqv) (known : Int) (x : Eqv) : Bool := !(decide (0 < x.off)) && decide (x.kno ≤ known) && !(voidS xs known x.id)
theorem void_take {xs : List Eqv} {known id : Int} {k : Nat} {y : Eqv} (h : xs[k]? = some y) : voidS (xs.take (k + 1)) known id = (voidS (xs.take k) known id || (decide (y.kno ≤ known) && decide (y.off = id))) := any_snoc h _
theorem void_yes {xs : List Eqv} {known id : Int} {k : Nat} {y : Eqv} (h : xs[k]? = some y) (h1 : y.kno ≤ known) (h2 : y.off = id) : voidS xs known id = true := by
  unfold voidS
  rw [List.any_eq_true]
  exact ⟨y, List.mem_of_getElem? h, by simp [h1, h2]⟩
set_option maxRecDepth 100000 in
set_option maxHeartbeats 1600000 in
theorem rcounts_any (A : Option Addr) (n c : Nat) (xs : List Eqv) (x : Eqv) (i : Nat) (known : Int) (hx : xs[i]? = some x) (w : World) (hT : TabA w A n c xs) :
    Calls Tryz.prog 164 #[.slice A n c, .int .i64 i, .int .i64 known] w fun e w' => e = .returned (.bool (rcntB xs known x)) ∧ Kept w w' := by
  have hlen := hT.1
  have hnc := hT.2.1
  have hcm := hT.2.2.1
  have hil : i < n := by have := (List.getElem?_eq_some_iff.1 hx).1; omega
  obtain ⟨bb, of, hB, hcc⟩ := hT.2.2.2.2 (by omega)
  subst hB
  have HC := Lib.hid (fun (k : Nat) (y : Eqv) (hy : xs[k]? = some y) (W : World) (hK : Kept w W) => (hcc k y hy).kept hK)
  have X := hcc i x hx
  have X0 := X.1
  have X2 := X.2.2.1
  have X6 := X.2.2.2.2.2.2
  have HX := Lib.hid hx
  have i0 : (0 : Int) ≤ (i : Int) := by omega
  have i1 : (i : Int) < (n : Int) := by omega
  have i2 : (i : Int).toNat = i := by omega
  clear X hcc hx hT
  obtain ⟨R, hR⟩ : ∃ R, rcntB xs known x = R := ⟨_, rfl⟩
  rw [hR]
  by_cases ho : 0 < x.off
  · have e : R = false := by rw [← hR]; simp [rcntB, ho]
    subst e
    clear hR
    go_enter Tryz.func164, Tryz.ntmps164
    go_wp2_with fail
    go_ret
    exact ⟨rfl, Kept.refl _⟩
  · by_cases hk : known < x.kno
    · have e : R = false := by rw [← hR]; simp [rcntB, ho]; omega
      subst e
      clear hR
      go_enter Tryz.func164, Tryz.ntmps164
      go_wp2_with fail
      go_ret
      exact ⟨rfl, Kept.refl _⟩
    · have hV : R = !(voidS xs known x.id) := by rw [← hR]; unfold rcntB; simp [ho]; intro _; omega
      have HV := Lib.hid hV
      clear hR hV
      go_enter Tryz.func164, Tryz.ntmps164
      go_wp2_with fail
      go_loopw [7] (fun k' wr => ∃ k : Nat, k ≤ n ∧ k' = .int .i64 k ∧ voidS (xs.take k) known x.id = false ∧ Kept w wr) (fun k' _ => n - (intOf k').toNat)
      case atStart => exact ⟨0, by omega, by first | rfl | go_num, by simp [voidS], Kept.refl _⟩
      case round =>
        obtain ⟨k, hk, rfl, hv, hkr⟩ := hrel
        have HN := Lib.hid hv
        have kz : (0 : Int) ≤ (k : Int) := by omega
        clear hv X0 X2 X6
        by_cases hkn : k < n
        · obtain ⟨y, hy⟩ : ∃ y, xs[k]? = some y := ⟨xs[k]'(by omega), List.getElem?_eq_getElem (by omega)⟩
          have Y := HC.out k y hy wr hkr
          have X := HC.out i x HX.out wr hkr
          have x0 := X.1
          have y6 := Y.2.2.2.2.2.2
          have y2 := Y.2.2.1
          have HS := Lib.hid (void_take (known := known) (id := x.id) hy)
          have HY := Lib.hid hy
          have k1 : (k : Int) < (n : Int) := by omega
          have kt : (k : Int).toNat = k := by omega
          clear hy Y X
          rcases b1 : (y.off == x.id) with _ | _
          · have HE := Lib.hid (show decide (y.off = x.id) = false by simpa using b1)
            go_wp2_with fail
            go_quiet (fail)
            go_wp2_with fail
            go_roundw
            case rel => exact ⟨k + 1, by omega, by go_num, by rw [HS.out, HN.out, HE.out]; simp, by first | exact hkr.drewN _ | exact hkr⟩
            case measure => simp [intOf]; omega
          · have HE := Lib.hid (show y.off = x.id by simpa using b1)
            by_cases hkk : y.kno ≤ known
            · have hR : R = false := by rw [HV.out, void_yes HY.out hkk HE.out]; rfl
              subst hR
              go_wp2_with fail
              go_quiet (fail)
              go_wp2_with fail
              go_ret
              exact ⟨rfl, by first | exact hkr.drewN _ | exact hkr⟩
            · have HK := Lib.hid (show decide (y.kno ≤ known) = false by simp [hkk])
              go_wp2_with fail
              go_quiet (fail)
              go_wp2_with fail
              go_roundw
              case rel => exact ⟨k + 1, by omega, by go_num, by rw [HS.out, HN.out, HK.out]; simp, by first | exact hkr.drewN _ | exact hkr⟩
              case measure => simp [intOf]; omega
        · obtain rfl : k = n := by omega
          have hR : R = true := by
            have h := HN.out
            rw [List.take_of_length_le (by omega)] at h
            rw [HV.out, h]; rfl
          subst hR
          go_wp2_with fail
          go_ret
          exact ⟨rfl, hkr⟩
end Go.Proofs.YtcjpecdnenemaaaGreatDoor
