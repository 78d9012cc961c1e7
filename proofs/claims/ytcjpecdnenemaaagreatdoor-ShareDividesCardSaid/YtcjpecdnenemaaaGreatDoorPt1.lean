/- the reference's sum 136 and parted 135 -/
import Derived.Test.YtcjpecdnenemaaaGreatDoorGL
import Derived.Test.YtcjpecdnenemaaaGreatDoorGC
import Derived.Test.YtcjpecdnenemaaaGreatDoorGM
namespace Go.Proofs.YtcjpecdnenemaaaGreatDoor
set_option linter.all false
open Go.RowKit Go.Shelf

/-- numbers that are not negative and not great -/
def BdI (zs : List Int) (M : Int) : Prop := ∀ z ∈ zs, 0 ≤ z ∧ z ≤ M
theorem sumI_bd {M : Int} (hM : 0 ≤ M) : ∀ (zs : List Int), BdI zs M → 0 ≤ zs.sum ∧ zs.sum ≤ zs.length * M
  | [], _ => by simp
  | z :: zs, h => by
    have ih := sumI_bd hM zs (fun y hy => h y (List.mem_cons_of_mem _ hy))
    have := h z (List.mem_cons_self ..)
    have e : ((zs.length + 1 : Nat) : Int) * M = (zs.length : Int) * M + M := by push_cast; rw [Int.add_mul, Int.one_mul]
    simp only [List.sum_cons, List.length_cons]
    rw [e]
    omega
set_option maxRecDepth 100000 in
set_option maxHeartbeats 1000000 in
theorem rsumI_any (A : Option Addr) (n c : Nat) (zs : List Int) (hb : BdI zs 1000000000000) (h1 : n ≤ 100) (w : World) (h : IntsA w A n c zs) :
    Calls Tryz.prog 136 #[.slice A n c] w fun e w' => e = .returned (.int .i64 zs.sum) ∧ Kept w w' := by
  have H := Lib.hid h
  have HB := Lib.hid hb
  have hnc := h.2.1
  have hm := h.2.2.1
  clear h hb
  go_enter Tryz.func136, Tryz.ntmps136
  go_wp2_with fail
  go_loopw [3, 4] (fun sv i wr => ∃ (k : Nat) (s : Int), k ≤ n ∧ i = .int .i64 k ∧ sv = .int .i64 s ∧ s = (zs.take k).sum ∧ Kept w wr) (fun _ i _ => n - (intOf i).toNat)
  case atStart => exact ⟨0, 0, by omega, by first | rfl | go_num, rfl, by simp, Kept.refl _⟩
  case round =>
    obtain ⟨k, s, hk, rfl, rfl, hs, hkr⟩ := hrel
    have HS := Lib.hid hs
    have hsb := sumI_bd (M := 1000000000000) (by omega) (zs.take k) (fun y hy => HB.out y (List.mem_of_mem_take hy))
    rw [← hs, List.length_take, Nat.min_eq_left (by rw [H.out.1]; exact hk)] at hsb
    obtain ⟨s0, s1⟩ := hsb
    clear hs
    by_cases hlt : k < n
    · obtain ⟨b, off, hA, hc⟩ := H.out.2.2.2.2 (by omega)
      subst hA
      have hxl : k < zs.length := by rw [H.out.1]; exact hlt
      obtain ⟨z, hz⟩ : ∃ z, zs[k]? = some z := ⟨zs[k]'hxl, List.getElem?_eq_getElem hxl⟩
      obtain ⟨zb1, zb2⟩ := HB.out z (List.mem_of_getElem? hz)
      have c0 := (hkr.cells _ _ (cell_lt (hc k z hz))).trans (hc k z hz)
      have HSum := Lib.hid (show (zs.take (k + 1)).sum = (zs.take k).sum + z by rw [take_snoc' hz]; simp)
      have s2 : s ≤ 100000000000000 := by omega
      clear hz hc s1
      go_wp2
      go_roundw
      case rel => exact ⟨k + 1, _, by omega, by go_num, rfl, by rw [HSum.out, ← HS.out], hkr⟩
      case measure => simp [intOf]; omega
    · have hge : decide ((k : Int) < (n : Int)) = false := decide_eq_false (by omega)
      have ht : zs.take k = zs := List.take_of_length_le (by rw [H.out.1]; omega)
      rw [ht] at HS
      clear ht
      go_wp2
      go_ret
      exact ⟨by rw [HS.out]; rfl, hkr⟩
theorem parts_BdI {zs : List Int} (h : partsB zs = true) : BdI zs 1000000000000 := fun z hz => by
  obtain ⟨q, hq⟩ := List.getElem?_of_mem hz
  have := part_in h hq
  omega
set_option maxRecDepth 100000 in
set_option maxHeartbeats 1000000 in
theorem parted_any (A : Option Addr) (n c : Nat) (zs : List Int) (d : Bool) (w : World) (h : IntsA w A n c zs) :
    Calls Tryz.prog 135 #[.slice A n c, .bool d] w fun e w' => e = .returned (.int .i64 (sumOfS zs d).2) ∧ Kept w w' := by
  have H := Lib.hid h
  have hnc := h.2.1
  have hm := h.2.2.1
  clear h
  by_cases h40 : 40 < n
  · have HO := Lib.hid (show sumOfS zs d = (0, 2) by unfold sumOfS; rw [if_pos (by rw [H.out.1]; exact h40)])
    go_enter Tryz.func135, Tryz.ntmps135
    have h4 : decide ((40 : Int) < (n : Int)) = true := decide_eq_true (by omega)
    go_wp2
    go_ret
    exact ⟨by rw [HO.out]; rfl, Kept.refl _⟩
  · have h4 : decide ((40 : Int) < (n : Int)) = false := decide_eq_false (by omega)
    go_enter Tryz.func135, Tryz.ntmps135
    go_wp2_with fail
    go_loopw [5, 6] (fun dv i wr => ∃ (k : Nat), k ≤ n ∧ i = .int .i64 k ∧ dv = .bool (d && partsB (zs.take k)) ∧ Kept w wr) (fun _ i _ => n - (intOf i).toNat)
    case atStart => exact ⟨0, by omega, by first | rfl | go_num, by simp [partsB], Kept.refl _⟩
    case round =>
      obtain ⟨k, hk, rfl, rfl, hkr⟩ := hrel
      by_cases hlt : k < n
      · obtain ⟨b, off, hA, hc⟩ := H.out.2.2.2.2 (by omega)
        subst hA
        have hxl : k < zs.length := by rw [H.out.1]; exact hlt
        obtain ⟨z, hz⟩ : ∃ z, zs[k]? = some z := ⟨zs[k]'hxl, List.getElem?_eq_getElem hxl⟩
        obtain ⟨zb1, zb2⟩ := H.out.2.2.2.1 z (List.mem_of_getElem? hz)
        have c0 := (hkr.cells _ _ (cell_lt (hc k z hz))).trans (hc k z hz)
        have HP := Lib.hid (show partsB (zs.take (k + 1)) = (partsB (zs.take k) && inB z 0 1000) by rw [take_snoc' hz, parts_snoc])
        clear hz hc
        rcases hd : (d && partsB (zs.take k)) with _ | _
        · have HD := Lib.hid hd
          clear hd
          go_wp2
          go_roundw
          case rel => exact ⟨k + 1, by omega, by go_num, by rw [HP.out, ← Bool.and_assoc, HD.out]; rfl, hkr⟩
          case measure => simp [intOf]; omega
        · have HD := Lib.hid hd
          clear hd
          obtain ⟨q, hq⟩ : ∃ q, inB z 0 1000 = q := ⟨_, rfl⟩
          have HQ := Lib.hid hq
          clear hq
          go_wp2_with fail
          refine (rwithin_any _ _ _ _).mono ?_
          rw [HQ.out]
          rintro e w' ⟨rfl, rfl⟩
          go_wp2
          go_roundw
          case rel => exact ⟨k + 1, by omega, by go_num, by rw [HP.out, ← Bool.and_assoc, HD.out, HQ.out]; cases q <;> rfl, hkr⟩
          case measure => simp [intOf]; omega
      · have hge : decide ((k : Int) < (n : Int)) = false := decide_eq_false (by omega)
        have ht : zs.take k = zs := List.take_of_length_le (by rw [H.out.1]; omega)
        rw [ht]
        have hl : ¬ 40 < zs.length := by rw [H.out.1]; exact h40
        rcases hd : (d && partsB zs) with _ | _
        · have HO := Lib.hid (show sumOfS zs d = (0, 1) by unfold sumOfS; rw [if_neg hl, if_neg (by rw [hd]; simp)])
          clear hd ht hl
          go_wp2
          go_ret
          exact ⟨by rw [HO.out]; rfl, hkr⟩
        · have hp : partsB zs = true := by simp only [Bool.and_eq_true] at hd; exact hd.2
          have HB := Lib.hid (parts_BdI hp)
          by_cases h0 : zs.sum = 0
          · have HO := Lib.hid (show sumOfS zs d = (0, 11) by unfold sumOfS; rw [if_neg hl, if_pos hd, if_pos h0])
            have e0 : decide (zs.sum = 0) = true := decide_eq_true h0
            have e1 : (zs.sum == 0) = true := by simpa using h0
            have H0 := Lib.hid h0
            clear hd ht hl hp h0
            go_wp2_with fail
            refine (rsumI_any A n c zs HB.out (by omega) _ (H.out.kept hkr)).mono ?_
            rintro e w' ⟨rfl, hk2⟩
            go_wp2
            go_ret
            exact ⟨by rw [HO.out]; rfl, hkr.trans hk2⟩
          · have HO := Lib.hid (show sumOfS zs d = (zs.sum, 0) by unfold sumOfS; rw [if_neg hl, if_pos hd, if_neg h0])
            have e1 : (zs.sum == 0) = false := by simpa using h0
            have H0 := Lib.hid h0
            clear hd ht hl hp h0
            go_wp2_with fail
            refine (rsumI_any A n c zs HB.out (by omega) _ (H.out.kept hkr)).mono ?_
            rintro e w' ⟨rfl, hk2⟩
            go_wp2
            go_ret
            exact ⟨by rw [HO.out]; rfl, hkr.trans hk2⟩
end Go.Proofs.YtcjpecdnenemaaaGreatDoor
