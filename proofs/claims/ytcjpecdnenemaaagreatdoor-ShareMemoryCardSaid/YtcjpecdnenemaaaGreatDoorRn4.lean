/-
  CheckEqual and Check, of the reference.
-/
import Derived.Test.YtcjpecdnenemaaaGreatDoorRn3
namespace Go.Proofs.YtcjpecdnenemaaaGreatDoor
set_option linter.all false
open Go.RowKit Go.Shelf

theorem few_of {xs : List Eqv} {k : Nat} (hk : k < xs.length) (ho : ∀ j, j < k → refAt xs j = 0) : k ≤ 200 := by
  rcases Nat.lt_or_ge 200 k with h | h
  · have h0 := ho 200 h
    have hx : xs[200]? = some (xs[200]'(by omega)) := List.getElem?_eq_getElem (by omega)
    unfold refAt at h0
    rw [hx] at h0
    have : refS (xs.take 200) (xs[200]'(by omega)) = 2 := by
      unfold refS
      rw [if_pos (by rw [List.length_take]; omega)]
    simp only [this] at h0
    exact absurd h0 (by decide)
  · exact h
set_option maxRecDepth 100000 in
theorem rcheckEqual_any (x : Eqv) (hs : x.sort.size ≤ 9223372036854775807) (w : World) :
    Calls Tryz.prog 46 #[eqV x] w fun e w' => e = .returned (.int .i64 (errB (formB x))) ∧ Kept w w' := by
  have C := Lib.hid (fun W => rformed_any x hs W)
  obtain ⟨id, frm, kno, sort, num, den, off⟩ := x
  have K0 := Lib.hid ((Kept.refl w).alloc (.cells #[.int .i64 id, .int .i64 frm, .int .i64 kno, .string sort, .int .i64 num, .int .i64 den, .int .i64 off] 37))
  unfold eqV at C ⊢
  dsimp only at C ⊢
  rcases hf : formB ⟨id, frm, kno, sort, num, den, off⟩ with _ | _
  all_goals
    rw [hf] at C
    clear hf
    go_enter Tryz.func46, Tryz.ntmps46
    go_wp2_with fail
    refine (C.out _).mono ?_
    rintro e w1 ⟨rfl, hk1⟩
    go_wp2_with fail
    go_ret
    exact ⟨rfl, K0.out.trans hk1⟩
set_option maxRecDepth 100000 in
set_option maxHeartbeats 1600000 in
theorem rcheck_any (A : Option Addr) (n c : Nat) (xs : List Eqv) (w : World) (h : TabA w A n c xs) :
    Calls Tryz.prog 37 #[.slice A n c] w fun e w' => e = .returned (.tuple #[.int .i64 (chkS xs).1, .int .i64 (chkS xs).2]) ∧ Kept w w' := by
  have hm := h.2.2.1
  have hnc := h.2.1
  have H := Lib.hid h
  clear h
  go_enter Tryz.func37, Tryz.ntmps37
  go_wp2_with fail
  go_loopw [4] (fun i wr => ∃ k : Nat, k ≤ n ∧ i = .int .i64 k ∧ (∀ j, j < k → refAt xs j = 0) ∧ Kept w wr) (fun i _ => n - (intOf i).toNat)
  case atStart => exact ⟨0, by omega, by first | rfl | go_num, fun j hj => by omega, Kept.refl _⟩
  case round =>
    obtain ⟨k, hk, rfl, ho, hkr⟩ := hrel
    have Ho := Lib.hid ho
    clear ho
    have i0 : (0 : Int) ≤ (k : Int) := by omega
    by_cases hlt : k < n
    · obtain ⟨b, off, hA, htab⟩ := H.out.2.2.2.2 (by omega)
      subst hA
      have hxl : k < xs.length := by rw [H.out.1]; exact hlt
      obtain ⟨x, hx⟩ : ∃ x, xs[k]? = some x := ⟨xs[k]'hxl, List.getElem?_eq_getElem hxl⟩
      have hsx := H.out.2.2.2.1 x (List.mem_of_getElem? hx)
      have hra : refAt xs k = refS (xs.take k) x := by unfold refAt; rw [hx]
      have HRA := Lib.hid hra
      obtain ⟨c0, c1, c2, c3, c4, c5, c6⟩ := (htab k x hx).kept hkr
      have HK := Lib.hid (H.out.take (k := k) (by omega))
      have h200 := Lib.hid (few_of hxl Ho.out)
      have i1 : (k : Int) < (n : Int) := by omega
      have i2 : (k : Int) ≤ (c : Int) := by omega
      have it : (k : Int).toNat = k := by omega
      clear hx hra htab
      generalize hR : refS (xs.take k) x = R at HRA
      have C := Lib.hid (fun (W : World) (hW : Kept wr W) => rrefused_any (some ⟨b, off, none⟩) k c (xs.take k) x R hR hsx h200.out W (HK.out.kept (hkr.trans hW)))
      clear hR
      obtain ⟨id, frm, kno, sort, num, den, off7⟩ := x
      unfold eqV at C
      dsimp only at C c0 c1 c2 c3 c4 c5 c6
      by_cases hR0 : R = 0
      · have hR0' : (R != 0) = false := by simp [hR0]
        have HZ := Lib.hid (HRA.out.trans hR0)
        clear hR0
        go_wp2_with fail
        go_region_with (go_at_call 103; refine (C.out _ ((Kept.refl wr).drew)).mono ?_; rintro e w1 ⟨rfl, hk1'⟩; have hk1 := (hkr.drew).trans hk1')
        all_goals
          go_wp2
          go_roundw
          case rel =>
            refine ⟨k + 1, by omega, by go_num, fun j hj => ?_, hk1⟩
            rcases Nat.lt_or_eq_of_le (Nat.le_of_lt_succ hj) with h | h
            · exact Ho.out j h
            · rw [h]; exact HZ.out
          case measure => simp [intOf]; omega
      · have hR0' : (R != 0) = true := by simp [hR0]
        have HN := Lib.hid hR0
        clear hR0
        go_wp2_with fail
        go_region_with (go_at_call 103; refine (C.out _ ((Kept.refl wr).drew)).mono ?_; rintro e w1 ⟨rfl, hk1'⟩; have hk1 := (hkr.drew).trans hk1')
        all_goals
          go_wp2
          go_ret2
          have e := chkS_at hxl (by rw [HRA.out]; exact HN.out) Ho.out
          exact ⟨by rw [e, HRA.out]; rfl, hk1⟩
    · obtain rfl : k = n := by omega
      go_wp2
      go_ret2
      have e := chkS_none (xs := xs) (fun j hj => Ho.out j (by have := H.out.1; omega))
      exact ⟨by rw [e]; rfl, hkr⟩
end Go.Proofs.YtcjpecdnenemaaaGreatDoor
