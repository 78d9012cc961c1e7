/- the reference's line -/
import Derived.Test.YtdeokdlkjgpffaaGreatDoorZa
import Derived.Deep.RegionHeld3
import Derived.Laws.Concat
namespace Go.Proofs.YtdeokdlkjgpffaaGreatDoor
set_option linter.all false
open Go.RowKit Go.Shelf
attribute [local go_sem] Oper.semAt_some

theorem digB_itoa {x : Int} (h : 0 ≤ x) : digB x.toNat = itoaB x := by
  unfold digB itoaB Lib.itoa
  rw [if_neg (by omega)]
theorem nums_nil : numsB [] = ⟨#[]⟩ := rfl
theorem nums_one (x : Int) : numsB [x] = itoaB x := by
  unfold numsB joinB
  simp only [List.map_cons, List.map_nil, Lib.join_one]
theorem nums_snoc (y : Int) (ys : List Int) (x : Int) : numsB ((y :: ys) ++ [x]) = numsB (y :: ys) ++ ⟨#[32]⟩ ++ itoaB x := by
  unfold numsB joinB
  simp only [List.map_append, List.map_cons, List.map_nil, List.cons_append, Lib.join_cons, Lib.joinTail]
  simp [ByteArray.ext_iff]
theorem nums_size (xs : List Int) (h : i64B xs) : (numsB xs).size ≤ 22 * xs.length := by
  have := nums_len xs h
  show (numsB xs).data.size ≤ _
  unfold numsB joinB
  simpa using this
def posB (xs : List Int) : Prop := ∀ x ∈ xs, 0 ≤ x ∧ x ≤ 9223372036854775807
theorem posB.i64 {xs : List Int} (h : posB xs) : i64B xs := fun x hx => ⟨by have := (h x hx).1; omega, (h x hx).2⟩

set_option maxRecDepth 100000 in
set_option maxHeartbeats 4000000 in
theorem line_any (A : Option Addr) (n c : Nat) (xs : List Int) (w : World) (hX : IntA w A n c xs) (hb : posB xs) (hlt : n ≤ 1000) :
    Calls Tryz.prog 27 #[.slice A n c] w fun e w' => e = .returned (.string (numsB xs)) ∧ Kept w w' := by
  have HX := Lib.hid hX
  have HB := Lib.hid hb
  have hnc := hX.2.1
  have hcm := hX.2.2.1
  have hlx := hX.1
  clear hX hb
  go_enter Tryz.func27, Tryz.ntmps27
  go_wp2_with fail
  go_loopw [3, 4] (fun v i wr => ∃ k : Nat, k ≤ n ∧ i = .int .i64 k ∧ Kept w wr ∧ v = .string (numsB (xs.take k))) (fun _ i _ => n - (intOf i).toNat)
  case atStart => exact ⟨0, by omega, by first | rfl | go_num, Kept.refl _, rfl⟩
  case round =>
    obtain ⟨k, hk, rfl, hkr, rfl⟩ := hrel
    have HKR := Lib.hid hkr
    have hsz0 := nums_size (xs.take k) (fun x hx => HB.out.i64 x (List.mem_of_mem_take hx))
    rw [List.length_take] at hsz0
    obtain ⟨ob, hob⟩ : ∃ ob, ob = numsB (xs.take k) := ⟨_, rfl⟩
    rw [← hob] at hsz0
    by_cases hlt2 : k < n
    · obtain ⟨b, off, hA, htab⟩ := HX.out.2.2.2 (by omega)
      subst hA
      obtain ⟨x, hx⟩ : ∃ x, xs[k]? = some x := ⟨xs[k]'(by omega), List.getElem?_eq_getElem (by omega)⟩
      have p0 := (hkr.cells _ _ (cell_lt (htab k x hx))).trans (htab k x hx)
      have lp := cell_lt p0
      have hxb := HB.out x (List.mem_of_getElem? hx)
      obtain ⟨m, rfl⟩ : ∃ m : Nat, x = (m : Int) := ⟨x.toNat, by omega⟩
      have hds := digB_size (n := m) (by omega)
      obtain ⟨dx, hdx⟩ : ∃ dx, dx = digB m := ⟨_, rfl⟩
      have HI : RowKit.Hid (∀ W, Calls Tryz.prog 52 #[.int .i64 m] W fun e w' => e = .returned (.string dx) ∧ Kept W w') := Lib.hid (fun W => by rw [hdx]; exact digits_any m (by omega) W)
      rw [← hdx] at hds
      have hdi : dx = itoaB (m : Int) := by rw [hdx]; exact digB_itoa (x := (m : Int)) (by omega)
      have hos : ob.size ≤ 22000 := by omega
      have hi0 : (0 : Int) ≤ (k : Int) := by omega
      have hi1 : (k : Int) < (n : Int) := by omega
      obtain ⟨o3, ho3⟩ : ∃ o3, o3 = numsB (xs.take (k + 1)) := ⟨_, rfl⟩
      by_cases h0 : k = 0
      · have HSN : numsB (xs.take (k + 1)) = ob ++ dx := by
          subst h0
          rw [take_snoc' hx, hob, hdi]
          simp only [List.take_zero, List.nil_append, nums_one, nums_nil]
          simp [ByteArray.ext_iff]
        have hc1 : ∀ W, (Op.stringOp .add ob dx).run Tryz.prog W = .ok (.string o3) W := fun W => by rw [ho3, HSN]; exact run_string_add_sum W _ _ (by omega)
        have HO3 := Lib.hid ho3
        have hg : decide (0 < k) = false := decide_eq_false (by omega)
        rw [← hob]
        clear htab hx hxb hkr hdx hdi hob hsz0 hos hds HSN h0 ho3
        go_wp2_with fail
        refine (HI.out _).mono ?_
        rintro e w9 ⟨rfl, hk9⟩
        have HK9 := Lib.hid hk9
        clear hk9 p0 lp
        go_wp2
        go_roundw
        case rel => exact ⟨k + 1, by omega, by go_num, HKR.out.trans HK9.out, by rw [HO3.out]⟩
        case measure => simp [intOf] <;> omega
      · have HSN : numsB (xs.take (k + 1)) = ob ++ ⟨#[32]⟩ ++ dx := by
          rw [take_snoc' hx, hob, hdi]
          obtain ⟨y, ys, hy⟩ : ∃ y ys, xs.take k = y :: ys := by
            rcases h : xs.take k with _ | ⟨y, ys⟩
            · have := congrArg List.length h
              rw [List.length_take, List.length_nil] at this
              omega
            · exact ⟨y, ys, rfl⟩
          rw [hy, nums_snoc]
        have h1s : (⟨#[32]⟩ : ByteArray).size = 1 := rfl
        obtain ⟨o2, ho2⟩ : ∃ o2, o2 = ob ++ ⟨#[32]⟩ := ⟨_, rfl⟩
        have hs2 : o2.size = ob.size + 1 := by rw [ho2, ByteArray.size_append, h1s]
        have hc1 : ∀ W, (Op.stringOp .add ob ⟨#[32]⟩).run Tryz.prog W = .ok (.string o2) W := fun W => by rw [ho2]; exact run_string_add_sum W _ _ (by omega)
        have hc2 : ∀ W, (Op.stringOp .add o2 dx).run Tryz.prog W = .ok (.string o3) W := fun W => by rw [ho3, HSN, ← ho2]; exact run_string_add_sum W _ _ (by omega)
        have HO3 := Lib.hid ho3
        have hg : decide (0 < k) = true := decide_eq_true (by omega)
        rw [← hob]
        clear htab hx hxb hkr hdx hdi hob hsz0 hos hds HSN h0 ho3 ho2 hs2 h1s
        go_wp2_with fail
        refine (HI.out _).mono ?_
        rintro e w9 ⟨rfl, hk9⟩
        have HK9 := Lib.hid hk9
        clear hk9 p0 lp
        go_wp2
        go_roundw
        case rel => exact ⟨k + 1, by omega, by go_num, HKR.out.trans HK9.out, by rw [HO3.out]⟩
        case measure => simp [intOf] <;> omega
    · obtain rfl : k = n := by omega
      have ht : xs.take k = xs := List.take_of_length_le (by omega)
      rw [ht] at hob
      rw [ht]
      clear ht hob hsz0
      go_wp2
      go_ret
      exact ⟨rfl, hkr⟩
end Go.Proofs.YtdeokdlkjgpffaaGreatDoor
