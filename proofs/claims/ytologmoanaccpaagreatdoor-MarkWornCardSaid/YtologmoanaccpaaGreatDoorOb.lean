/-
  claims and hearings checked: checkClaims, checkHearing
-/
import Derived.Test.YtologmoanaccpaaGreatDoorOa
namespace Go.Proofs.YtologmoanaccpaaGreatDoor
set_option linter.all false
open Go.RowKit Go.Shelf

theorem own_sla {α : Type} {enc : α → List Value} {k : Nat} {ok : α → Prop} {w : World} {b : Nat} {e : TypeId} {v : Value} {n : Nat} {xs : List α} (hk : ∀ x, (enc x).length = k) (h : w.ownsRow b e k v n (xs.flatMap enc)) (hn : xs.length = n) (ho : ∀ x ∈ xs, ok x) : ∃ A c, v = .slice A n c ∧ SlA enc k ok w A n c xs := by
  rcases h.2 with ⟨h1, h2⟩ | ⟨g, cap, cur, h1, hb, hh, hc, hm, hs, ht⟩
  · exact ⟨none, 0, by rw [h1, h2], hn, by omega, by omega, ho, fun hp => by omega⟩
  · refine ⟨_, cap, h1, sla_row hk hn hc (by unfold maxLen at hm; omega) ho (fun j v hv => ?_)⟩
    have hj := (List.getElem?_eq_some_iff.1 hv).1
    rw [h.1] at hj
    rw [← ht, List.getElem?_take, if_pos hj] at hv
    exact ⟨by rw [cell_of_row _ _ _ _ _ _ hh]; simpa using hv, frozen_of_row _ _ _ _ _ hh⟩
def clE (l : List Cl) : Int := if 10 < l.length then 2 else if l.all claimB = true then (if repB (l.map Cl.own) = true then 6 else 0) else 1
set_option maxRecDepth 100000 in
set_option maxHeartbeats 3200000 in
theorem checkClaims_any (A : Option Addr) (n c : Nat) (l : List Cl) (w : World) (hs : SlA clC 2 Cl.ok w A n c l) :
    Calls Tryz.prog 126 #[.slice A n c] w fun e w' => e = .returned (.int .i64 (clE l)) ∧ Kept w w' := by
  obtain ⟨i0, hi0, hz0, hz1, hz2⟩ := info_parts info3
  have HS := Lib.hid hs
  have hnc := hs.2.1
  have hcm := hs.2.2.1
  obtain ⟨b, hb⟩ : ∃ b, l.all claimB = b := ⟨_, rfl⟩
  have HB : RowKit.Hid (clE l = if 10 < n then 2 else if b = true then (if repB (l.map Cl.own) = true then 6 else 0) else 1) := Lib.hid (by unfold clE; rw [hs.1, hb])
  have H80 : RowKit.Hid (∀ W, Kept w W → Calls Tryz.prog 179 #[.slice A n c, .func (.func 180) #[] #[]] W fun e w' => e = .returned (.bool b) ∧ Kept W w') := Lib.hid (fun W hW => by rw [← hb]; exact every_cl 180 #[] claimB e81 A n c l W (hs.kept hW) (pred81 W))
  clear hb hs
  by_cases h1 : 10 < n
  · have g1 : (10 : Int) < (n : Int) := by omega
    have HN := Lib.hid h1
    clear h1
    go_enter Tryz.func126, Tryz.ntmps126
    go_wp2
    go_ret
    exact ⟨ret_int (by rw [HB.out, if_pos HN.out]), Kept.refl _⟩
  · have g1 : ¬ (10 : Int) < (n : Int) := by omega
    have HN := Lib.hid h1
    have hn10 : n ≤ 10 := by omega
    clear h1
    go_enter Tryz.func126, Tryz.ntmps126
    go_wp2_with fail
    refine (H80.out _ (Kept.refl _)).mono ?_
    rintro e W0 ⟨rfl, hk1⟩
    have K0 := Lib.hid hk1
    have HS0 := Lib.hid (HS.out.kept hk1)
    clear hk1
    cases b
    · go_wp2
      go_ret
      exact ⟨ret_int (by rw [HB.out, if_neg HN.out]; rfl), K0.out⟩
    · go_wp2_with fail
      go_loopw [3, 14] (fun v i wr => ∃ k : Nat, k ≤ n ∧ i = .int .i64 k ∧ wr.ownsRow W0.heap.size 3 1 v k (((l.take k).map Cl.own).flatMap inC) ∧ Kept W0 wr) (fun _ i _ => n - (intOf i).toNat)
      case atStart => exact ⟨0, by omega, by first | rfl | go_num, World.ownsRow_nil _ _ _ _, Kept.refl _⟩
      case round =>
        obtain ⟨k, hk, rfl, ho, hkr⟩ := hrel
        have HO := Lib.hid ho
        have HKR := Lib.hid hkr
        clear ho hkr
        by_cases hlt : k < n
        · obtain ⟨x, hx⟩ : ∃ x, l[k]? = some x := ⟨_, List.getElem?_eq_getElem (by rw [HS0.out.1]; exact hlt)⟩
          obtain ⟨b, off, hA, ht⟩ := HS0.out.2.2.2.2 (by omega)
          subst hA
          have hcc := fun j v hv => (HKR.out.cells _ _ (cell_lt (ht k x hx j v hv))).trans (ht k x hx j v hv)
          have c0 := hcc 0 _ rfl
          have c1 := hcc 1 _ rfl
          simp only [Nat.add_zero] at c0
          have HT : RowKit.Hid (((l.take (k + 1)).map Cl.own).flatMap inC = ((l.take k).map Cl.own).flatMap inC ++ inC x.own) := Lib.hid (by rw [take_snoc' hx]; simp)
          obtain ⟨Wa, hWa⟩ : ∃ Wa, Wa = wr.alloc (.cells #[.int .i64 x.own, .int .i64 x.num] 94) := ⟨_, rfl⟩
          have ka : Kept wr Wa := by rw [hWa]; exact (Kept.refl _).alloc _
          have HWA := Lib.hid hWa
          have HKA := Lib.hid (HKR.out.trans ka)
          have HOA := Lib.hid (own_kept HO.out ka)
          have HNW := Lib.hid (news_of (W := Wa) (cs := inC x.own) (t := 3) (m := Wa.heap.size) rfl)
          have HA3 : RowKit.Hid (k + 1 ≤ maxLen) := Lib.hid (by unfold maxLen; omega)
          have HA4 : RowKit.Hid ((k + 1) * 8 ≤ 140737488355328) := Lib.hid (by omega)
          have HB1 : RowKit.Hid (W0.heap.size ≤ (Wa.alloc (.cells #[.int .i64 x.own] 3)).heap.size) := Lib.hid (by have := HKA.out.size; simp; omega)
          have ra : RowC Wa wr.heap.size (clC x) := by rw [hWa]; exact RowC.new wr (clC x) 94
          have d0 := (ra 0 _ rfl).1
          have ld := cell_lt d0
          clear hx ht hcc hWa ka ra
          go_upto_region 9 with (fail)
          rw [← HWA.out]
          clear c0 c1
          go_wp2_with (at_builtin; refine wpList_append_lies _ rfl (.tmp 18) (.tmp 21) 43 rfl W0.heap.size 3 i0 _ 1 8 Tryz.underlying43 hi0 hz0 hz1 hz2 rfl (by decide) _ k _ rfl (own_kept HOA.out ((Kept.refl _).alloc _)) ⟨Wa.heap.size, 0, none⟩ 1 1 (inC x.own) rfl rfl HNW.out (fun u hu => by simp [inC] at hu; subst hu; rfl) (by decide) HA3.out HA4.out HB1.out _ rfl ?_; intro g cap w6 hown6 hgrow6 hat6 hlt6)
          have HO6 := Lib.hid hown6
          have HK6 := Lib.hid ((HKA.out.alloc _).grown hgrow6 (fun r hr => (HOA.out.lt r hr).1))
          clear hown6 hgrow6 hat6 hlt6
          go_roundw
          case rel => exact ⟨k + 1, by omega, by go_num, by rw [HT.out]; exact HO6.out, HK6.out⟩
          case measure => simp [intOf]; omega
        · obtain rfl : k = n := by omega
          have hT : l.take k = l := List.take_of_length_le (by rw [HS0.out.1]; exact Nat.le_refl _)
          have ho := HO.out
          rw [hT] at ho
          obtain ⟨A', c', rfl, hs'⟩ := own_sla (enc := inC) (xs := l.map Cl.own) (ok := i64) (fun _ => rfl) ho (by rw [List.length_map]; exact HS0.out.1) (fun x hx => by
            obtain ⟨y, hy, rfl⟩ := List.mem_map.1 hx
            exact (HS0.out.2.2.2.1 y hy).1)
          obtain ⟨q, hq⟩ : ∃ q, repB (l.map Cl.own) = q := ⟨_, rfl⟩
          have HQ := Lib.hid hq
          have HR : RowKit.Hid (Calls Tryz.prog 181 #[.slice A' k c'] wr fun e w' => e = .returned (.bool q) ∧ Kept wr w') := Lib.hid (by rw [← hq]; exact repeats_in A' k c' _ wr hs')
          clear hT ho hs' hq
          go_wp2_with fail
          refine HR.out.mono ?_
          rintro e w7 ⟨rfl, hk7⟩
          have K7 := Lib.hid ((K0.out.trans HKR.out).trans hk7)
          clear hk7
          cases q
          · go_wp2
            go_ret
            exact ⟨ret_int (by rw [HB.out, if_neg HN.out, HQ.out]; rfl), K7.out⟩
          · go_wp2
            go_ret
            exact ⟨ret_int (by rw [HB.out, if_neg HN.out, HQ.out]; rfl), K7.out⟩
def chE (ms : List Mk) (fs : List Fd) (day : Int) (found : List Sg) (claims : List Cl) : Int := fstE [smE ms fs, errB (inB day 0 100000), fnE found, clE claims]
set_option maxRecDepth 100000 in
set_option maxHeartbeats 3200000 in
theorem checkHearing_any (A B C D : Option Addr) (n c m d p q u v : Nat) (ms : List Mk) (fs : List Fd) (day : Int) (found : List Sg) (cls : List Cl) (w : World) (hs : SmA w A n c ms B m d fs) (hfo : SlA sgV 6 Sg.ok w C p q found) (hcl : SlA clC 2 Cl.ok w D u v cls) :
    Calls Tryz.prog 113 #[.agg #[.slice A n c, .slice B m d], .int .i64 day, .slice C p q, .slice D u v] w fun e w' => e = .returned (.int .i64 (chE ms fs day found cls)) ∧ Kept w w' := by
  obtain ⟨W0, hW0⟩ : ∃ W0, W0 = w.alloc (.cells #[.slice A n c, .slice B m d] 25) := ⟨_, rfl⟩
  have K0 : RowKit.Hid (Kept w W0) := Lib.hid (by rw [hW0]; exact (Kept.refl _).alloc _)
  have R0 : RowKit.Hid (RowC W0 w.heap.size [.slice A n c, .slice B m d]) := Lib.hid (by rw [hW0]; exact RowC.new w [.slice A n c, .slice B m d] 25)
  have HW := Lib.hid hW0
  have HS := Lib.hid (hs.kept K0.out)
  have HFO := Lib.hid (hfo.kept K0.out)
  have HCL := Lib.hid (hcl.kept K0.out)
  obtain ⟨E1, hE1⟩ : ∃ E, smE ms fs = E := ⟨_, rfl⟩
  obtain ⟨b2, hb2⟩ : ∃ b, inB day 0 100000 = b := ⟨_, rfl⟩
  obtain ⟨v2, hv2⟩ : ∃ v, errB b2 = v := ⟨_, rfl⟩
  obtain ⟨E3, hE3⟩ : ∃ E, fnE found = E := ⟨_, rfl⟩
  obtain ⟨E4, hE4⟩ : ∃ E, clE cls = E := ⟨_, rfl⟩
  obtain ⟨E, hE⟩ : ∃ E, fstE [E1, v2, E3, E4] = E := ⟨_, rfl⟩
  have HE : RowKit.Hid (chE ms fs day found cls = E) := Lib.hid (by unfold chE; rw [hE1, hb2, hv2, hE3, hE4, hE])
  have H14 : RowKit.Hid (∀ W, Kept W0 W → Calls Tryz.prog 25 #[.agg #[.slice A n c, .slice B m d]] W fun e w' => e = .returned (.int .i64 E1) ∧ Kept W w') := Lib.hid (fun W hW => by rw [← hE1]; exact checkSmits_any A B n c m d ms fs W (HS.out.kept hW))
  have H16 : RowKit.Hid (∀ W, Calls Tryz.prog 75 #[.int .i64 day] W fun e w' => e = .returned (.bool b2) ∧ W = w') := Lib.hid (fun W => by rw [← hb2]; exact isDay_any _ W)
  have HV2 : RowKit.Hid (∀ W, Calls Tryz.prog 74 #[.bool b2] W fun e w' => e = .returned (.int .i64 v2) ∧ W = w') := Lib.hid (fun W => by rw [← hv2]; exact valid_any b2 W)
  have H18 : RowKit.Hid (∀ W, Kept W0 W → Calls Tryz.prog 107 #[.slice C p q] W fun e w' => e = .returned (.int .i64 E3) ∧ Kept W w') := Lib.hid (fun W hW => by rw [← hE3]; exact checkFound_any C p q found W (HFO.out.kept hW))
  have H59 : RowKit.Hid (∀ W, Kept W0 W → Calls Tryz.prog 126 #[.slice D u v] W fun e w' => e = .returned (.int .i64 E4) ∧ Kept W w') := Lib.hid (fun W hW => by rw [← hE4]; exact checkClaims_any D u v cls W (HCL.out.kept hW))
  have H13 : RowKit.Hid (∀ W g, RowC W g [.int .i64 E1, .int .i64 v2, .int .i64 E3, .int .i64 E4] → Calls Tryz.prog 73 #[.slice (some ⟨g, 0, none⟩) 4 4] W fun e w' => e = .returned (.int .i64 E) ∧ W = w') := Lib.hid (fun W g hr => by
    rw [← hE]
    exact firstError_any g 0 4 4 [E1, v2, E3, E4] rfl (by omega) W (intsR hr))
  have a0 := (R0.out 0 _ rfl).1
  have a1 := (R0.out 1 _ rfl).1
  have la := cell_lt a0
  clear hW0 hs hfo hcl hE1 hb2 hv2 hE3 hE4 hE
  go_enter Tryz.func113, Tryz.ntmps113
  go_upto_region 1 with (fail)
  rw [← HW.out]
  go_wp2_with fail
  refine (H14.out _ (Kept.refl _)).mono ?_
  rintro e w1 ⟨rfl, hk1⟩
  have K1 := Lib.hid hk1
  clear hk1 a0 a1 la
  go_wp2_with fail
  refine (H16.out _).mono ?_
  rintro e w2 ⟨rfl, rfl⟩
  go_wp2_with fail
  refine (HV2.out _).mono ?_
  rintro e w2 ⟨rfl, rfl⟩
  go_wp2_with fail
  refine (H18.out _ K1.out).mono ?_
  rintro e w2 ⟨rfl, hk2⟩
  have K2 := Lib.hid (K1.out.trans hk2)
  clear hk2
  go_wp2_with fail
  refine (H59.out _ K2.out).mono ?_
  rintro e w3 ⟨rfl, hk3⟩
  have K3 := Lib.hid (K2.out.trans hk3)
  clear hk3
  go_wp2_with fail
  refine (H13.out _ _ (RowC.new _ _ _)).mono ?_
  rintro e w4 ⟨rfl, rfl⟩
  go_wp2
  go_ret
  exact ⟨ret_int HE.out.symm, K0.out.trans (K3.out.alloc _)⟩
end Go.Proofs.YtologmoanaccpaaGreatDoor
