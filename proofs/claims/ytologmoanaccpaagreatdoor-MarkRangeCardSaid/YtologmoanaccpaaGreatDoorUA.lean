/-
  the reference's checkFound, checkClaims, begin
  the reference's claimed 117, has 178, sets 121
  the reference's Less 71, list 122
  the reference's short 123
-/
import Derived.Test.YtologmoanaccpaaGreatDoorZG
import Derived.Test.YtologmoanaccpaaGreatDoorBF
import Derived.Test.YtologmoanaccpaaGreatDoorBK
import Derived.Test.YtologmoanaccpaaGreatDoorZA
namespace Go.Proofs.YtologmoanaccpaaGreatDoor
set_option linter.all false
open Go.RowKit Go.Shelf

set_option maxRecDepth 100000 in
set_option maxHeartbeats 1600000 in
theorem rcheckFound_any (C : Option Addr) (p q : Nat) (found : List Sg) (w : World) (hfo : SlA sgV 6 Sg.ok w C p q found) :
    Calls Tryz.prog 169 #[.slice C p q] w fun e w' => e = .returned (.int .i64 (fnE found)) ∧ Kept w w' := by
  have HS := Lib.hid hfo
  have HN := Lib.hid hfo.1
  have hpc := hfo.2.1
  have hpm := hfo.2.2.1
  clear hfo
  by_cases g1 : 60 < p
  · have HE : RowKit.Hid (fnE found = 2) := Lib.hid (by unfold fnE; rw [if_pos (by rw [HN.out]; exact g1)])
    go_enter Tryz.func169, Tryz.ntmps169
    go_wp2_with fail
    go_ret
    exact ⟨ret_int HE.out.symm, Kept.refl _⟩
  have HE : RowKit.Hid (fnE found = errB (found.all sightB)) := Lib.hid (by unfold fnE; rw [if_neg (by rw [HN.out]; exact g1)])
  go_enter Tryz.func169, Tryz.ntmps169
  go_wp2_with fail
  go_loopw [3] (fun i wr => ∃ k : Nat, k ≤ p ∧ i = .int .i64 k ∧ (∀ (j : Nat) (x : Sg), j < k → found[j]? = some x → sightB x = true) ∧ Kept w wr) (fun i _ => p - (intOf i).toNat)
  case atStart => exact ⟨0, by omega, by first | rfl | go_num, fun j x hj => by omega, Kept.refl _⟩
  case round =>
    obtain ⟨k, hk, rfl, ho, hkr⟩ := hrel
    have Ho := Lib.hid ho
    have HKR := Lib.hid hkr
    clear ho hkr
    by_cases hlt : k < p
    · obtain ⟨x, hx⟩ : ∃ x, found[k]? = some x := ⟨_, List.getElem?_eq_getElem (by rw [HN.out]; exact hlt)⟩
      obtain ⟨b, off, hC, ht⟩ := HS.out.2.2.2.2 (by omega)
      subst hC
      have hcc := fun j v hv => (HKR.out.cells _ _ (cell_lt (ht k x hx j v hv))).trans (ht k x hx j v hv)
      have c0 := hcc 0 _ rfl
      have c1 := hcc 1 _ rfl
      have c2 := hcc 2 _ rfl
      have c3 := hcc 3 _ rfl
      have c4 := hcc 4 _ rfl
      have c5 := hcc 5 _ rfl
      simp only [Nat.add_zero] at c0
      have lc := cell_lt c0
      have HC := Lib.hid (risSight_any x (HS.out.2.2.2.1 x (List.mem_of_getElem? hx)) wr)
      have Hx := Lib.hid hx
      obtain ⟨bb, hbb⟩ : ∃ b, sightB x = b := ⟨_, rfl⟩
      rw [hbb] at HC
      have HB := Lib.hid hbb
      clear hx ht hcc hbb
      have hi0 : (0 : Int) ≤ (k : Int) := by omega
      have hi1 : (k : Int) < (p : Int) := by omega
      go_wp2_with fail
      refine HC.out.mono ?_
      rintro e w1 ⟨rfl, hk1⟩
      have HK1 := Lib.hid (HKR.out.trans hk1)
      clear hk1
      cases bb with
      | false =>
        go_wp2_with fail
        go_ret
        exact ⟨ret_int (by rw [HE.out, all_nof Hx.out HB.out]; rfl), HK1.out⟩
      | true =>
        go_wp2_with fail
        go_roundw
        case rel => exact ⟨k + 1, by omega, by go_num, step_of (q := fun _ x => sightB x = true) Ho.out Hx.out HB.out, HK1.out⟩
        case measure => simp [intOf]; omega
    · obtain rfl : k = p := by omega
      go_wp2_with fail
      go_ret
      exact ⟨ret_int (by rw [HE.out, all_of HN.out Ho.out]; rfl), HKR.out⟩
theorem own_yes {cls : List Cl} {i j : Nat} {x y : Cl} (hx : cls[i]? = some x) (hy : cls[j]? = some y) (hj : j < i) (h : x.own = y.own) : repB (cls.map Cl.own) = true := by
  unfold repB
  rw [decide_eq_true_eq]
  intro hn
  have hn' := List.pairwise_map.1 hn
  obtain ⟨h1, e1⟩ := List.getElem?_eq_some_iff.1 hx
  obtain ⟨h2, e2⟩ := List.getElem?_eq_some_iff.1 hy
  have := List.pairwise_iff_getElem.1 hn' j i h2 h1 hj
  rw [e1, e2] at this
  exact this h.symm
theorem own_none {cls : List Cl} {n : Nat} (hn : cls.length = n) (h : ∀ (i : Nat) (x : Cl), i < n → cls[i]? = some x → ∀ (j : Nat) (y : Cl), j < i → cls[j]? = some y → x.own ≠ y.own) : repB (cls.map Cl.own) = false := by
  unfold repB
  rw [decide_eq_false_iff_not]
  intro hh
  refine hh (List.pairwise_map.2 (List.pairwise_iff_getElem.2 fun j i h2 h1 hj => ?_))
  exact fun e => h i _ (by omega) (List.getElem?_eq_getElem h1) j _ hj (List.getElem?_eq_getElem h2) e.symm
set_option maxRecDepth 100000 in
set_option maxHeartbeats 3200000 in
theorem rcheckClaims_any (D : Option Addr) (u v : Nat) (cls : List Cl) (w : World) (hcl : SlA clC 2 Cl.ok w D u v cls) :
    Calls Tryz.prog 170 #[.slice D u v] w fun e w' => e = .returned (.int .i64 (clE cls)) ∧ Kept w w' := by
  have HS := Lib.hid hcl
  have HN := Lib.hid hcl.1
  have hpc := hcl.2.1
  have hpm := hcl.2.2.1
  clear hcl
  by_cases g1 : 10 < u
  · have HE : RowKit.Hid (clE cls = 2) := Lib.hid (by unfold clE; rw [if_pos (by rw [HN.out]; exact g1)])
    go_enter Tryz.func170, Tryz.ntmps170
    go_wp2_with fail
    go_ret
    exact ⟨ret_int HE.out.symm, Kept.refl _⟩
  have HE : RowKit.Hid (clE cls = if cls.all claimB = true then (if repB (cls.map Cl.own) = true then 6 else 0) else 1) := Lib.hid (by unfold clE; rw [if_neg (by rw [HN.out]; exact g1)])
  go_enter Tryz.func170, Tryz.ntmps170
  go_wp2_with fail
  go_loop [3] (fun i => ∃ k : Nat, k ≤ u ∧ i = .int .i64 k ∧ (∀ (j : Nat) (x : Cl), j < k → cls[j]? = some x → claimB x = true)) (fun i => u - (intOf i).toNat)
  case atStart => exact ⟨0, by omega, by first | rfl | go_num, fun j x hj => by omega⟩
  case round =>
    obtain ⟨k, hk, rfl, ho⟩ := hrel
    have Ho := Lib.hid ho
    clear ho
    by_cases hlt : k < u
    · obtain ⟨x, hx⟩ : ∃ x, cls[k]? = some x := ⟨_, List.getElem?_eq_getElem (by rw [HN.out]; exact hlt)⟩
      obtain ⟨b, off, hD, ht⟩ := HS.out.2.2.2.2 (by omega)
      subst hD
      have c0 := ht k x hx 0 _ rfl
      have c1 := ht k x hx 1 _ rfl
      simp only [Nat.add_zero] at c0
      have lc := cell_lt c0
      have Hx := Lib.hid hx
      obtain ⟨b1, hb1⟩ : ∃ b, inB x.own 1 40 = b := ⟨_, rfl⟩
      obtain ⟨b2, hb2⟩ : ∃ b, inB x.num 0 60 = b := ⟨_, rfl⟩
      have HB : RowKit.Hid (claimB x = (b1 && b2)) := Lib.hid (by unfold claimB; rw [hb1, hb2])
      have H1 := Lib.hid (rwithin_any x.own 1 40)
      have H2 := Lib.hid (rwithin_any x.num 0 60)
      rw [hb1] at H1
      rw [hb2] at H2
      clear hx ht hb1 hb2
      have hi0 : (0 : Int) ≤ (k : Int) := by omega
      have hi1 : (k : Int) < (u : Int) := by omega
      cases b1 with
      | false =>
        go_wp2_with fail
        refine (H1.out _).mono ?_
        rintro e w1 ⟨rfl, rfl⟩
        go_wp2_with fail
        go_ret
        exact ⟨ret_int (by rw [HE.out, all_nof Hx.out (by rw [HB.out]; rfl)]; rfl), Kept.refl _⟩
      | true =>
        cases b2 with
        | false =>
          go_wp2_with fail
          refine (H1.out _).mono ?_
          rintro e w1 ⟨rfl, rfl⟩
          go_wp2_with fail
          refine (H2.out _).mono ?_
          rintro e w1 ⟨rfl, rfl⟩
          go_wp2_with fail
          go_ret
          exact ⟨ret_int (by rw [HE.out, all_nof Hx.out (by rw [HB.out]; rfl)]; rfl), Kept.refl _⟩
        | true =>
          go_wp2_with fail
          refine (H1.out _).mono ?_
          rintro e w1 ⟨rfl, rfl⟩
          go_wp2_with fail
          refine (H2.out _).mono ?_
          rintro e w1 ⟨rfl, rfl⟩
          go_wp2_with fail
          go_round
          case rel => exact ⟨k + 1, by omega, by go_num, step_of (q := fun _ x => claimB x = true) Ho.out Hx.out (by rw [HB.out]; rfl)⟩
          case measure => simp [intOf]; omega
    · obtain rfl : k = u := by omega
      have HA : RowKit.Hid (clE cls = if repB (cls.map Cl.own) = true then 6 else 0) := Lib.hid (by rw [HE.out, all_of HN.out Ho.out]; rfl)
      clear Ho HE hlt
      go_wp2_with fail
      go_loopw [4] (fun i wr => ∃ q : Nat, q ≤ k ∧ i = .int .i64 q ∧ (∀ (i : Nat) (x : Cl), i < q → cls[i]? = some x → ∀ (j : Nat) (y : Cl), j < i → cls[j]? = some y → x.own ≠ y.own) ∧ Kept w wr) (fun i _ => k - (intOf i).toNat)
      case atStart => exact ⟨0, by omega, by first | rfl | go_num, (fun j x hj => by omega), Kept.refl _⟩
      case round =>
        obtain ⟨q, hq, rfl, ho, hkr⟩ := hrel
        have Ho := Lib.hid ho
        have HKR := Lib.hid hkr
        clear ho hkr
        by_cases hlt : q < k
        · obtain ⟨x, hx⟩ : ∃ x, cls[q]? = some x := ⟨_, List.getElem?_eq_getElem (by rw [HN.out]; exact hlt)⟩
          obtain ⟨b, off, hD, ht⟩ := HS.out.2.2.2.2 (by omega)
          subst hD
          have HT := Lib.hid ht
          have Hx := Lib.hid hx
          clear ht hx
          obtain ⟨W3, hW3⟩ : ∃ W3, W3 = wr := ⟨_, rfl⟩
          rw [← hW3] at HKR ⊢
          clear hW3
          go_wp2_with fail
          go_loopw [5] (fun i wr => ∃ r : Nat, r ≤ q ∧ i = .int .i64 r ∧ (∀ (j : Nat) (y : Cl), j < r → cls[j]? = some y → x.own ≠ y.own) ∧ Kept W3 wr) (fun i _ => q - (intOf i).toNat)
          case atStart => exact ⟨0, by omega, by first | rfl | go_num, (fun j x hj => by omega), Kept.refl _⟩
          case round =>
            obtain ⟨r, hr, rfl, hp, hkr2⟩ := hrel
            have Hp := Lib.hid hp
            have HKS := Lib.hid (HKR.out.trans hkr2)
            have HK3 := Lib.hid hkr2
            clear hp hkr2
            by_cases hrl : r < q
            · obtain ⟨y, hy⟩ : ∃ y, cls[r]? = some y := ⟨_, List.getElem?_eq_getElem (by rw [HN.out]; omega)⟩
              have c0 := (HKS.out.cells _ _ (cell_lt (HT.out q x Hx.out 0 _ rfl))).trans (HT.out q x Hx.out 0 _ rfl)
              have d0 := (HKS.out.cells _ _ (cell_lt (HT.out r y hy 0 _ rfl))).trans (HT.out r y hy 0 _ rfl)
              simp only [Nat.add_zero] at c0 d0
              have Hy := Lib.hid hy
              clear hy
              have hi0 : (0 : Int) ≤ (q : Int) := by omega
              have hi1 : (q : Int) < (k : Int) := by omega
              have hj0 : (0 : Int) ≤ (r : Int) := by omega
              have hj1 : (r : Int) < (k : Int) := by omega
              by_cases he : x.own = y.own
              · have h1 : (x.own == y.own) = true := by simpa using he
                have HO := Lib.hid he
                clear he
                go_wp2_with fail
                go_quiet (fail)
                go_wp2_with fail
                go_ret
                exact ⟨ret_int (by rw [HA.out, own_yes Hx.out Hy.out hrl HO.out]; rfl), by first | exact HKS.out | exact HKS.out.drewN _ | exact HKS.out.drew⟩
              · have h1 : (x.own == y.own) = false := by simpa using he
                have HO := Lib.hid he
                clear he
                go_wp2_with fail
                go_quiet (fail)
                go_wp2_with fail
                go_roundw
                case rel => exact ⟨r + 1, by omega, by go_num, step_of (q := fun _ y => x.own ≠ y.own) Hp.out Hy.out HO.out, by first | exact HK3.out | exact HK3.out.drewN _ | exact HK3.out.drew⟩
                case measure => simp [intOf]; omega
            · obtain rfl : r = q := by omega
              go_wp2_with fail
              go_roundw
              case rel => exact ⟨r + 1, by omega, by go_num, step_of (q := fun i x => ∀ (j : Nat) (y : Cl), j < i → cls[j]? = some y → x.own ≠ y.own) Ho.out Hx.out Hp.out, HKS.out⟩
              case measure => simp [intOf]; omega
        · obtain rfl : q = k := by omega
          have HR : RowKit.Hid (repB (cls.map Cl.own) = false) := Lib.hid (own_none HN.out Ho.out)
          go_wp2_with fail
          go_ret
          exact ⟨ret_int (by rw [HA.out, HR.out]; rfl), HKR.out⟩
def bgE (ms : List Mk) (fs : List Fd) (day : Int) (ows : List Int) (found : List Sg) (cls : List Cl) : Int := fstE [stE ms fs day ows, fnE found, clE cls]
theorem bgE_nil (ms : List Mk) (fs : List Fd) (day : Int) (found : List Sg) (cls : List Cl) : bgE ms fs day [] found cls = chE ms fs day found cls := by
  by_cases h1 : smE ms fs = 0 <;> by_cases h2 : errB (inB day 0 100000) = 0 <;> simp [bgE, stE_nil, chE, inE, fstE, h1, h2]
set_option maxRecDepth 100000 in
set_option maxHeartbeats 1600000 in
theorem rbegin_any (A B C D G : Option Addr) (n c m d p q u v x y : Nat) (ms : List Mk) (fs : List Fd) (day : Int) (ows : List Int) (found : List Sg) (cls : List Cl) (w : World) (hs : SmA w A n c ms B m d fs) (how : IntA w G x y ows) (hx : x ≤ 1000) (hfo : SlA sgV 6 Sg.ok w C p q found) (hcl : SlA clC 2 Cl.ok w D u v cls) :
    Calls Tryz.prog 109 #[.agg #[.slice A n c, .slice B m d], .int .i64 day, .slice G x y, .slice C p q, .slice D u v] w fun e w' => e = .returned (.int .i64 (bgE ms fs day ows found cls)) ∧ Kept w w' := by
  obtain ⟨W0, hW0⟩ : ∃ W0, W0 = w.alloc (.cells #[.slice A n c, .slice B m d] 25) := ⟨_, rfl⟩
  have K0 : RowKit.Hid (Kept w W0) := Lib.hid (by rw [hW0]; exact (Kept.refl _).alloc _)
  have R0 : RowKit.Hid (RowC W0 w.heap.size [.slice A n c, .slice B m d]) := Lib.hid (by rw [hW0]; exact RowC.new w [.slice A n c, .slice B m d] 25)
  have HW := Lib.hid hW0
  have H1 := Lib.hid (rstart_any A B G n c m d x y ms fs day ows W0 (hs.kept K0.out) (how.kept K0.out) hx)
  have H2 : RowKit.Hid (∀ W, Kept w W → Calls Tryz.prog 169 #[.slice C p q] W fun e w' => e = .returned (.int .i64 (fnE found)) ∧ Kept W w') := Lib.hid (fun W hW => rcheckFound_any C p q found W (hfo.kept hW))
  have H3 : RowKit.Hid (∀ W, Kept w W → Calls Tryz.prog 170 #[.slice D u v] W fun e w' => e = .returned (.int .i64 (clE cls)) ∧ Kept W w') := Lib.hid (fun W hW => rcheckClaims_any D u v cls W (hcl.kept hW))
  obtain ⟨E1, hE1⟩ : ∃ E, stE ms fs day ows = E := ⟨_, rfl⟩
  obtain ⟨E2, hE2⟩ : ∃ E, fnE found = E := ⟨_, rfl⟩
  obtain ⟨E3, hE3⟩ : ∃ E, clE cls = E := ⟨_, rfl⟩
  rw [hE1] at H1
  rw [hE2] at H2
  rw [hE3] at H3
  have HB : RowKit.Hid (bgE ms fs day ows found cls = fstE [E1, E2, E3]) := Lib.hid (by unfold bgE; rw [hE1, hE2, hE3])
  have a0 := (R0.out 0 _ rfl).1
  have a1 := (R0.out 1 _ rfl).1
  have la := cell_lt a0
  clear hW0 hs how hfo hcl hE1 hE2 hE3
  go_enter Tryz.func109, Tryz.ntmps109
  go_upto_region 1 with (fail)
  rw [← HW.out]
  go_wp2_with fail
  refine H1.out.mono ?_
  rintro e w1 ⟨rfl, hk1⟩
  have K1 := Lib.hid (K0.out.trans hk1)
  clear hk1 a0 a1 la
  by_cases h1 : E1 = 0
  rotate_left
  · have g1 : (E1 == 0) = false := by simpa using h1
    have HF : RowKit.Hid (fstE [E1, E2, E3] = E1) := Lib.hid (by unfold fstE; rw [if_neg h1])
    clear h1
    go_wp2_with fail
    go_ret
    exact ⟨ret_int (by rw [HB.out, HF.out]), K1.out⟩
  subst h1
  go_wp2_with fail
  refine (H2.out _ K1.out).mono ?_
  rintro e w2 ⟨rfl, hk2⟩
  have K2 := Lib.hid (K1.out.trans hk2)
  clear hk2
  by_cases h2 : E2 = 0
  rotate_left
  · have g2 : (E2 == 0) = false := by simpa using h2
    have HF : RowKit.Hid (fstE [0, E2, E3] = E2) := Lib.hid (by simp [fstE, h2])
    clear h2
    go_wp2_with fail
    go_ret
    exact ⟨ret_int (by rw [HB.out, HF.out]), K2.out⟩
  subst h2
  go_wp2_with fail
  refine (H3.out _ K2.out).mono ?_
  rintro e w3 ⟨rfl, hk3⟩
  have K3 := Lib.hid (K2.out.trans hk3)
  clear hk3
  have HF : RowKit.Hid (fstE [0, 0, E3] = E3) := Lib.hid (by by_cases h : E3 = 0 <;> simp [fstE, h])
  go_wp2_with fail
  go_ret
  exact ⟨ret_int (by rw [HB.out, HF.out]), K3.out⟩
end Go.Proofs.YtologmoanaccpaaGreatDoor

namespace Go.Proofs.YtologmoanaccpaaGreatDoor
set_option linter.all false
open Go.RowKit Go.Shelf

def cmX (cls : List Cl) (o : Int) : Option Nat := cls.findIdx? fun c => decide (c.own = o)
def cmV (cls : List Cl) (o : Int) : Int := match cmX cls o with | some k => (k : Int) | none => -1
theorem cmX_some {cls : List Cl} {o : Int} {k : Nat} {x : Cl} (hx : cls[k]? = some x) (he : x.own = o) (h : ∀ (j : Nat) (y : Cl), j < k → cls[j]? = some y → y.own ≠ o) : cmX cls o = some k := by
  obtain ⟨h1, e1⟩ := List.getElem?_eq_some_iff.1 hx
  unfold cmX
  rw [List.findIdx?_eq_some_iff_getElem]
  refine ⟨h1, by rw [e1]; simpa using he, fun j hj => ?_⟩
  have := h j _ hj (List.getElem?_eq_getElem (by omega))
  simpa using this
theorem cmX_none {cls : List Cl} {o : Int} {n : Nat} (hn : cls.length = n) (h : ∀ (j : Nat) (y : Cl), j < n → cls[j]? = some y → y.own ≠ o) : cmX cls o = none := by
  unfold cmX
  rw [List.findIdx?_eq_none_iff]
  intro x hx
  obtain ⟨j, h1, e1⟩ := List.mem_iff_getElem.1 hx
  have := h j x (by omega) (by rw [← e1]; exact List.getElem?_eq_getElem h1)
  simpa using this
theorem cmX_get {cls : List Cl} {o : Int} {k : Nat} (h : cmX cls o = some k) : ∃ x, cls[k]? = some x ∧ x.own = o := by
  unfold cmX at h
  rw [List.findIdx?_eq_some_iff_getElem] at h
  obtain ⟨h1, h2, _⟩ := h
  exact ⟨_, List.getElem?_eq_getElem h1, by simpa using h2⟩
theorem cmX_no {cls : List Cl} {o : Int} (h : cmX cls o = none) : ∀ x ∈ cls, x.own ≠ o := by
  unfold cmX at h
  rw [List.findIdx?_eq_none_iff] at h
  intro x hx
  simpa using h x hx
set_option maxRecDepth 100000 in
set_option maxHeartbeats 1600000 in
theorem claimed_any (D : Option Addr) (u v : Nat) (cls : List Cl) (o : Int) (w : World) (hcl : SlA clC 2 Cl.ok w D u v cls) :
    Calls Tryz.prog 117 #[.slice D u v, .int .i64 o] w fun e w' => e = .returned (.int .i64 (cmV cls o)) ∧ w' = w := by
  have HS := Lib.hid hcl
  have HN := Lib.hid hcl.1
  have hpc := hcl.2.1
  have hpm := hcl.2.2.1
  clear hcl
  go_enter Tryz.func117, Tryz.ntmps117
  go_wp2_with fail
  go_loop [5] (fun i => ∃ k : Nat, k ≤ u ∧ i = .int .i64 k ∧ (∀ (j : Nat) (x : Cl), j < k → cls[j]? = some x → x.own ≠ o)) (fun i => u - (intOf i).toNat)
  case atStart => exact ⟨0, by omega, by first | rfl | go_num, fun j x hj => by omega⟩
  case round =>
    obtain ⟨k, hk, rfl, ho⟩ := hrel
    have Ho := Lib.hid ho
    clear ho
    by_cases hlt : k < u
    · obtain ⟨x, hx⟩ : ∃ x, cls[k]? = some x := ⟨_, List.getElem?_eq_getElem (by rw [HN.out]; exact hlt)⟩
      obtain ⟨b, off, hD, ht⟩ := HS.out.2.2.2.2 (by omega)
      subst hD
      have c0 := ht k x hx 0 _ rfl
      simp only [Nat.add_zero] at c0
      have lc := cell_lt c0
      have Hx := Lib.hid hx
      clear hx ht
      have hi0 : (0 : Int) ≤ (k : Int) := by omega
      have hi1 : (k : Int) < (u : Int) := by omega
      by_cases he : x.own = o
      · have h1 : (x.own == o) = true := by simpa using he
        have HV : RowKit.Hid (cmV cls o = (k : Int)) := Lib.hid (by unfold cmV; rw [cmX_some Hx.out he Ho.out])
        clear he
        go_wp2_with fail
        go_ret
        exact ⟨ret_int HV.out.symm, rfl⟩
      · have h1 : (x.own == o) = false := by simpa using he
        have HX := Lib.hid he
        clear he
        go_wp2_with fail
        go_round
        case rel => exact ⟨k + 1, by omega, by go_num, step_of (q := fun _ x => x.own ≠ o) Ho.out Hx.out HX.out⟩
        case measure => simp [intOf]; omega
    · obtain rfl : k = u := by omega
      have HV : RowKit.Hid (cmV cls o = -1) := Lib.hid (by unfold cmV; rw [cmX_none HN.out Ho.out])
      go_wp2_with fail
      go_ret
      exact ⟨ret_int HV.out.symm, rfl⟩
set_option maxRecDepth 100000 in
set_option maxHeartbeats 1600000 in
theorem has_any' (S d : Nat) (hd : d ≤ 1000) (hS : S < 9223372036854775808) (w : World) :
    Calls Tryz.prog 178 #[.int .i64 (S : Int), .int .i64 (d : Int)] w fun e w' => e = .returned (.bool (S.testBit d)) ∧ w' = w := by
  go_enter Tryz.func178, Tryz.ntmps178
  go_wp2_with fail
  go_loop [0, 5] (fun s i => ∃ k q : Nat, k ≤ d ∧ i = .int .i64 k ∧ s = .int .i64 (q : Int) ∧ q = S / 2 ^ k) (fun _ i => d - (intOf i).toNat)
  case atStart => exact ⟨0, S, by omega, by first | rfl | go_num, rfl, by simp⟩
  case round =>
    obtain ⟨k, q, hk, rfl, rfl, hq⟩ := hrel
    have hql : q < 9223372036854775808 := Nat.lt_of_le_of_lt (by rw [hq]; exact Nat.div_le_self _ _) hS
    have HQ := Lib.hid hq
    clear hq
    by_cases hlt : k < d
    · have ht : (q : Int).tdiv 2 = ((q / 2 : Nat) : Int) := rfl
      obtain ⟨q1, hq1⟩ : ∃ q1, q / 2 = q1 := ⟨_, rfl⟩
      have hq1l : q1 < 9223372036854775808 := by omega
      rw [hq1] at ht
      have HQ1 := Lib.hid hq1
      clear hq1
      go_wp2_with fail
      go_round
      case rel => exact ⟨k + 1, q1, by omega, by go_num, by first | rfl | (rw [ht]; rfl) | go_num, by rw [← HQ1.out, HQ.out, Nat.div_div_eq_div_mul, Nat.pow_succ]⟩
      case measure => simp [intOf]; omega
    · obtain rfl : k = d := by omega
      have ht : (q : Int).tmod 2 = ((q % 2 : Nat) : Int) := rfl
      have HT : RowKit.Hid (S.testBit k = decide (q % 2 = 1)) := Lib.hid (by rw [Nat.testBit_eq_decide_div_mod_eq, HQ.out])
      obtain ⟨z, hz⟩ : ∃ z, q % 2 = z := ⟨_, rfl⟩
      have hz2 : z < 2 := by omega
      rw [hz] at ht HT
      have HZ : RowKit.Hid ((((z : Nat) : Int) == 1) = decide (z = 1)) := Lib.hid (by
        rw [Bool.eq_iff_iff]
        simp
        omega)
      clear hz
      go_wp2_with fail
      go_ret
      exact ⟨by rw [HT.out]; first | rfl | (simp only [ht, HZ.out]; done) | (simp only [ht, HZ.out]; rfl), rfl⟩
set_option maxRecDepth 100000 in
set_option maxHeartbeats 1600000 in
theorem sets_any (n : Nat) (hn : n ≤ 40) (w : World) :
    Calls Tryz.prog 121 #[.int .i64 (n : Int)] w fun e w' => e = .returned (.int .i64 ((2 ^ n : Nat) : Int)) ∧ w' = w := by
  go_enter Tryz.func121, Tryz.ntmps121
  go_wp2_with fail
  go_loop [3, 4] (fun s i => ∃ k q : Nat, k ≤ n ∧ i = .int .i64 k ∧ s = .int .i64 (q : Int) ∧ q = 2 ^ k) (fun _ i => n - (intOf i).toNat)
  case atStart => exact ⟨0, 1, by omega, by first | rfl | go_num, by first | rfl | go_num, rfl⟩
  case round =>
    obtain ⟨k, q, hk, rfl, rfl, hq⟩ := hrel
    have hql : q ≤ 1099511627776 := by rw [hq]; exact Nat.pow_le_pow_right (n := 2) (by omega) (show k ≤ 40 by omega)
    have HQ := Lib.hid hq
    clear hq
    by_cases hlt : k < n
    · go_wp2_with fail
      go_round
      case rel => exact ⟨k + 1, 2 * q, by omega, by go_num, by go_num, by rw [HQ.out, Nat.pow_succ]; omega⟩
      case measure => simp [intOf]; omega
    · obtain rfl : k = n := by omega
      go_wp2_with fail
      go_ret
      exact ⟨ret_int (by rw [HQ.out]; simp), rfl⟩
end Go.Proofs.YtologmoanaccpaaGreatDoor

namespace Go.Proofs.YtologmoanaccpaaGreatDoor
set_option linter.all false
open Go.RowKit Go.Shelf

def lessB (a b : List Int) : Bool := cmpLL a b == -1
theorem cmpI_less (x y : Int) : (cmpI x y == -1) = decide (x < y) := by
  unfold cmpI
  by_cases h : x < y
  · rw [if_pos h]; simp [h]
  · rw [if_neg h]
    by_cases h2 : x > y
    · rw [if_pos (by omega)]; simp [h]
    · rw [if_neg (by omega)]; simp [h]
theorem cmpI_ne {x y : Int} (h : x ≠ y) : cmpI x y ≠ 0 := by
  unfold cmpI
  by_cases h1 : x < y
  · rw [if_pos h1]; decide
  · rw [if_neg h1, if_pos (by omega)]; decide
theorem fstE_pick {a b : Int} (h : a ≠ 0) : fstE [a, b] = a := by unfold fstE; rw [if_neg h]
theorem fstE_zero2 (b : Int) : fstE [0, b] = b := by
  unfold fstE
  rw [if_pos rfl]
  unfold fstE
  by_cases h : b = 0
  · rw [if_pos h, h]; rfl
  · rw [if_neg h]
theorem less_len {xs ys : List Int} {n m : Nat} (hx : xs.length = n) (hy : ys.length = m) (h : n ≠ m) : lessB xs ys = decide (n < m) := by
  unfold lessB cmpLL
  rw [hx, hy, fstE_pick (cmpI_ne (by omega)), cmpI_less, Bool.eq_iff_iff]
  simp
theorem less_at {xs ys : List Int} {n k : Nat} {x y : Int} (hx : xs.length = n) (hy : ys.length = n) (h1 : xs[k]? = some x) (h2 : ys[k]? = some y) (h : ∀ (j : Nat) (z : Int), j < k → xs[j]? = some z → ys[j]? = some z) (hne : x ≠ y) : lessB xs ys = decide (x < y) := by
  unfold lessB cmpLL
  rw [hx, hy, cmpI_self, fstE_zero2, cmpL_at h1 h2 h (cmpI_ne hne), cmpI_less]
theorem less_end {xs ys : List Int} {n : Nat} (hx : xs.length = n) (hy : ys.length = n) (h : ∀ (j : Nat) (z : Int), j < n → xs[j]? = some z → ys[j]? = some z) : lessB xs ys = false := by
  unfold lessB cmpLL
  rw [hx, hy, cmpI_self, fstE_zero2, cmpL_end (fun i z hi => h i z (by omega)), if_neg (by omega)]
  rfl
set_option maxRecDepth 100000 in
set_option maxHeartbeats 1600000 in
theorem less_any (A : Option Addr) (n c : Nat) (xs : List Int) (B : Option Addr) (m d : Nat) (ys : List Int) (w : World) (hx : IntA w A n c xs) (hy : IntA w B m d ys) :
    Calls Tryz.prog 71 #[.slice A n c, .slice B m d] w fun e w' => e = .returned (.bool (lessB xs ys)) ∧ Kept w w' := by
  have hxl := hx.2.1
  have hyl := hy.2.1
  have HX := Lib.hid hx
  have HY := Lib.hid hy
  have HXN := Lib.hid hx.1
  have HYN := Lib.hid hy.1
  clear hx hy
  by_cases hne : n = m
  · subst hne
    go_enter Tryz.func71, Tryz.ntmps71
    go_wp2_with fail
    go_loopw [5] (fun i wr => ∃ k : Nat, k ≤ n ∧ i = .int .i64 k ∧ (∀ (j : Nat) (x : Int), j < k → xs[j]? = some x → ys[j]? = some x) ∧ Kept w wr) (fun i _ => n - (intOf i).toNat)
    case atStart => exact ⟨0, by omega, by first | rfl | go_num, fun j x hj => by omega, Kept.refl _⟩
    case round =>
      obtain ⟨k, hk, rfl, ho, hkr⟩ := hrel
      have Ho := Lib.hid ho
      have HKR := Lib.hid hkr
      clear ho hkr
      by_cases hlt : k < n
      · obtain ⟨x, hx⟩ : ∃ x, xs[k]? = some x := ⟨_, List.getElem?_eq_getElem (by rw [HXN.out]; exact hlt)⟩
        obtain ⟨y, hy⟩ : ∃ y, ys[k]? = some y := ⟨_, List.getElem?_eq_getElem (by rw [HYN.out]; exact hlt)⟩
        obtain ⟨b, off, hA, hta⟩ := (HX.out.kept HKR.out).2.2.2 (by omega)
        obtain ⟨b2, off2, hB, htb⟩ := (HY.out.kept HKR.out).2.2.2 (by omega)
        subst hA hB
        have c0 := hta k x hx
        have c1 := htb k y hy
        have lc := cell_lt c0
        have lc1 := cell_lt c1
        have Hx := Lib.hid hx
        have Hy := Lib.hid hy
        clear hx hy hta htb
        have hi0 : (0 : Int) ≤ (k : Int) := by omega
        have hi1 : (k : Int) < (n : Int) := by omega
        by_cases he : x = y
        · subst he
          have h1 : (x != x) = false := by simp
          go_wp2_with fail
          go_quiet (fail)
          go_wp2_with fail
          go_roundw
          case rel => exact ⟨k + 1, by omega, by go_num, step_of (q := fun j z => ys[j]? = some z) Ho.out Hx.out Hy.out, by first | exact HKR.out.drewN _ | exact HKR.out.drew | exact HKR.out⟩
          case measure => simp [intOf]; omega
        · have h1 : (x != y) = true := by simpa using he
          have HV := Lib.hid (less_at HXN.out HYN.out Hx.out Hy.out Ho.out he)
          go_wp2_with fail
          go_quiet (fail)
          go_wp2_with fail
          go_quiet (fail)
          go_wp2_with fail
          go_ret
          exact ⟨ret_bool HV.out.symm, by first | exact (HKR.out.drewN _).drewN _ | exact HKR.out.drewN _ | exact HKR.out⟩
      · obtain rfl : k = n := by omega
        have HV := Lib.hid (less_end HXN.out HYN.out Ho.out)
        go_wp2_with fail
        go_ret
        exact ⟨ret_bool HV.out.symm, HKR.out⟩
  · have HV := Lib.hid (less_len HXN.out HYN.out hne)
    have h1 : ((n : Int) != (m : Int)) = true := by simp; omega
    go_enter Tryz.func71, Tryz.ntmps71
    go_wp2_with fail
    go_ret
    exact ⟨ret_bool HV.out.symm, Kept.refl _⟩
def liP (cls : List Cl) (S : Nat) (o : Int) : Bool := match cmX cls o with | some k => S.testBit k | none => false
def liL (cls : List Cl) (S : Nat) (k : Nat) : List Int := ((List.range k).filter fun i : Nat => liP cls S ((i : Int) + 1)).map fun i : Nat => (i : Int) + 1
theorem liL_succ (cls : List Cl) (S : Nat) (k : Nat) : liL cls S (k + 1) = if liP cls S ((k : Int) + 1) = true then liL cls S k ++ [(k : Int) + 1] else liL cls S k := by
  unfold liL
  rw [List.range_succ, List.filter_append, List.map_append]
  by_cases h : liP cls S ((k : Int) + 1) = true
  · simp [h]
  · simp [h]
theorem liL_len (cls : List Cl) (S : Nat) (k : Nat) : (liL cls S k).length ≤ k := by
  unfold liL
  rw [List.length_map]
  exact Nat.le_trans (List.length_filter_le _ _) (by simp)
set_option maxRecDepth 100000 in
set_option maxHeartbeats 3200000 in
theorem rlist_any (D : Option Addr) (u v : Nat) (cls : List Cl) (S : Nat) (hS : S < 9223372036854775808) (hu : u ≤ 1000) (w : World) (hcl : SlA clC 2 Cl.ok w D u v cls) :
    Calls Tryz.prog 122 #[.slice D u v, .int .i64 (S : Int)] w (OwR w (liL cls S 40)) := by
  obtain ⟨i0, hi0, hz0, hz1, hz2⟩ := info_parts info3
  have HS := Lib.hid hcl
  have HCL : RowKit.Hid (∀ (o : Int) W, Kept w W → Calls Tryz.prog 117 #[.slice D u v, .int .i64 o] W fun e w' => e = .returned (.int .i64 (cmV cls o)) ∧ w' = W) := Lib.hid (fun o W hW => claimed_any D u v cls o W (HS.out.kept hW))
  have HHS : RowKit.Hid (∀ (d : Nat) W, d ≤ 1000 → Calls Tryz.prog 178 #[.int .i64 (S : Int), .int .i64 (d : Int)] W fun e w' => e = .returned (.bool (S.testBit d)) ∧ w' = W) := Lib.hid (fun d W hd => has_any' S d hd hS W)
  have HUN : RowKit.Hid (cls.length = u) := Lib.hid hcl.1
  clear hcl
  go_enter Tryz.func122, Tryz.ntmps122
  go_wp2_with fail
  go_loopw [5, 6] (fun v i wr => ∃ k : Nat, k ≤ 40 ∧ i = .int .i64 ((k : Int) + 1) ∧ wr.ownsRow w.heap.size 3 1 v (liL cls S k).length ((liL cls S k).flatMap inC) ∧ Kept w wr) (fun _ i _ => 41 - (intOf i).toNat)
  case atStart => exact ⟨0, by omega, by first | rfl | go_num, ⟨by simp [liL], .inl ⟨rfl, by simp [liL]⟩⟩, Kept.refl _⟩
  case round =>
    obtain ⟨k, hk, rfl, ho, hkr⟩ := hrel
    have HO := Lib.hid ho
    have HKR := Lib.hid hkr
    clear ho hkr
    by_cases hlt : k < 40
    · have hk40 : ((k : Int) + 1) ≤ 40 := by omega
      have HT := Lib.hid (liL_succ cls S k)
      have hlen := liL_len cls S k
      obtain ⟨N, hN⟩ : ∃ N, (liL cls S k).length = N := ⟨_, rfl⟩
      rw [hN] at hlen
      have HN := Lib.hid hN
      have HF := Lib.hid (HCL.out ((k : Int) + 1) wr HKR.out)
      clear hN
      obtain ⟨r, hr⟩ : ∃ r, cmX cls ((k : Int) + 1) = r := ⟨_, rfl⟩
      cases r with
      | none =>
        have HV : RowKit.Hid (cmV cls ((k : Int) + 1) = -1) := Lib.hid (by unfold cmV; rw [hr])
        have HP : RowKit.Hid (liP cls S ((k : Int) + 1) = false) := Lib.hid (by unfold liP; rw [hr])
        rw [HV.out] at HF
        rw [HP.out] at HT
        clear hr
        go_wp2_with fail
        refine HF.out.mono ?_
        rintro e w2 ⟨rfl, rfl⟩
        go_wp2_with fail
        go_roundw
        case rel => exact ⟨k + 1, by omega, by go_num, by rw [HT.out]; exact HO.out, HKR.out⟩
        case measure => simp [intOf]; omega
      | some z =>
        obtain ⟨x, hx, _⟩ := cmX_get hr
        have hz : z < u := by rw [← HUN.out]; exact (List.getElem?_eq_some_iff.1 hx).1
        have HV : RowKit.Hid (cmV cls ((k : Int) + 1) = (z : Int)) := Lib.hid (by unfold cmV; rw [hr])
        obtain ⟨fb, hfb⟩ : ∃ b, S.testBit z = b := ⟨_, rfl⟩
        have HP : RowKit.Hid (liP cls S ((k : Int) + 1) = fb) := Lib.hid (by unfold liP; rw [hr]; exact hfb)
        have HH := Lib.hid (HHS.out z wr (by omega))
        rw [HV.out] at HF
        rw [HP.out] at HT
        rw [hfb] at HH
        clear hr hx hfb
        have hz0' : (0 : Int) ≤ (z : Int) := by omega
        go_wp2_with fail
        refine HF.out.mono ?_
        rintro e w2 ⟨rfl, rfl⟩
        go_wp2_with fail
        refine HH.out.mono ?_
        rintro e w2 ⟨rfl, rfl⟩
        cases fb with
        | false =>
          go_wp2_with fail
          go_roundw
          case rel => exact ⟨k + 1, by omega, by go_num, by rw [HT.out]; exact HO.out, HKR.out⟩
          case measure => simp [intOf]; omega
        | true =>
          have ho := HO.out
          rw [HN.out] at ho
          have HOA := Lib.hid ho
          have HNW := Lib.hid (news_of (W := w2) (cs := inC ((k : Int) + 1)) (t := 3) (m := w2.heap.size) rfl)
          have HA3 : RowKit.Hid (N + 1 ≤ maxLen) := Lib.hid (by unfold maxLen; omega)
          have HA4 : RowKit.Hid ((N + 1) * 8 ≤ 140737488355328) := Lib.hid (by omega)
          have HB1 : RowKit.Hid (w.heap.size ≤ (w2.alloc (.cells #[.int .i64 ((k : Int) + 1)] 3)).heap.size) := Lib.hid (by have := HKR.out.size; simp; omega)
          clear ho
          go_wp2_with (at_builtin; refine wpList_append_lies _ rfl (.tmp 22) (.tmp 24) 43 rfl w.heap.size 3 i0 _ 1 8 Tryz.underlying43 hi0 hz0 hz1 hz2 rfl (by decide) _ N _ rfl (own_kept HOA.out ((Kept.refl _).alloc _)) ⟨w2.heap.size, 0, none⟩ 1 1 (inC ((k : Int) + 1)) rfl rfl HNW.out (fun u hu => by simp [inC] at hu; subst hu; rfl) (by decide) HA3.out HA4.out HB1.out _ rfl ?_; intro g cap w6 hown6 hgrow6 hat6 hlt6)
          have HO6 := Lib.hid hown6
          have HK6 := Lib.hid ((HKR.out.alloc _).grown hgrow6 (fun r hr => (HOA.out.lt r hr).1))
          clear hown6 hgrow6 hat6 hlt6
          go_roundw
          case rel => exact ⟨k + 1, by omega, by go_num, by rw [HT.out, if_pos trivial, List.length_append, HN.out, List.flatMap_append, List.flatMap_singleton]; exact HO6.out, HK6.out⟩
          case measure => simp [intOf]; omega
    · obtain rfl : k = 40 := by omega
      obtain ⟨A5, c5, rfl, hia⟩ := own_ia HO.out rfl (Nat.le_trans (liL_len cls S 40) (by omega))
      have HIA := Lib.hid hia
      clear hia
      go_wp2_with fail
      go_ret
      exact ⟨A5, _, c5, rfl, HIA.out, HKR.out⟩
end Go.Proofs.YtologmoanaccpaaGreatDoor

namespace Go.Proofs.YtologmoanaccpaaGreatDoor
set_option linter.all false
open Go.RowKit Go.Shelf

def nsK (cls : List Cl) (S : Nat) : Nat → Int
  | 0 => 0
  | k + 1 => nsK cls S k + (match cls[k]? with | some c => if S.testBit k = true then c.num else 0 | none => 0)
theorem nsK_le {cls : List Cl} {S : Nat} (h : ∀ c ∈ cls, 0 ≤ c.num ∧ c.num ≤ 60) : ∀ k, 0 ≤ nsK cls S k ∧ nsK cls S k ≤ 60 * k
  | 0 => by simp [nsK]
  | k + 1 => by
    have ih := nsK_le h (S := S) k
    unfold nsK
    cases hc : cls[k]? with
    | none => simp only; omega
    | some c =>
      have := h c (List.mem_of_getElem? hc)
      simp only
      split <;> omega
def beB (ms : List Mk) (fs : List Fd) (day : Int) (cls : List Cl) (S : Nat) (s : Sg) : Nat → Bool
  | 0 => false
  | k + 1 => beB ms fs day cls S s k || (S.testBit k && (match cls[k]? with | some c => fitR ms fs day s c.own | none => false))
def cnK (ms : List Mk) (fs : List Fd) (day : Int) (found : List Sg) (cls : List Cl) (S : Nat) : Nat → Nat
  | 0 => 0
  | k + 1 => cnK ms fs day found cls S k + (match found[k]? with | some s => if beB ms fs day cls S s cls.length = true then 1 else 0 | none => 0)
theorem cnK_le (ms : List Mk) (fs : List Fd) (day : Int) (found : List Sg) (cls : List Cl) (S : Nat) : ∀ k, cnK ms fs day found cls S k ≤ k
  | 0 => Nat.le_refl _
  | k + 1 => by
    have ih := cnK_le ms fs day found cls S k
    unfold cnK
    split
    · split <;> omega
    · omega
def shR (ms : List Mk) (fs : List Fd) (day : Int) (found : List Sg) (cls : List Cl) (S : Nat) : Bool := decide (0 < nsK cls S cls.length - (cnK ms fs day found cls S found.length : Int))
set_option maxRecDepth 100000 in
set_option maxHeartbeats 12800000 in
theorem rshort_any (A B : Option Addr) (n c m d : Nat) (ms : List Mk) (fs : List Fd) (day : Int) (C : Option Addr) (p q : Nat) (found : List Sg) (D : Option Addr) (u v : Nat) (cls : List Cl) (S : Nat) (hS : S < 9223372036854775808) (hu : u ≤ 10) (hp : p ≤ 60) (hn : ∀ c ∈ cls, 0 ≤ c.num ∧ c.num ≤ 60) (w : World) (hs : SmA w A n c ms B m d fs) (hfo : SlA sgV 6 Sg.ok w C p q found) (hcl : SlA clC 2 Cl.ok w D u v cls) :
    Calls Tryz.prog 123 #[.agg #[.slice A n c, .slice B m d], .int .i64 day, .slice C p q, .slice D u v, .int .i64 (S : Int)] w fun e w' => e = .returned (.bool (shR ms fs day found cls S)) ∧ Kept w w' := by
  obtain ⟨W0, hW0⟩ : ∃ W0, W0 = w.alloc (.cells #[.slice A n c, .slice B m d] 25) := ⟨_, rfl⟩
  have K0 : RowKit.Hid (Kept w W0) := Lib.hid (by rw [hW0]; exact (Kept.refl _).alloc _)
  have R0 : RowKit.Hid (RowC W0 w.heap.size [.slice A n c, .slice B m d]) := Lib.hid (by rw [hW0]; exact RowC.new w [.slice A n c, .slice B m d] 25)
  have HW := Lib.hid hW0
  have HS := Lib.hid (hs.kept K0.out)
  have HFO := Lib.hid (hfo.kept K0.out)
  have HCL := Lib.hid (hcl.kept K0.out)
  have HFN := Lib.hid hfo.1
  have HCN := Lib.hid hcl.1
  have HNL := Lib.hid (nsK_le hn (S := S))
  have HNM := Lib.hid hn
  have HHS : RowKit.Hid (∀ (d : Nat) W, d ≤ 1000 → Calls Tryz.prog 178 #[.int .i64 (S : Int), .int .i64 (d : Int)] W fun e w' => e = .returned (.bool (S.testBit d)) ∧ w' = W) := Lib.hid (fun d W hd => has_any' S d hd hS W)
  have HFT : RowKit.Hid (∀ (s : Sg) (o : Int) W, Kept W0 W → Calls Tryz.prog 94 #[.agg #[.slice A n c, .slice B m d], .int .i64 day, .agg #[.int .u8 s.s0, .int .u8 s.s1, .int .u8 s.s2, .int .u8 s.s3, .int .u8 s.s4, .int .u8 s.s5], .int .i64 o] W fun e w' => e = .returned (.bool (fitR ms fs day s o)) ∧ Kept W w') := Lib.hid (fun s o W hW => rfits_any A B n c m d ms fs day o s W (HS.out.kept hW))
  have hpc := hfo.2.1
  have hpm := hfo.2.2.1
  have huc := hcl.2.1
  have hum := hcl.2.2.1
  have a0 := (R0.out 0 _ rfl).1
  have a1 := (R0.out 1 _ rfl).1
  have la := cell_lt a0
  clear hW0 hs hfo hcl hn
  go_enter Tryz.func123, Tryz.ntmps123
  go_upto_region 1 with (fail)
  rw [← HW.out]
  clear a0 a1 la
  go_wp2_with fail
  go_loopw [11, 12] (fun s i wr => ∃ (k : Nat) (z : Int), k ≤ u ∧ i = .int .i64 k ∧ s = .int .i64 z ∧ z = nsK cls S k ∧ Kept W0 wr) (fun _ i _ => u - (intOf i).toNat)
  case atStart => exact ⟨0, 0, by omega, by first | rfl | go_num, by first | rfl | go_num, rfl, Kept.refl _⟩
  case round =>
    obtain ⟨k, z, hk, rfl, rfl, hz, hkr⟩ := hrel
    have hz1 := HNL.out k
    rw [← hz] at hz1
    obtain ⟨hz1, hz2⟩ := hz1
    have HZ := Lib.hid hz
    have HKR := Lib.hid hkr
    clear hz hkr
    by_cases hlt : k < u
    · obtain ⟨y, hy⟩ : ∃ y, cls[k]? = some y := ⟨_, List.getElem?_eq_getElem (by rw [HCN.out]; exact hlt)⟩
      obtain ⟨b, off, hD, ht⟩ := (HCL.out.kept HKR.out).2.2.2.2 (by omega)
      subst hD
      have c1 := ht k y hy 1 _ rfl
      have lc := cell_lt c1
      have hyn := HNM.out y (List.mem_of_getElem? hy)
      obtain ⟨hy1, hy2⟩ := hyn
      have hi0 : (0 : Int) ≤ (k : Int) := by omega
      have hi1 : (k : Int) < (u : Int) := by omega
      obtain ⟨bb, hbb⟩ : ∃ b, S.testBit k = b := ⟨_, rfl⟩
      have HH := Lib.hid (HHS.out k wr (by omega))
      rw [hbb] at HH
      have HNX : RowKit.Hid (nsK cls S (k + 1) = z + if bb = true then y.num else 0) := Lib.hid (by
        conv => lhs; unfold nsK
        rw [← HZ.out, hy, hbb])
      clear hbb hy ht
      go_wp2_with fail
      refine HH.out.mono ?_
      rintro e w1 ⟨rfl, rfl⟩
      cases bb with
      | false =>
        go_wp2_with fail
        go_roundw
        case rel => exact ⟨k + 1, z, by omega, by go_num, rfl, by rw [HNX.out]; simp, HKR.out⟩
        case measure => simp [intOf]; omega
      | true =>
        go_wp2_with fail
        go_roundw
        case rel => exact ⟨k + 1, z + y.num, by omega, by go_num, by first | rfl | go_num, by rw [HNX.out]; simp, HKR.out⟩
        case measure => simp [intOf]; omega
    · obtain rfl : k = u := by omega
      have HZN : RowKit.Hid (shR ms fs day found cls S = decide (0 < z - (cnK ms fs day found cls S p : Int))) := Lib.hid (by unfold shR; rw [HCN.out, HFN.out, HZ.out])
      obtain ⟨Wk, hWk⟩ : ∃ Wk, Wk = wr := ⟨_, rfl⟩
      rw [← hWk] at HKR ⊢
      clear hWk
      go_wp2_with fail
      go_loopw [11, 13] (fun s i wr => ∃ (i' x : Nat), i' ≤ p ∧ i = .int .i64 i' ∧ s = .int .i64 (z - x) ∧ x ≤ i' ∧ x = cnK ms fs day found cls S i' ∧ Kept W0 wr) (fun _ i _ => p - (intOf i).toNat)
      case atStart => exact ⟨0, 0, by omega, by first | rfl | go_num, by simp, by omega, rfl, HKR.out⟩
      case round =>
        obtain ⟨i, x, hi, rfl, rfl, hxi, hx, hkr⟩ := hrel
        have HX := Lib.hid hx
        have HKI := Lib.hid hkr
        clear hx hkr
        by_cases hlt2 : i < p
        · obtain ⟨s, hs⟩ : ∃ s, found[i]? = some s := ⟨_, List.getElem?_eq_getElem (by rw [HFN.out]; exact hlt2)⟩
          obtain ⟨fb, fo, hC, ht⟩ := HFO.out.2.2.2.2 (by omega)
          subst hC
          have HSC : RowKit.Hid (∀ (j : Nat) (v : Value), (sgV s)[j]? = some v → W0.cell? ⟨fb, fo + i * 6 + j, none⟩ = some v) := Lib.hid (fun j v hv => ht i s hs j v hv)
          have HXN : RowKit.Hid (cnK ms fs day found cls S (i + 1) = x + if beB ms fs day cls S s k = true then 1 else 0) := Lib.hid (by
            conv => lhs; unfold cnK
            rw [← HX.out, hs, HCN.out])
          clear ht hs
          have hi0 : (0 : Int) ≤ (i : Int) := by omega
          have hi1 : (i : Int) < (p : Int) := by omega
          obtain ⟨Wk, hWk⟩ : ∃ Wk, Wk = wr := ⟨_, rfl⟩
          rw [← hWk] at HKI ⊢
          clear hWk
          go_wp2_with fail
          go_loopw [14, 15] (fun f j wr => ∃ (j' : Nat) (g : Bool), j' ≤ k ∧ j = .int .i64 j' ∧ f = .bool g ∧ g = beB ms fs day cls S s j' ∧ Kept W0 wr) (fun _ j _ => k - (intOf j).toNat)
          case atStart => exact ⟨0, false, by omega, by first | rfl | go_num, rfl, rfl, HKI.out⟩
          case round =>
            obtain ⟨j, g, hj, rfl, rfl, hg, hkr⟩ := hrel
            have HG := Lib.hid hg
            have HKJ := Lib.hid hkr
            clear hg hkr
            by_cases hlt3 : j < k
            · obtain ⟨y, hy⟩ : ∃ y, cls[j]? = some y := ⟨_, List.getElem?_eq_getElem (by rw [HCN.out]; exact hlt3)⟩
              obtain ⟨cb, co, hD, ht⟩ := HCL.out.2.2.2.2 (by omega)
              subst hD
              have hct : W0.cell? ⟨cb, co + j * 2, none⟩ = some (.int .i64 y.own) := by
                have := ht j y hy 0 _ rfl
                rwa [Nat.add_zero] at this
              have HCT := Lib.hid hct
              obtain ⟨hb, hhb⟩ : ∃ b, S.testBit j = b := ⟨_, rfl⟩
              obtain ⟨tb, htb⟩ : ∃ b, fitR ms fs day s y.own = b := ⟨_, rfl⟩
              have HH : RowKit.Hid (∀ W, Calls Tryz.prog 178 #[.int .i64 (S : Int), .int .i64 (j : Int)] W fun e w' => e = .returned (.bool hb) ∧ w' = W) := Lib.hid (fun W => by rw [← hhb]; exact HHS.out j W (by omega))
              have HT : RowKit.Hid (∀ W, Kept wr W → Calls Tryz.prog 94 #[.agg #[.slice A n c, .slice B m d], .int .i64 day, .agg #[.int .u8 s.s0, .int .u8 s.s1, .int .u8 s.s2, .int .u8 s.s3, .int .u8 s.s4, .int .u8 s.s5], .int .i64 y.own] W fun e w' => e = .returned (.bool tb) ∧ Kept W w') := Lib.hid (fun W hW => by rw [← htb]; exact HFT.out s y.own W (HKJ.out.trans hW))
              have HGN : RowKit.Hid (beB ms fs day cls S s (j + 1) = (g || (hb && tb))) := Lib.hid (by
                conv => lhs; unfold beB
                rw [← HG.out, hy, hhb, ← htb])
              clear hhb htb hct ht hy
              have hj0 : (0 : Int) ≤ (j : Int) := by omega
              have hj1 : (j : Int) < (k : Int) := by omega
              go_upto_region 14 with (fail)
              have SC : RowKit.Hid (∀ W, Kept wr W → W.cell? ⟨w.heap.size, 0, none⟩ = some (.slice A n c) ∧ W.cell? ⟨w.heap.size, 1, none⟩ = some (.slice B m d) ∧ W.cell? ⟨cb, co + j * 2, none⟩ = some (.int .i64 y.own) ∧ W.cell? ⟨fb, fo + i * 6, none⟩ = some (.int .u8 s.s0) ∧ W.cell? ⟨fb, fo + i * 6 + 1, none⟩ = some (.int .u8 s.s1) ∧ W.cell? ⟨fb, fo + i * 6 + 2, none⟩ = some (.int .u8 s.s2) ∧ W.cell? ⟨fb, fo + i * 6 + 3, none⟩ = some (.int .u8 s.s3) ∧ W.cell? ⟨fb, fo + i * 6 + 4, none⟩ = some (.int .u8 s.s4) ∧ W.cell? ⟨fb, fo + i * 6 + 5, none⟩ = some (.int .u8 s.s5) ∧ Kept wr W) := Lib.hid (fun W hW => by
                have hK := HKJ.out.trans hW
                refine ⟨(R0.out.kept hK 0 _ rfl).1, (R0.out.kept hK 1 _ rfl).1, (hK.cells _ _ (cell_lt HCT.out)).trans HCT.out, ?c0, ?c1, ?c2, ?c3, ?c4, ?c5, hW⟩
                case c0 =>
                  have := HSC.out 0 _ rfl
                  exact (hK.cells _ _ (cell_lt this)).trans this
                case c1 =>
                  have := HSC.out 1 _ rfl
                  exact (hK.cells _ _ (cell_lt this)).trans this
                case c2 =>
                  have := HSC.out 2 _ rfl
                  exact (hK.cells _ _ (cell_lt this)).trans this
                case c3 =>
                  have := HSC.out 3 _ rfl
                  exact (hK.cells _ _ (cell_lt this)).trans this
                case c4 =>
                  have := HSC.out 4 _ rfl
                  exact (hK.cells _ _ (cell_lt this)).trans this
                case c5 =>
                  have := HSC.out 5 _ rfl
                  exact (hK.cells _ _ (cell_lt this)).trans this
                )
              have q0 := (SC.out _ (Kept.refl _)).1
              have lq := cell_lt q0
              have q1 := (SC.out _ (Kept.refl _)).2.2.1
              have lq1 := cell_lt q1
              have q2 := (SC.out _ (Kept.refl _)).2.2.2.1
              have lq2 := cell_lt q2
              clear q0 q1 q2
              have kd := (Kept.refl wr).drew
              cases g with
              | true =>
                refine wp_region_held_drew (S := fun W => W.cell? ⟨w.heap.size, 0, none⟩ = some (.slice A n c) ∧ W.cell? ⟨w.heap.size, 1, none⟩ = some (.slice B m d) ∧ W.cell? ⟨cb, co + j * 2, none⟩ = some (.int .i64 y.own) ∧ W.cell? ⟨fb, fo + i * 6, none⟩ = some (.int .u8 s.s0) ∧ W.cell? ⟨fb, fo + i * 6 + 1, none⟩ = some (.int .u8 s.s1) ∧ W.cell? ⟨fb, fo + i * 6 + 2, none⟩ = some (.int .u8 s.s2) ∧ W.cell? ⟨fb, fo + i * 6 + 3, none⟩ = some (.int .u8 s.s3) ∧ W.cell? ⟨fb, fo + i * 6 + 4, none⟩ = some (.int .u8 s.s4) ∧ W.cell? ⟨fb, fo + i * 6 + 5, none⟩ = some (.int .u8 s.s5) ∧ Kept wr W) (by kernel_rfl) (SC.out _ kd) (fun hHeld => ?_)
                refine take_at (i := 0) (d := some 44) (v := ?_) rfl rfl (by kernel_rfl) (by kernel_rfl) (by kernel_rfl) (fun _ _ _ h => h) (Or.inl ⟨by rfl, ?_⟩) hHeld ?_
                rotate_left
                · intro w hSw
                  try dsimp only at hSw
                  go_simp
                  try (with_reducible rfl)
                try simp only [Act.put, List.setIfInBounds_toArray, List.set_cons_zero, List.set_cons_succ]
                refine take_at (i := 1) (d := some 45) (v := ?_) rfl rfl (by kernel_rfl) (by kernel_rfl) (by kernel_rfl) (fun _ _ _ h => h) (Or.inl ⟨by rfl, ?_⟩) hHeld ?_
                rotate_left
                · intro w hSw
                  try dsimp only at hSw
                  go_simp
                  try (with_reducible rfl)
                try simp only [Act.put, List.setIfInBounds_toArray, List.set_cons_zero, List.set_cons_succ]
                refine take_at (i := 2) (d := some 46) (v := undef) rfl rfl (by kernel_rfl) (by kernel_rfl) (by kernel_rfl) (fun _ _ _ h => h) (Or.inr ⟨by rfl, rfl⟩) hHeld ?_
                try simp only [Act.put, List.setIfInBounds_toArray, List.set_cons_zero, List.set_cons_succ]
                refine take_at (i := 3) (d := some 47) (v := undef) rfl rfl (by kernel_rfl) (by kernel_rfl) (by kernel_rfl) (fun _ _ _ h => h) (Or.inr ⟨by rfl, rfl⟩) hHeld ?_
                try simp only [Act.put, List.setIfInBounds_toArray, List.set_cons_zero, List.set_cons_succ]
                refine take_at (i := 4) (d := some 48) (v := undef) rfl rfl (by kernel_rfl) (by kernel_rfl) (by kernel_rfl) (fun _ _ _ h => h) (Or.inr ⟨by rfl, rfl⟩) hHeld ?_
                try simp only [Act.put, List.setIfInBounds_toArray, List.set_cons_zero, List.set_cons_succ]
                refine take_at (i := 5) (d := some 49) (v := undef) rfl rfl (by kernel_rfl) (by kernel_rfl) (by kernel_rfl) (fun _ _ _ h => h) (Or.inr ⟨by rfl, rfl⟩) hHeld ?_
                try simp only [Act.put, List.setIfInBounds_toArray, List.set_cons_zero, List.set_cons_succ]
                refine take_at (i := 6) (d := some 50) (v := undef) rfl rfl (by kernel_rfl) (by kernel_rfl) (by kernel_rfl) (fun _ _ _ h => h) (Or.inr ⟨by rfl, rfl⟩) hHeld ?_
                try simp only [Act.put, List.setIfInBounds_toArray, List.set_cons_zero, List.set_cons_succ]
                refine take_at (i := 7) (d := some 51) (v := undef) rfl rfl (by kernel_rfl) (by kernel_rfl) (by kernel_rfl) (fun _ _ _ h => h) (Or.inr ⟨by rfl, rfl⟩) hHeld ?_
                try simp only [Act.put, List.setIfInBounds_toArray, List.set_cons_zero, List.set_cons_succ]
                refine take_at (i := 8) (d := some 52) (v := undef) rfl rfl (by kernel_rfl) (by kernel_rfl) (by kernel_rfl) (fun _ _ _ h => h) (Or.inr ⟨by rfl, rfl⟩) hHeld ?_
                try simp only [Act.put, List.setIfInBounds_toArray, List.set_cons_zero, List.set_cons_succ]
                refine take_at (i := 9) (d := some 53) (v := undef) rfl rfl (by kernel_rfl) (by kernel_rfl) (by kernel_rfl) (fun _ _ _ h => h) (Or.inr ⟨by rfl, rfl⟩) hHeld ?_
                try simp only [Act.put, List.setIfInBounds_toArray, List.set_cons_zero, List.set_cons_succ]
                refine take_at (i := 10) (d := some 54) (v := undef) rfl rfl (by kernel_rfl) (by kernel_rfl) (by kernel_rfl) (fun _ _ _ h => h) (Or.inr ⟨by rfl, rfl⟩) hHeld ?_
                try simp only [Act.put, List.setIfInBounds_toArray, List.set_cons_zero, List.set_cons_succ]
                refine take_at (i := 11) (d := some 55) (v := undef) rfl rfl (by kernel_rfl) (by kernel_rfl) (by kernel_rfl) (fun _ _ _ h => h) (Or.inr ⟨by rfl, rfl⟩) hHeld ?_
                try simp only [Act.put, List.setIfInBounds_toArray, List.set_cons_zero, List.set_cons_succ]
                refine take_at (i := 12) (d := some 56) (v := undef) rfl rfl (by kernel_rfl) (by kernel_rfl) (by kernel_rfl) (fun _ _ _ h => h) (Or.inr ⟨by rfl, rfl⟩) hHeld ?_
                try simp only [Act.put, List.setIfInBounds_toArray, List.set_cons_zero, List.set_cons_succ]
                refine take_at (i := 13) (d := some 57) (v := undef) rfl rfl (by kernel_rfl) (by kernel_rfl) (by kernel_rfl) (fun _ _ _ h => h) (Or.inr ⟨by rfl, rfl⟩) hHeld ?_
                try simp only [Act.put, List.setIfInBounds_toArray, List.set_cons_zero, List.set_cons_succ]
                refine take_at (i := 14) (d := some 58) (v := undef) rfl rfl (by kernel_rfl) (by kernel_rfl) (by kernel_rfl) (fun _ _ _ h => h) (Or.inr ⟨by rfl, rfl⟩) hHeld ?_
                try simp only [Act.put, List.setIfInBounds_toArray, List.set_cons_zero, List.set_cons_succ]
                refine take_at (i := 15) (d := some 59) (v := undef) rfl rfl (by kernel_rfl) (by kernel_rfl) (by kernel_rfl) (fun _ _ _ h => h) (Or.inr ⟨by rfl, rfl⟩) hHeld ?_
                try simp only [Act.put, List.setIfInBounds_toArray, List.set_cons_zero, List.set_cons_succ]
                refine take_at (i := 16) (d := some 60) (v := undef) rfl rfl (by kernel_rfl) (by kernel_rfl) (by kernel_rfl) (fun _ _ _ h => h) (Or.inr ⟨by rfl, rfl⟩) hHeld ?_
                try simp only [Act.put, List.setIfInBounds_toArray, List.set_cons_zero, List.set_cons_succ]
                refine take_at (i := 17) (d := some 61) (v := undef) rfl rfl (by kernel_rfl) (by kernel_rfl) (by kernel_rfl) (fun _ _ _ h => h) (Or.inr ⟨by rfl, rfl⟩) hHeld ?_
                try simp only [Act.put, List.setIfInBounds_toArray, List.set_cons_zero, List.set_cons_succ]
                refine take_at (i := 18) (d := some 62) (v := undef) rfl rfl (by kernel_rfl) (by kernel_rfl) (by kernel_rfl) (fun _ _ _ h => h) (Or.inr ⟨by rfl, rfl⟩) hHeld ?_
                try simp only [Act.put, List.setIfInBounds_toArray, List.set_cons_zero, List.set_cons_succ]
                refine take_at (i := 19) (d := some 63) (v := ?_) rfl rfl (by kernel_rfl) (by kernel_rfl) (by kernel_rfl) (fun _ _ _ h => h) (Or.inl ⟨by rfl, ?_⟩) hHeld ?_
                rotate_left
                · intro w hSw
                  try dsimp only at hSw
                  go_simp
                  try (with_reducible rfl)
                try simp only [Act.put, List.setIfInBounds_toArray, List.set_cons_zero, List.set_cons_succ]
                refine take_at (i := 20) (d := some 14) (v := ?_) rfl rfl (by kernel_rfl) (by kernel_rfl) (by kernel_rfl) (fun _ _ _ h => h) (Or.inl ⟨by rfl, ?_⟩) hHeld ?_
                rotate_left
                · intro w hSw
                  try dsimp only at hSw
                  go_simp
                  try (with_reducible rfl)
                try simp only [Act.put, List.setIfInBounds_toArray, List.set_cons_zero, List.set_cons_succ]
                refine wpAnyH_done (by kernel_rfl) ?_ _
                go_wp2
                go_roundw
                case rel => exact ⟨j + 1, true, by omega, by go_num, rfl, by rw [HGN.out]; rfl, HKJ.out.trans kd⟩
                case measure => simp [intOf]; omega
              | false =>
                cases hb with
                | false =>
                  refine wp_region_held_drew (S := fun W => W.cell? ⟨w.heap.size, 0, none⟩ = some (.slice A n c) ∧ W.cell? ⟨w.heap.size, 1, none⟩ = some (.slice B m d) ∧ W.cell? ⟨cb, co + j * 2, none⟩ = some (.int .i64 y.own) ∧ W.cell? ⟨fb, fo + i * 6, none⟩ = some (.int .u8 s.s0) ∧ W.cell? ⟨fb, fo + i * 6 + 1, none⟩ = some (.int .u8 s.s1) ∧ W.cell? ⟨fb, fo + i * 6 + 2, none⟩ = some (.int .u8 s.s2) ∧ W.cell? ⟨fb, fo + i * 6 + 3, none⟩ = some (.int .u8 s.s3) ∧ W.cell? ⟨fb, fo + i * 6 + 4, none⟩ = some (.int .u8 s.s4) ∧ W.cell? ⟨fb, fo + i * 6 + 5, none⟩ = some (.int .u8 s.s5) ∧ Kept wr W) (by kernel_rfl) (SC.out _ kd) (fun hHeld => ?_)
                  refine take_at (i := 0) (d := some 44) (v := ?_) rfl rfl (by kernel_rfl) (by kernel_rfl) (by kernel_rfl) (fun _ _ _ h => h) (Or.inl ⟨by rfl, ?_⟩) hHeld ?_
                  rotate_left
                  · intro w hSw
                    try dsimp only at hSw
                    go_simp
                    try (with_reducible rfl)
                  try simp only [Act.put, List.setIfInBounds_toArray, List.set_cons_zero, List.set_cons_succ]
                  refine take_at (i := 1) (d := some 45) (v := ?_) rfl rfl (by kernel_rfl) (by kernel_rfl) (by kernel_rfl) (fun _ _ _ h => h) (Or.inl ⟨by rfl, ?_⟩) hHeld ?_
                  rotate_left
                  · intro w hSw
                    try dsimp only at hSw
                    go_simp
                    try (with_reducible rfl)
                  try simp only [Act.put, List.setIfInBounds_toArray, List.set_cons_zero, List.set_cons_succ]
                  refine take_at (i := 2) (d := some 46) (v := ?_) rfl rfl (by kernel_rfl) (by kernel_rfl) (by kernel_rfl) (fun _ _ _ h => h) (Or.inl ⟨by rfl, ?_⟩) hHeld ?_
                  rotate_left
                  · intro w hSw
                    try dsimp only at hSw
                    go_simp
                    try (with_reducible rfl)
                  try simp only [Act.put, List.setIfInBounds_toArray, List.set_cons_zero, List.set_cons_succ]
                  refine take_at (i := 3) (d := some 47) (v := ?_) rfl rfl (by kernel_rfl) (by kernel_rfl) (by kernel_rfl) (fun _ _ _ h => h) (Or.inl ⟨by rfl, ?_⟩) hHeld ?_
                  rotate_left
                  · intro w hSw
                    try dsimp only at hSw
                    go_simp
                    try (with_reducible rfl)
                  try simp only [Act.put, List.setIfInBounds_toArray, List.set_cons_zero, List.set_cons_succ]
                  refine wpAnyH_ready (rs := [4]) (by kernel_rfl) (by simp) ?_
                  refine AllReadyH.cons rfl (fun K hK => ?_) AllReadyH.nil
                  rw [if_pos (by rfl)]
                  go_simp
                  refine (HH.out _).mono ?_
                  rintro e w9 ⟨rfl, rfl⟩
                  go_wp2_with fail
                  refine hK.out _ _ (SC.out _ kd) (fun hHeld => ?_)
                  clear hK K
                  try simp only [Act.put, List.setIfInBounds_toArray, List.set_cons_zero, List.set_cons_succ]
                  refine take_at (i := 5) (d := some 49) (v := ?_) rfl rfl (by kernel_rfl) (by kernel_rfl) (by kernel_rfl) (fun _ _ _ h => h) (Or.inl ⟨by rfl, ?_⟩) hHeld ?_
                  rotate_left
                  · intro w hSw
                    try dsimp only at hSw
                    go_simp
                    try (with_reducible rfl)
                  try simp only [Act.put, List.setIfInBounds_toArray, List.set_cons_zero, List.set_cons_succ]
                  refine take_at (i := 6) (d := some 50) (v := undef) rfl rfl (by kernel_rfl) (by kernel_rfl) (by kernel_rfl) (fun _ _ _ h => h) (Or.inr ⟨by rfl, rfl⟩) hHeld ?_
                  try simp only [Act.put, List.setIfInBounds_toArray, List.set_cons_zero, List.set_cons_succ]
                  refine take_at (i := 7) (d := some 51) (v := undef) rfl rfl (by kernel_rfl) (by kernel_rfl) (by kernel_rfl) (fun _ _ _ h => h) (Or.inr ⟨by rfl, rfl⟩) hHeld ?_
                  try simp only [Act.put, List.setIfInBounds_toArray, List.set_cons_zero, List.set_cons_succ]
                  refine take_at (i := 8) (d := some 52) (v := undef) rfl rfl (by kernel_rfl) (by kernel_rfl) (by kernel_rfl) (fun _ _ _ h => h) (Or.inr ⟨by rfl, rfl⟩) hHeld ?_
                  try simp only [Act.put, List.setIfInBounds_toArray, List.set_cons_zero, List.set_cons_succ]
                  refine take_at (i := 9) (d := some 53) (v := undef) rfl rfl (by kernel_rfl) (by kernel_rfl) (by kernel_rfl) (fun _ _ _ h => h) (Or.inr ⟨by rfl, rfl⟩) hHeld ?_
                  try simp only [Act.put, List.setIfInBounds_toArray, List.set_cons_zero, List.set_cons_succ]
                  refine take_at (i := 10) (d := some 54) (v := undef) rfl rfl (by kernel_rfl) (by kernel_rfl) (by kernel_rfl) (fun _ _ _ h => h) (Or.inr ⟨by rfl, rfl⟩) hHeld ?_
                  try simp only [Act.put, List.setIfInBounds_toArray, List.set_cons_zero, List.set_cons_succ]
                  refine take_at (i := 11) (d := some 55) (v := undef) rfl rfl (by kernel_rfl) (by kernel_rfl) (by kernel_rfl) (fun _ _ _ h => h) (Or.inr ⟨by rfl, rfl⟩) hHeld ?_
                  try simp only [Act.put, List.setIfInBounds_toArray, List.set_cons_zero, List.set_cons_succ]
                  refine take_at (i := 12) (d := some 56) (v := undef) rfl rfl (by kernel_rfl) (by kernel_rfl) (by kernel_rfl) (fun _ _ _ h => h) (Or.inr ⟨by rfl, rfl⟩) hHeld ?_
                  try simp only [Act.put, List.setIfInBounds_toArray, List.set_cons_zero, List.set_cons_succ]
                  refine take_at (i := 13) (d := some 57) (v := undef) rfl rfl (by kernel_rfl) (by kernel_rfl) (by kernel_rfl) (fun _ _ _ h => h) (Or.inr ⟨by rfl, rfl⟩) hHeld ?_
                  try simp only [Act.put, List.setIfInBounds_toArray, List.set_cons_zero, List.set_cons_succ]
                  refine take_at (i := 14) (d := some 58) (v := undef) rfl rfl (by kernel_rfl) (by kernel_rfl) (by kernel_rfl) (fun _ _ _ h => h) (Or.inr ⟨by rfl, rfl⟩) hHeld ?_
                  try simp only [Act.put, List.setIfInBounds_toArray, List.set_cons_zero, List.set_cons_succ]
                  refine take_at (i := 15) (d := some 59) (v := undef) rfl rfl (by kernel_rfl) (by kernel_rfl) (by kernel_rfl) (fun _ _ _ h => h) (Or.inr ⟨by rfl, rfl⟩) hHeld ?_
                  try simp only [Act.put, List.setIfInBounds_toArray, List.set_cons_zero, List.set_cons_succ]
                  refine take_at (i := 16) (d := some 60) (v := undef) rfl rfl (by kernel_rfl) (by kernel_rfl) (by kernel_rfl) (fun _ _ _ h => h) (Or.inr ⟨by rfl, rfl⟩) hHeld ?_
                  try simp only [Act.put, List.setIfInBounds_toArray, List.set_cons_zero, List.set_cons_succ]
                  refine take_at (i := 17) (d := some 61) (v := undef) rfl rfl (by kernel_rfl) (by kernel_rfl) (by kernel_rfl) (fun _ _ _ h => h) (Or.inr ⟨by rfl, rfl⟩) hHeld ?_
                  try simp only [Act.put, List.setIfInBounds_toArray, List.set_cons_zero, List.set_cons_succ]
                  refine take_at (i := 18) (d := some 62) (v := ?_) rfl rfl (by kernel_rfl) (by kernel_rfl) (by kernel_rfl) (fun _ _ _ h => h) (Or.inl ⟨by rfl, ?_⟩) hHeld ?_
                  rotate_left
                  · intro w hSw
                    try dsimp only at hSw
                    go_simp
                    try (with_reducible rfl)
                  try simp only [Act.put, List.setIfInBounds_toArray, List.set_cons_zero, List.set_cons_succ]
                  refine take_at (i := 19) (d := some 63) (v := ?_) rfl rfl (by kernel_rfl) (by kernel_rfl) (by kernel_rfl) (fun _ _ _ h => h) (Or.inl ⟨by rfl, ?_⟩) hHeld ?_
                  rotate_left
                  · intro w hSw
                    try dsimp only at hSw
                    go_simp
                    try (with_reducible rfl)
                  try simp only [Act.put, List.setIfInBounds_toArray, List.set_cons_zero, List.set_cons_succ]
                  refine take_at (i := 20) (d := some 14) (v := ?_) rfl rfl (by kernel_rfl) (by kernel_rfl) (by kernel_rfl) (fun _ _ _ h => h) (Or.inl ⟨by rfl, ?_⟩) hHeld ?_
                  rotate_left
                  · intro w hSw
                    try dsimp only at hSw
                    go_simp
                    try (with_reducible rfl)
                  try simp only [Act.put, List.setIfInBounds_toArray, List.set_cons_zero, List.set_cons_succ]
                  refine wpAnyH_done (by kernel_rfl) ?_ _
                  go_wp2
                  go_roundw
                  case rel => exact ⟨j + 1, false, by omega, by go_num, rfl, by rw [HGN.out]; rfl, HKJ.out.trans kd⟩
                  case measure => simp [intOf]; omega
                | true =>
                    go_region_held3 (fun W => W.cell? ⟨w.heap.size, 0, none⟩ = some (.slice A n c) ∧ W.cell? ⟨w.heap.size, 1, none⟩ = some (.slice B m d) ∧ W.cell? ⟨cb, co + j * 2, none⟩ = some (.int .i64 y.own) ∧ W.cell? ⟨fb, fo + i * 6, none⟩ = some (.int .u8 s.s0) ∧ W.cell? ⟨fb, fo + i * 6 + 1, none⟩ = some (.int .u8 s.s1) ∧ W.cell? ⟨fb, fo + i * 6 + 2, none⟩ = some (.int .u8 s.s2) ∧ W.cell? ⟨fb, fo + i * 6 + 3, none⟩ = some (.int .u8 s.s3) ∧ W.cell? ⟨fb, fo + i * 6 + 4, none⟩ = some (.int .u8 s.s4) ∧ W.cell? ⟨fb, fo + i * 6 + 5, none⟩ = some (.int .u8 s.s5) ∧ Kept wr W)
                      (first
                        | (with_reducible exact SC.out _ kd)
                        | (with_reducible exact SC.out _ kk2)
                        | fail)
                      (first
                        | (go_at_call 178; refine (HH.out _).mono ?_; rintro e w9 ⟨rfl, rfl⟩)
                        | (go_at_call 94; with_reducible refine (HT.out _ kd).mono ?_; rintro e w10 ⟨rfl, hk10⟩; have kk2 : Kept wr w10 := (by with_reducible exact kd.trans hk10))
                        | fail)
                    all_goals go_wp2
                    all_goals go_roundw
                    case rel => exact ⟨j + 1, tb, by omega, by go_num, by first | rfl | simp, by rw [HGN.out]; simp, HKJ.out.trans kk2⟩
                    case measure => simp [intOf]; omega
            · obtain rfl : j = k := by omega
              rw [← HG.out] at HXN
              cases g with
              | false =>
                go_wp2_with fail
                go_roundw
                case rel => exact ⟨i + 1, x, by omega, by go_num, by first | rfl | go_num, by omega, by rw [HXN.out]; simp, HKJ.out⟩
                case measure => simp [intOf]; omega
              | true =>
                go_wp2_with fail
                go_roundw
                case rel => exact ⟨i + 1, x + 1, by omega, by go_num, by first | rfl | (push_cast; go_num) | (congr 1; push_cast; go_num), by omega, by rw [HXN.out]; simp, HKJ.out⟩
                case measure => simp [intOf]; omega
        · obtain rfl : i = p := by omega
          have HV : RowKit.Hid (shR ms fs day found cls S = decide (0 < z - (x : Int))) := Lib.hid (by rw [HZN.out, HX.out])
          go_wp2_with fail
          go_ret
          exact ⟨ret_bool (by rw [HV.out, Bool.eq_iff_iff, decide_eq_true_iff, decide_eq_true_iff]; omega), K0.out.trans HKI.out⟩
end Go.Proofs.YtologmoanaccpaaGreatDoor
