/-
  the law MarkSure
-/
import Derived.Test.YtologmoanaccpaaGreatDoorVI
import Derived.Test.YtologmoanaccpaaGreatDoorBN
import Derived.Test.YtologmoanaccpaaGreatDoorEA
import Derived.Test.YtologmoanaccpaaGreatDoorXZ
namespace Go.Proofs.YtologmoanaccpaaGreatDoor
set_option linter.all false
open Go.RowKit Go.Shelf

set_option maxRecDepth 100000 in
set_option maxHeartbeats 25600000 in
theorem markSure_any (A B C D G : Option Addr) (n c m d p q u v x y : Nat) (ms : List Mk) (fs : List Fd) (day : Int) (found : List Sg) (cls : List Cl) (ows : List Int) (w : World) (hs : SmA w A n c ms B m d fs) (hfo : SlA sgV 6 Sg.ok w C p q found) (hcl : SlA clC 2 Cl.ok w D u v cls) (how : SlA inC 1 i64 w G x y ows) (hE : EnvT w) (hM : EnvM w) :
    Calls Tryz.prog 16 #[.agg #[.slice A n c, .slice B m d], .int .i64 day, .slice C p q, .slice D u v, .slice G x y] w fun e w' => e = .returned (.bool true) ∧ Kept w w' := by
  obtain ⟨W0, hW0⟩ : ∃ W0, W0 = w.alloc (.cells #[.slice A n c, .slice B m d] 25) := ⟨_, rfl⟩
  have K0 : RowKit.Hid (Kept w W0) := Lib.hid (by rw [hW0]; exact (Kept.refl _).alloc _)
  have R0 : RowKit.Hid (RowC W0 w.heap.size [.slice A n c, .slice B m d]) := Lib.hid (by rw [hW0]; exact RowC.new w [.slice A n c, .slice B m d] 25)
  have HW := Lib.hid hW0
  have HOK := Lib.hid hs.1.2.2.2.1
  have HFD := Lib.hid hs.2.2.2.2.1
  have HSO := Lib.hid hfo.2.2.2.1
  have HFN := Lib.hid hfo.1
  have HOW := Lib.hid (how.kept K0.out)
  have hxy := how.2.1
  have hym := how.2.2.1
  have HXN := Lib.hid how.1
  have HMK : RowKit.Hid (∀ W, Kept W0 W → Calls Tryz.prog 19 #[] W fun e w' => e = .returned (.bool true) ∧ Kept W w') := Lib.hid (fun W hW => marked_any W (hE.kept (K0.out.trans hW)) (hM.kept (K0.out.trans hW)))
  have H57 : RowKit.Hid (∀ W, Kept W0 W → Calls Tryz.prog 57 #[.agg #[.slice A n c, .slice B m d], .int .i64 day, .slice C p q, .slice D u v] W (CtP W ms fs day found cls p)) := Lib.hid (fun W hW => certainAll_any A B C D n c m d p q u v ms fs day found cls W (hs.kept (K0.out.trans hW)) (hfo.kept (K0.out.trans hW)) (hcl.kept (K0.out.trans hW)) (hE.kept (K0.out.trans hW)))
  have H49 : RowKit.Hid (∀ W, Kept W0 W → Calls Tryz.prog 49 #[.agg #[.slice A n c, .slice B m d], .int .i64 day, .slice C p q, .slice D u v] W (AsP W ms fs day found cls p)) := Lib.hid (fun W hW => assign_any A B C D n c m d p q u v ms fs day found cls W (hs.kept (K0.out.trans hW)) (hfo.kept (K0.out.trans hW)) (hcl.kept (K0.out.trans hW)) (hE.kept (K0.out.trans hW)))
  have H51 : RowKit.Hid (x ≤ 30 → ∀ W, Kept W0 W → Calls Tryz.prog 51 #[.agg #[.slice A n c, .slice B m d], .int .i64 day, .slice C p q, .slice D u v, .slice G x y] W (MeP W ms fs day found cls ows)) := Lib.hid (fun hx W hW => meets_any A B C D G n c m d p q u v x y ms fs day found cls ows W (hs.kept (K0.out.trans hW)) (hfo.kept (K0.out.trans hW)) (hcl.kept (K0.out.trans hW)) (ia_of (how.kept (K0.out.trans hW)) (by omega)) (by omega) (hE.kept (K0.out.trans hW)))
  have H70 : RowKit.Hid (∀ (i : Nat) (o : Int) (s : Sg) W, Kept W0 W → chE ms fs day found cls = 0 → found[i]? = some s → (∃ ow z, MetA (fitsN ms fs day found cls) (clN cls) (wtL cls) ow ∧ ow[i]? = some z ∧ z ≠ o) → Calls Tryz.prog 70 #[.agg #[.slice A n c, .slice B m d], .int .i64 day, .slice C p q, .slice D u v, .int .i64 (i : Int), .int .i64 o] W fun e w' => e = .returned (.bool true) ∧ Kept W w') := Lib.hid (fun i o s W hW h0 h1 h2 => without_any A B C D n c m d p q u v ms fs day found cls i o s W (hs.kept (K0.out.trans hW)) (hfo.kept (K0.out.trans hW)) (hcl.kept (K0.out.trans hW)) (hE.kept (K0.out.trans hW)) h0 h1 h2)
  have hnc := hs.1.2.1
  have hcm := hs.1.2.2.1
  have hpc := hfo.2.1
  have hpm := hfo.2.2.1
  have huc := hcl.2.1
  have hum := hcl.2.2.1
  clear hW0 hs hfo hcl how hE hM
  have a0 := (R0.out 0 _ rfl).1
  have a1 := (R0.out 1 _ rfl).1
  have la := cell_lt a0
  go_enter Tryz.func16, Tryz.ntmps16
  go_upto_region 1 with (fail)
  rw [← HW.out]
  by_cases hn40 : 40 < n
  · go_wp2_with fail
    refine (HMK.out _ (Kept.refl _)).mono ?_
    rintro e w2 ⟨rfl, hk2⟩
    have K2 := Lib.hid (K0.out.trans hk2)
    clear hk2
    go_wp2_with fail
    go_ret
    exact ⟨rfl, K2.out⟩
  by_cases hp20 : 20 < p
  · go_wp2_with fail
    refine (HMK.out _ (Kept.refl _)).mono ?_
    rintro e w2 ⟨rfl, hk2⟩
    have K2 := Lib.hid (K0.out.trans hk2)
    clear hk2
    go_wp2_with fail
    go_ret
    exact ⟨rfl, K2.out⟩
  by_cases hu8 : 8 < u
  · go_wp2_with fail
    refine (HMK.out _ (Kept.refl _)).mono ?_
    rintro e w2 ⟨rfl, hk2⟩
    have K2 := Lib.hid (K0.out.trans hk2)
    clear hk2
    go_wp2_with fail
    go_ret
    exact ⟨rfl, K2.out⟩
  by_cases hx30 : 30 < x
  · go_wp2_with fail
    refine (HMK.out _ (Kept.refl _)).mono ?_
    rintro e w2 ⟨rfl, hk2⟩
    have K2 := Lib.hid (K0.out.trans hk2)
    clear hk2
    go_wp2_with fail
    go_ret
    exact ⟨rfl, K2.out⟩
  have J51 := Lib.hid (H51.out (by omega))
  go_wp2_with fail
  refine (H57.out _ (Kept.refl _)).mono ?_
  rintro e w1 ⟨h1, hk1⟩
  have K1 := Lib.hid hk1
  clear hk1 a0 a1 la
  have a0 := (R0.out.kept K1.out 0 _ rfl).1
  have a1 := (R0.out.kept K1.out 1 _ rfl).1
  have la := cell_lt a0
  rcases h1 with ⟨hne, rfl⟩ | ⟨h0, ⟨hb, ow, res, rfl, hr, hm, hq, hnew⟩ | ⟨rfl, hsh⟩⟩
  · obtain ⟨E, hEe⟩ : ∃ E, chE ms fs day found cls = E := ⟨_, rfl⟩
    rw [hEe] at hne ⊢
    have HEE := Lib.hid hEe
    have HNE := Lib.hid hne
    have h1 : (E != 0) = true := by simpa using hne
    have h2 : (E == E) = true := by simp
    clear hEe hne
    go_wp2_with fail
    refine (J51.out _ K1.out).mono ?_
    rintro e w2 ⟨⟨_, rfl⟩ | ⟨h0, _⟩, hk2⟩
    rotate_left
    · exact absurd (HEE.out.symm.trans h0) HNE.out
    rw [HEE.out]
    have K2 := Lib.hid (K1.out.trans hk2)
    clear hk2 a0 a1 la
    go_wp2_with fail
    refine (HMK.out _ K2.out).mono ?_
    rintro e w3 ⟨rfl, hk3⟩
    have K3 := Lib.hid (K0.out.trans (K2.out.trans hk3))
    clear hk3
    go_wp2_with fail
    go_ret
    exact ⟨rfl, K3.out⟩
  · have HH0 := Lib.hid h0
    have HR := Lib.hid hr
    have HM := Lib.hid hm
    have HQ := Lib.hid hq
    have HG := Lib.hid (GoodS.of h0 HOK.out HFD.out HSO.out)
    have h41 := clN_41 HG.out.hc
    have hc0 := clN_0 HG.out.hc
    have HS41 := Lib.hid h41
    have HC0 := Lib.hid hc0
    have hfl : (fitsN ms fs day found cls).length = p := by rw [← HFN.out]; simp [fitsN]
    have HFL := Lib.hid hfl
    have HRL := Lib.hid hr.ln
    clear h0 hr hm hq hnew h41 hc0 hfl
    go_wp2_with fail
    refine (J51.out _ K1.out).mono ?_
    rintro e w2 ⟨⟨hne, _⟩ | ⟨_, b, rfl, hb2⟩, hk2⟩
    · exact absurd HH0.out hne
    have HB2 := Lib.hid hb2
    have K2 := Lib.hid (K1.out.trans hk2)
    have HR2 := Lib.hid (HR.out.kept hk2)
    have hpp : ((p : Int) != (p : Int)) = false := by simp
    clear hk2 hb2 a0 a1 la
    go_wp2_with fail
    go_loopw [15] (fun i wr => ∃ k : Nat, k ≤ p ∧ i = .int .i64 k ∧ Kept w2 wr) (fun i _ => p - (intOf i).toNat)
    case atStart => exact ⟨0, by omega, by first | rfl | go_num, Kept.refl _⟩
    case round =>
      obtain ⟨k, hk, rfl, hkr⟩ := hrel
      have HKR := Lib.hid hkr
      clear hkr
      by_cases hgo : k < p ∧ b = true
      · obtain ⟨hlt, rfl⟩ := hgo
        have hms := HB2.out.1 rfl
        have hxl : ows.length = p := by rw [hms.1.1, HFL.out]
        obtain ⟨z, hz⟩ : ∃ z, res[k]? = some z := ⟨_, List.getElem?_eq_getElem (by rw [HRL.out]; exact hlt)⟩
        obtain ⟨o, ho⟩ : ∃ o, ows[k]? = some o := ⟨_, List.getElem?_eq_getElem (by rw [hxl]; exact hlt)⟩
        have hsu : z ≠ 0 → o = z := fun hz0 => by
          have h1 := ct_sure HS41.out HC0.out fitsN_cl HQ.out HM.out hlt HFL.out.symm hz hz0 hms
          rw [ho] at h1
          exact Option.some.inj h1
        have hxp : x = p := by rw [← HXN.out]; exact hxl
        subst hxp
        obtain ⟨gb, go_, hGG, hto⟩ := (HOW.out.kept (K2.out.trans HKR.out)).2.2.2.2 (by omega)
        subst hGG
        have c1 := hto k o ho 0 (.int .i64 o) rfl
        rw [Nat.mul_one, Nat.add_zero] at c1
        have lc1 := cell_lt c1
        have c0 := ((HR2.out.kept HKR.out).rh k z hz).1
        rw [Nat.zero_add] at c0
        have lc0 := cell_lt c0
        have hi0 : (0 : Int) ≤ (k : Int) := by omega
        have hi1 : (k : Int) < (x : Int) := by omega
        clear hms hto hz ho hxl
        by_cases hz0 : z = 0
        · subst hz0
          go_wp2_with fail
          go_quiet (fail)
          go_wp2_with fail
          go_roundw
          case rel => exact ⟨k + 1, by omega, by go_num, by first | exact HKR.out | exact HKR.out.drew | exact HKR.out.drewN _⟩
          case measure => simp [intOf]; omega
        · obtain rfl := hsu hz0
          have h1 : (o != 0) = true := by simpa using hz0
          have h2 : (o != o) = false := by simp
          go_wp2_with fail
          go_quiet (fail)
          go_wp2_with fail
          go_roundw
          case rel => exact ⟨k + 1, by omega, by go_num, by first | exact HKR.out | exact HKR.out.drew | exact HKR.out.drewN _⟩
          case measure => simp [intOf]; omega
      · obtain ⟨Wk, hWk⟩ : ∃ Wk, Wk = wr := ⟨_, rfl⟩
        rw [← hWk] at HKR ⊢
        clear hWk
        by_cases hlt : k < p
        · obtain rfl : b = false := by
            cases b with
            | false => rfl
            | true => exact absurd ⟨hlt, rfl⟩ hgo
          have a0 := (R0.out.kept (K2.out.trans HKR.out) 0 _ rfl).1
          have a1 := (R0.out.kept (K2.out.trans HKR.out) 1 _ rfl).1
          have la := cell_lt a0
          go_wp2_with fail
          refine (H49.out _ (K2.out.trans HKR.out)).mono ?_
          rintro e w5 ⟨⟨hne, _⟩ | ⟨_, ⟨hb2, ow2, rfl, hr2, hf2, hnew2⟩ | ⟨_, hsh⟩⟩, hk5⟩
          · exact absurd HH0.out hne
          rotate_left
          · exact (met_shG HG.out HM.out hsh).elim
          have HRB := Lib.hid hr2
          have HRA := Lib.hid ((HR2.out.kept HKR.out).kept hk5)
          have K5 := Lib.hid ((K2.out.trans HKR.out).trans hk5)
          have HRN := Lib.hid hr2.ln
          clear hr2 hf2 hnew2 hk5 a0 a1 la
          go_wp2_with fail
          go_loopw [19] (fun i wr => ∃ kk : Nat, kk ≤ p ∧ i = .int .i64 kk ∧ Kept w5 wr) (fun i _ => p - (intOf i).toNat)
          case atStart => exact ⟨0, by omega, by first | rfl | go_num, Kept.refl _⟩
          case round =>
            obtain ⟨i, hi, rfl, hkr⟩ := hrel
            have HKQ := Lib.hid hkr
            clear hkr
            by_cases hlt2 : i < p
            · obtain ⟨z1, hz1⟩ : ∃ z, res[i]? = some z := ⟨_, List.getElem?_eq_getElem (by rw [HRL.out]; exact hlt2)⟩
              obtain ⟨z2, hz2⟩ : ∃ z, ow2[i]? = some z := ⟨_, List.getElem?_eq_getElem (by rw [HRN.out]; exact hlt2)⟩
              obtain ⟨s, hs⟩ : ∃ s, found[i]? = some s := ⟨_, List.getElem?_eq_getElem (by rw [HFN.out]; exact hlt2)⟩
              have c0 := ((HRA.out.kept HKQ.out).rh i z1 hz1).1
              rw [Nat.zero_add] at c0
              have lc0 := cell_lt c0
              have c2 := ((HRB.out.kept HKQ.out).rh i z2 hz2).1
              rw [Nat.zero_add] at c2
              have lc2 := cell_lt c2
              have HZ1 := Lib.hid hz1
              have HZ2 := Lib.hid hz2
              have HSI := Lib.hid hs
              have hi0 : (0 : Int) ≤ (i : Int) := by omega
              have hi1 : (i : Int) < (p : Int) := by omega
              clear hz1 hz2 hs
              by_cases hq1 : z1 = 0
              · subst hq1
                by_cases hq2 : z2 = 0
                · subst hq2
                  go_wp2_with fail
                  go_quiet (fail)
                  go_wp2_with fail
                  go_roundw
                  case rel => exact ⟨i + 1, by omega, by go_num, by first | exact HKQ.out | exact HKQ.out.drew | exact HKQ.out.drewN _⟩
                  case measure => simp [intOf]; omega
                · have h1 : (z2 != 0) = true := by simpa using hq2
                  have HC := Lib.hid (fun W (hW : Kept wr W) => H70.out i z2 s W (K5.out.trans (HKQ.out.trans hW)) HH0.out HSI.out (ct_free HS41.out fitsN_cl HQ.out HM.out hlt2 HFL.out.symm HZ1.out hq2))
                  have SC : RowKit.Hid (∀ W, Kept wr W → W.cell? ⟨w.heap.size, 0, none⟩ = some (.slice A n c) ∧ W.cell? ⟨w.heap.size, 1, none⟩ = some (.slice B m d) ∧ W.cell? ⟨hb, i, none⟩ = some (.int .i64 0) ∧ W.cell? ⟨hb2, i, none⟩ = some (.int .i64 z2) ∧ Kept wr W) := Lib.hid (fun W hW => by
                    have h3 := K5.out.trans (HKQ.out.trans hW)
                    have e0 := ((HRA.out.kept (HKQ.out.trans hW)).rh i 0 HZ1.out).1
                    have e2 := ((HRB.out.kept (HKQ.out.trans hW)).rh i z2 HZ2.out).1
                    rw [Nat.zero_add] at e0 e2
                    exact ⟨(R0.out.kept h3 0 _ rfl).1, (R0.out.kept h3 1 _ rfl).1, e0, e2, hW⟩)
                  have kd := (Kept.refl wr).drew
                  have q0 := (SC.out _ (Kept.refl _)).1
                  have lq := cell_lt q0
                  clear q0 c0 c2
                  go_upto_region 20 with fail
                  go_region_held3 (fun W => W.cell? ⟨w.heap.size, 0, none⟩ = some (.slice A n c) ∧ W.cell? ⟨w.heap.size, 1, none⟩ = some (.slice B m d) ∧ W.cell? ⟨hb, i, none⟩ = some (.int .i64 0) ∧ W.cell? ⟨hb2, i, none⟩ = some (.int .i64 z2) ∧ Kept wr W)
                    (first
                      | (with_reducible exact SC.out _ kd)
                      | (with_reducible exact SC.out _ kk9)
                      | fail)
                    (first
                      | (go_at_call 70; with_reducible refine (HC.out _ kd).mono ?_; rintro e w9 ⟨rfl, hk9⟩; have kk9 : Kept wr w9 := (by with_reducible exact kd.trans hk9))
                      | fail)
                  all_goals go_wp2
                  all_goals go_roundw
                  case rel => exact ⟨i + 1, by omega, by go_num, HKQ.out.trans kk9⟩
                  case measure => simp [intOf]; omega
              · have h1 : (z1 == 0) = false := by simpa using hq1
                go_wp2_with fail
                go_quiet (fail)
                go_wp2_with fail
                go_roundw
                case rel => exact ⟨i + 1, by omega, by go_num, by first | exact HKQ.out | exact HKQ.out.drew | exact HKQ.out.drewN _⟩
                case measure => simp [intOf]; omega
            · obtain rfl : i = p := by omega
              go_wp2_with fail
              refine (HMK.out _ (K5.out.trans HKQ.out)).mono ?_
              rintro e w8 ⟨rfl, hk8⟩
              have K8 := Lib.hid (K0.out.trans ((K5.out.trans HKQ.out).trans hk8))
              clear hk8
              go_wp2_with fail
              go_ret
              exact ⟨rfl, K8.out⟩
        · obtain rfl : k = p := by omega
          cases b with
          | false =>
            have a0 := (R0.out.kept (K2.out.trans HKR.out) 0 _ rfl).1
            have a1 := (R0.out.kept (K2.out.trans HKR.out) 1 _ rfl).1
            have la := cell_lt a0
            go_wp2_with fail
            refine (H49.out _ (K2.out.trans HKR.out)).mono ?_
            rintro e w5 ⟨⟨hne, _⟩ | ⟨_, ⟨hb2, ow2, rfl, hr2, hf2, hnew2⟩ | ⟨_, hsh⟩⟩, hk5⟩
            · exact absurd HH0.out hne
            rotate_left
            · exact (met_shG HG.out HM.out hsh).elim
            have HRB := Lib.hid hr2
            have HRA := Lib.hid ((HR2.out.kept HKR.out).kept hk5)
            have K5 := Lib.hid ((K2.out.trans HKR.out).trans hk5)
            have HRN := Lib.hid hr2.ln
            clear hr2 hf2 hnew2 hk5 a0 a1 la
            go_wp2_with fail
            go_loopw [19] (fun i wr => ∃ kk : Nat, kk ≤ k ∧ i = .int .i64 kk ∧ Kept w5 wr) (fun i _ => k - (intOf i).toNat)
            case atStart => exact ⟨0, by omega, by first | rfl | go_num, Kept.refl _⟩
            case round =>
              obtain ⟨i, hi, rfl, hkr⟩ := hrel
              have HKQ := Lib.hid hkr
              clear hkr
              by_cases hlt2 : i < k
              · obtain ⟨z1, hz1⟩ : ∃ z, res[i]? = some z := ⟨_, List.getElem?_eq_getElem (by rw [HRL.out]; exact hlt2)⟩
                obtain ⟨z2, hz2⟩ : ∃ z, ow2[i]? = some z := ⟨_, List.getElem?_eq_getElem (by rw [HRN.out]; exact hlt2)⟩
                obtain ⟨s, hs⟩ : ∃ s, found[i]? = some s := ⟨_, List.getElem?_eq_getElem (by rw [HFN.out]; exact hlt2)⟩
                have c0 := ((HRA.out.kept HKQ.out).rh i z1 hz1).1
                rw [Nat.zero_add] at c0
                have lc0 := cell_lt c0
                have c2 := ((HRB.out.kept HKQ.out).rh i z2 hz2).1
                rw [Nat.zero_add] at c2
                have lc2 := cell_lt c2
                have HZ1 := Lib.hid hz1
                have HZ2 := Lib.hid hz2
                have HSI := Lib.hid hs
                have hi0 : (0 : Int) ≤ (i : Int) := by omega
                have hi1 : (i : Int) < (k : Int) := by omega
                clear hz1 hz2 hs
                by_cases hq1 : z1 = 0
                · subst hq1
                  by_cases hq2 : z2 = 0
                  · subst hq2
                    go_wp2_with fail
                    go_quiet (fail)
                    go_wp2_with fail
                    go_roundw
                    case rel => exact ⟨i + 1, by omega, by go_num, by first | exact HKQ.out | exact HKQ.out.drew | exact HKQ.out.drewN _⟩
                    case measure => simp [intOf]; omega
                  · have h1 : (z2 != 0) = true := by simpa using hq2
                    have HC := Lib.hid (fun W (hW : Kept wr W) => H70.out i z2 s W (K5.out.trans (HKQ.out.trans hW)) HH0.out HSI.out (ct_free HS41.out fitsN_cl HQ.out HM.out hlt2 HFL.out.symm HZ1.out hq2))
                    have SC : RowKit.Hid (∀ W, Kept wr W → W.cell? ⟨w.heap.size, 0, none⟩ = some (.slice A n c) ∧ W.cell? ⟨w.heap.size, 1, none⟩ = some (.slice B m d) ∧ W.cell? ⟨hb, i, none⟩ = some (.int .i64 0) ∧ W.cell? ⟨hb2, i, none⟩ = some (.int .i64 z2) ∧ Kept wr W) := Lib.hid (fun W hW => by
                      have h3 := K5.out.trans (HKQ.out.trans hW)
                      have e0 := ((HRA.out.kept (HKQ.out.trans hW)).rh i 0 HZ1.out).1
                      have e2 := ((HRB.out.kept (HKQ.out.trans hW)).rh i z2 HZ2.out).1
                      rw [Nat.zero_add] at e0 e2
                      exact ⟨(R0.out.kept h3 0 _ rfl).1, (R0.out.kept h3 1 _ rfl).1, e0, e2, hW⟩)
                    have kd := (Kept.refl wr).drew
                    have q0 := (SC.out _ (Kept.refl _)).1
                    have lq := cell_lt q0
                    clear q0 c0 c2
                    go_upto_region 20 with fail
                    go_region_held3 (fun W => W.cell? ⟨w.heap.size, 0, none⟩ = some (.slice A n c) ∧ W.cell? ⟨w.heap.size, 1, none⟩ = some (.slice B m d) ∧ W.cell? ⟨hb, i, none⟩ = some (.int .i64 0) ∧ W.cell? ⟨hb2, i, none⟩ = some (.int .i64 z2) ∧ Kept wr W)
                      (first
                        | (with_reducible exact SC.out _ kd)
                        | (with_reducible exact SC.out _ kk9)
                        | fail)
                      (first
                        | (go_at_call 70; with_reducible refine (HC.out _ kd).mono ?_; rintro e w9 ⟨rfl, hk9⟩; have kk9 : Kept wr w9 := (by with_reducible exact kd.trans hk9))
                        | fail)
                    all_goals go_wp2
                    all_goals go_roundw
                    case rel => exact ⟨i + 1, by omega, by go_num, HKQ.out.trans kk9⟩
                    case measure => simp [intOf]; omega
                · have h1 : (z1 == 0) = false := by simpa using hq1
                  go_wp2_with fail
                  go_quiet (fail)
                  go_wp2_with fail
                  go_roundw
                  case rel => exact ⟨i + 1, by omega, by go_num, by first | exact HKQ.out | exact HKQ.out.drew | exact HKQ.out.drewN _⟩
                  case measure => simp [intOf]; omega
              · obtain rfl : i = k := by omega
                go_wp2_with fail
                refine (HMK.out _ (K5.out.trans HKQ.out)).mono ?_
                rintro e w8 ⟨rfl, hk8⟩
                have K8 := Lib.hid (K0.out.trans ((K5.out.trans HKQ.out).trans hk8))
                clear hk8
                go_wp2_with fail
                go_ret
                exact ⟨rfl, K8.out⟩
          | true =>
            have a0 := (R0.out.kept (K2.out.trans HKR.out) 0 _ rfl).1
            have a1 := (R0.out.kept (K2.out.trans HKR.out) 1 _ rfl).1
            have la := cell_lt a0
            go_wp2_with fail
            refine (H49.out _ (K2.out.trans HKR.out)).mono ?_
            rintro e w5 ⟨⟨hne, _⟩ | ⟨_, ⟨hb2, ow2, rfl, hr2, hf2, hnew2⟩ | ⟨_, hsh⟩⟩, hk5⟩
            · exact absurd HH0.out hne
            rotate_left
            · exact (met_shG HG.out HM.out hsh).elim
            have HRB := Lib.hid hr2
            have HRA := Lib.hid ((HR2.out.kept HKR.out).kept hk5)
            have K5 := Lib.hid ((K2.out.trans HKR.out).trans hk5)
            have HRN := Lib.hid hr2.ln
            clear hr2 hf2 hnew2 hk5 a0 a1 la
            go_wp2_with fail
            go_loopw [19] (fun i wr => ∃ kk : Nat, kk ≤ k ∧ i = .int .i64 kk ∧ Kept w5 wr) (fun i _ => k - (intOf i).toNat)
            case atStart => exact ⟨0, by omega, by first | rfl | go_num, Kept.refl _⟩
            case round =>
              obtain ⟨i, hi, rfl, hkr⟩ := hrel
              have HKQ := Lib.hid hkr
              clear hkr
              by_cases hlt2 : i < k
              · obtain ⟨z1, hz1⟩ : ∃ z, res[i]? = some z := ⟨_, List.getElem?_eq_getElem (by rw [HRL.out]; exact hlt2)⟩
                obtain ⟨z2, hz2⟩ : ∃ z, ow2[i]? = some z := ⟨_, List.getElem?_eq_getElem (by rw [HRN.out]; exact hlt2)⟩
                obtain ⟨s, hs⟩ : ∃ s, found[i]? = some s := ⟨_, List.getElem?_eq_getElem (by rw [HFN.out]; exact hlt2)⟩
                have c0 := ((HRA.out.kept HKQ.out).rh i z1 hz1).1
                rw [Nat.zero_add] at c0
                have lc0 := cell_lt c0
                have c2 := ((HRB.out.kept HKQ.out).rh i z2 hz2).1
                rw [Nat.zero_add] at c2
                have lc2 := cell_lt c2
                have HZ1 := Lib.hid hz1
                have HZ2 := Lib.hid hz2
                have HSI := Lib.hid hs
                have hi0 : (0 : Int) ≤ (i : Int) := by omega
                have hi1 : (i : Int) < (k : Int) := by omega
                clear hz1 hz2 hs
                by_cases hq1 : z1 = 0
                · subst hq1
                  by_cases hq2 : z2 = 0
                  · subst hq2
                    go_wp2_with fail
                    go_quiet (fail)
                    go_wp2_with fail
                    go_roundw
                    case rel => exact ⟨i + 1, by omega, by go_num, by first | exact HKQ.out | exact HKQ.out.drew | exact HKQ.out.drewN _⟩
                    case measure => simp [intOf]; omega
                  · have h1 : (z2 != 0) = true := by simpa using hq2
                    have HC := Lib.hid (fun W (hW : Kept wr W) => H70.out i z2 s W (K5.out.trans (HKQ.out.trans hW)) HH0.out HSI.out (ct_free HS41.out fitsN_cl HQ.out HM.out hlt2 HFL.out.symm HZ1.out hq2))
                    have SC : RowKit.Hid (∀ W, Kept wr W → W.cell? ⟨w.heap.size, 0, none⟩ = some (.slice A n c) ∧ W.cell? ⟨w.heap.size, 1, none⟩ = some (.slice B m d) ∧ W.cell? ⟨hb, i, none⟩ = some (.int .i64 0) ∧ W.cell? ⟨hb2, i, none⟩ = some (.int .i64 z2) ∧ Kept wr W) := Lib.hid (fun W hW => by
                      have h3 := K5.out.trans (HKQ.out.trans hW)
                      have e0 := ((HRA.out.kept (HKQ.out.trans hW)).rh i 0 HZ1.out).1
                      have e2 := ((HRB.out.kept (HKQ.out.trans hW)).rh i z2 HZ2.out).1
                      rw [Nat.zero_add] at e0 e2
                      exact ⟨(R0.out.kept h3 0 _ rfl).1, (R0.out.kept h3 1 _ rfl).1, e0, e2, hW⟩)
                    have kd := (Kept.refl wr).drew
                    have q0 := (SC.out _ (Kept.refl _)).1
                    have lq := cell_lt q0
                    clear q0 c0 c2
                    go_upto_region 20 with fail
                    go_region_held3 (fun W => W.cell? ⟨w.heap.size, 0, none⟩ = some (.slice A n c) ∧ W.cell? ⟨w.heap.size, 1, none⟩ = some (.slice B m d) ∧ W.cell? ⟨hb, i, none⟩ = some (.int .i64 0) ∧ W.cell? ⟨hb2, i, none⟩ = some (.int .i64 z2) ∧ Kept wr W)
                      (first
                        | (with_reducible exact SC.out _ kd)
                        | (with_reducible exact SC.out _ kk9)
                        | fail)
                      (first
                        | (go_at_call 70; with_reducible refine (HC.out _ kd).mono ?_; rintro e w9 ⟨rfl, hk9⟩; have kk9 : Kept wr w9 := (by with_reducible exact kd.trans hk9))
                        | fail)
                    all_goals go_wp2
                    all_goals go_roundw
                    case rel => exact ⟨i + 1, by omega, by go_num, HKQ.out.trans kk9⟩
                    case measure => simp [intOf]; omega
                · have h1 : (z1 == 0) = false := by simpa using hq1
                  go_wp2_with fail
                  go_quiet (fail)
                  go_wp2_with fail
                  go_roundw
                  case rel => exact ⟨i + 1, by omega, by go_num, by first | exact HKQ.out | exact HKQ.out.drew | exact HKQ.out.drewN _⟩
                  case measure => simp [intOf]; omega
              · obtain rfl : i = k := by omega
                go_wp2_with fail
                refine (HMK.out _ (K5.out.trans HKQ.out)).mono ?_
                rintro e w8 ⟨rfl, hk8⟩
                have K8 := Lib.hid (K0.out.trans ((K5.out.trans HKQ.out).trans hk8))
                clear hk8
                go_wp2_with fail
                go_ret
                exact ⟨rfl, K8.out⟩
  · have HH0 := Lib.hid h0
    have HSH := Lib.hid hsh
    clear h0 hsh
    go_wp2_with fail
    refine (J51.out _ K1.out).mono ?_
    rintro e w2 ⟨⟨hne, _⟩ | ⟨_, b, rfl, hb⟩, hk2⟩
    · exact absurd HH0.out hne
    obtain rfl : b = false := by
      cases b with
      | false => rfl
      | true => exact (met_shG (GoodS.of HH0.out HOK.out HFD.out HSO.out) (hb.1 rfl) HSH.out).elim
    have K2 := Lib.hid (K1.out.trans hk2)
    clear hk2 hb a0 a1 la
    go_wp2_with fail
    refine (HMK.out _ K2.out).mono ?_
    rintro e w3 ⟨rfl, hk3⟩
    have K3 := Lib.hid (K0.out.trans (K2.out.trans hk3))
    clear hk3
    go_wp2_with fail
    go_ret
    exact ⟨rfl, K3.out⟩
end Go.Proofs.YtologmoanaccpaaGreatDoor
