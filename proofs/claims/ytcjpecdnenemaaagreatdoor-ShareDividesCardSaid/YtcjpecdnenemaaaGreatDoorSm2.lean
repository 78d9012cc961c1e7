/-
  Sum, of the program.
-/
import Derived.Test.YtcjpecdnenemaaaGreatDoorSm1
namespace Go.Proofs.YtcjpecdnenemaaaGreatDoor
set_option linter.all false
open Go.RowKit Go.Shelf

theorem e99 : ∀ args w, (callFunc 99 args).run Tryz.prog w = .ok (.enter 99 args) w := enters_of Tryz.func99 (by kernel_rfl) rfl
theorem RowC.atn {W : World} {vs : List Value} {t : TypeId} {m : Nat} (h : W.heap.size = m) : RowC (W.alloc (.cells vs.toArray t)) m vs := by subst h; exact RowC.new W vs t
theorem all_take {es : List (Int × Int)} {k : Nat} {p : Int × Int} (h : ((es.take k).all fun p => vld p.1 p.2) = true) (hp : es[k]? = some p) (hv : vld p.1 p.2 = true) : ((es.take (k + 1)).all fun p => vld p.1 p.2) = true := by
  rw [take_snoc' hp, List.all_append, h]; simp [hv]
theorem not_all {es : List (Int × Int)} {k : Nat} {p : Int × Int} (hp : es[k]? = some p) (hv : vld p.1 p.2 = false) : (es.all fun p => vld p.1 p.2) = false := by
  rcases h : (es.all fun p => vld p.1 p.2) with _ | _
  · rfl
  · have := List.all_eq_true.1 h p (List.mem_of_getElem? hp)
    have h2 : vld p.1 p.2 = true := this
    rw [hv] at h2; cases h2
theorem sumS_bad {es : List (Int × Int)} (hn : es.length ≤ 1000) (h : (es.all fun p => vld p.1 p.2) = false) : sumS es = (0, 0, 1) := by
  unfold sumS
  rw [if_neg (by omega), h]; rfl
theorem sumS_all {es : List (Int × Int)} (hn : es.length ≤ 1000) (h : (es.all fun p => vld p.1 p.2) = true) : sumS es = okL (sumF es) := by
  unfold sumS
  rw [if_neg (by omega), if_pos h]
theorem sumS_far {es : List (Int × Int)} (hn : 1000 < es.length) : sumS es = (0, 0, 2) := by
  unfold sumS
  rw [if_pos hn]
set_option maxRecDepth 100000 in
set_option maxHeartbeats 1600000 in
theorem sum_of (A : Option Addr) (n c : Nat) (es : List (Int × Int)) (s0 s1 s2 : Int) (hS : sumS es = (s0, s1, s2)) (w : World) (hF : FracsA w A n c es) :
    Calls Tryz.prog 34 #[.slice A n c] w fun e w' => e = .returned (.tuple #[.agg #[.int .i64 s0, .int .i64 s1], .int .i64 s2]) ∧ Kept w w' := by
  have HS := Lib.hid hS
  clear hS
  have hmf : ∀ (fn : Fn) (first cap : Array Value) (w : World), (Instr.makeFunc fn first cap).run Tryz.prog w = .ok (.func fn first cap) w := fun _ _ _ _ => rfl
  have HF := Lib.hid hF
  have hlen := hF.1
  have hnc := hF.2.1
  have hcm := hF.2.2.1
  obtain ⟨W1, hW1⟩ : ∃ W1 : World, W1 = (w.alloc (.cells #[.slice A n c] 32)).alloc (.cells #[.int .i64 0, .int .i64 0] 23) := ⟨_, rfl⟩
  have K1 : Kept w W1 := by rw [hW1]; exact ((Kept.refl w).alloc _).alloc _
  have r0 : RowC W1 w.heap.size [.slice A n c] := by rw [hW1]; exact (RowC.new w [.slice A n c] 32).kept ((Kept.refl _).alloc _)
  have r1 : RowC W1 (w.heap.size + 1) [.int .i64 0, .int .i64 0] := by rw [hW1]; exact RowC.atn (vs := [.int .i64 0, .int .i64 0]) (by simp)
  have R0 := Lib.hid r0
  have R1 := Lib.hid r1
  have HK1 := Lib.hid K1
  have HW1 := Lib.hid hW1
  have zW : w.heap.size + 1 + 1 = W1.heap.size := by rw [hW1]; simp
  clear hF r0 r1 K1 hW1
  by_cases hbig : n ≤ 1000
  · have hcmp : decide ((n : Int) > 1000) = false := by simp; omega
    have b0 := (R0.out 0 _ rfl).1
    go_enter Tryz.func34, Tryz.ntmps34
    go_wp2_with fail
    rw [← HW1.out]
    go_loopw [12] (fun i wr => ∃ k : Nat, k ≤ n ∧ i = .int .i64 k ∧ ((es.take k).all fun p => vld p.1 p.2) = true ∧ Kept W1 wr) (fun i _ => n - (intOf i).toNat)
    case atStart => exact ⟨0, by omega, by first | rfl | go_num, rfl, Kept.refl _⟩
    case round =>
      obtain ⟨k, hk, rfl, hall, hkr⟩ := hrel
      have HA := Lib.hid hall
      clear hall b0 hcmp
      by_cases hlt : k < n
      · obtain ⟨bb, off, hB, hcc⟩ := HF.out.2.2.2 (by omega)
        subst hB
        have hxl : k < es.length := by omega
        obtain ⟨p, hp⟩ : ∃ p, es[k]? = some p := ⟨es[k]'hxl, List.getElem?_eq_getElem hxl⟩
        have f0 := (hcc k p hp).1
        have f1 := (hcc k p hp).2
        have v0 := ((HK1.out.trans hkr).cells _ _ (cell_lt f0)).trans f0
        have v1 := ((HK1.out.trans hkr).cells _ _ (cell_lt f1)).trans f1
        have i0 : (0 : Int) ≤ (k : Int) := by omega
        have i1 : (k : Int) < (n : Int) := by omega
        have it : (k : Int).toNat = k := by omega
        have HP := Lib.hid hp
        clear hcc hp f0 f1
        go_wp2_with fail
        refine (valid_any _ _ _).mono ?_
        rintro e w2 ⟨rfl, hk2⟩
        have kk := Lib.hid (hkr.trans (((Kept.refl wr).alloc (.cells #[.int .i64 p.1, .int .i64 p.2] 23)).trans hk2))
        rcases hvp : vld p.1 p.2 with _ | _
        · have hs := sumS_bad (by omega) (not_all HP.out hvp)
          rw [HS.out] at hs
          simp only [Prod.mk.injEq] at hs
          obtain ⟨rfl, rfl, rfl⟩ := hs
          have T := R1.out.kept kk.out
          have e0 := (T 0 _ rfl).1
          have e1 := (T 1 _ rfl).1
          have z0 := (T 0 _ rfl).2
          have z1 := (T 1 _ rfl).2
          have lt := cell_lt e0
          clear T
          go_wp2_with fail
          refine bodyPost_ret (v := .tuple #[.agg #[.int .i64 0, .int .i64 0], .int .i64 1]) (by simp [results, Tryz.results34, go_sem, e0, e1]) rfl ⟨rfl, ?_⟩
          exact ((HK1.out.trans kk.out).setCell (by first | (simp; done) | (simp; omega)) _).setCell (by first | (simp; done) | (simp; omega)) _
        · go_wp2_with fail
          go_roundw
          case rel => exact ⟨k + 1, by omega, by go_num, all_take HA.out HP.out hvp, kk.out⟩
          case measure => simp [intOf]; omega
      · obtain rfl : k = n := by omega
        have hall2 := HA.out
        rw [List.take_of_length_le (by omega)] at hall2
        have hev := List.all_eq_true.1 hall2
        have hs := sumS_all (by omega) hall2
        rw [HS.out] at hs
        have T := R1.out.kept hkr
        have l1 := cell_lt (R0.out 0 _ rfl).1
        have l2 := cell_lt (R1.out 0 _ rfl).1
        have hv := (R0.out.kept hkr 0 _ rfl).1
        rcases hr : sumF es with _ | r
        · rw [hr] at hs
          simp only [okL, Prod.mk.injEq] at hs
          obtain ⟨rfl, rfl, rfl⟩ := hs
          have C : RowKit.Hid (∀ W, Kept wr W → Calls Tryz.prog 99 #[.pointer (some ⟨w.heap.size, 0, none⟩)] W fun e w' => e = .panicked limPanic ∧ Kept W w') := Lib.hid (fun W hW => by
            refine (sum1_any _ _ _ _ es W ((hW.cells _ _ (cell_lt hv)).trans hv) (HF.out.kept ((HK1.out.trans hkr).trans hW)) hev (by omega)).mono ?_
            rintro e w' ⟨h1, h2⟩
            rw [hr] at h1
            exact ⟨h1, h2⟩)
          clear hv hev hall2 T
          go_wp2_with fail
          refine (reckon_lim 99 _ _ e99 (fun W hW => C.out W hW)).mono ?_
          rintro e w3 ⟨rfl, hk3⟩
          have T3 := R1.out.kept (hkr.trans hk3)
          have e0 := (T3 0 _ rfl).1
          have e1 := (T3 1 _ rfl).1
          have z0 := (T3 0 _ rfl).2
          have z1 := (T3 1 _ rfl).2
          have lt := cell_lt e0
          clear T3
          go_wp2_with fail
          refine bodyPost_ret (v := .tuple #[.agg #[.int .i64 0, .int .i64 0], .int .i64 2]) (by simp [results, Tryz.results34, go_sem, e0, e1]) rfl ⟨rfl, ?_⟩
          exact ((HK1.out.trans (hkr.trans hk3)).setCell (by first | (simp; done) | (simp; omega)) _).setCell (by first | (simp; done) | (simp; omega)) _
        · obtain ⟨r1, r2⟩ := r
          rw [hr] at hs
          simp only [okL, Prod.mk.injEq] at hs
          obtain ⟨rfl, rfl, rfl⟩ := hs
          have C : RowKit.Hid (∀ W, Kept wr W → Calls Tryz.prog 99 #[.pointer (some ⟨w.heap.size, 0, none⟩)] W fun e w' => e = .returned (.agg #[.int .i64 s0, .int .i64 s1]) ∧ Kept W w') := Lib.hid (fun W hW => by
            refine (sum1_any _ _ _ _ es W ((hW.cells _ _ (cell_lt hv)).trans hv) (HF.out.kept ((HK1.out.trans hkr).trans hW)) hev (by omega)).mono ?_
            rintro e w' ⟨h1, h2⟩
            rw [hr] at h1
            exact ⟨h1, h2⟩)
          clear hv hev hall2 T
          go_wp2_with fail
          refine (reckon_ok 99 _ s0 s1 _ e99 (fun W hW => C.out W hW)).mono ?_
          rintro e w3 ⟨rfl, hk3⟩
          have T3 := R1.out.kept (hkr.trans hk3)
          have e0 := (T3 0 _ rfl).1
          have e1 := (T3 1 _ rfl).1
          have z0 := (T3 0 _ rfl).2
          have z1 := (T3 1 _ rfl).2
          have lt := cell_lt e0
          clear T3
          go_wp2_with fail
          refine bodyPost_ret (v := .tuple #[.agg #[.int .i64 s0, .int .i64 s1], .int .i64 0]) (by simp [results, Tryz.results34, go_sem, e0, e1]) rfl ⟨rfl, ?_⟩
          exact ((HK1.out.trans (hkr.trans hk3)).setCell (by first | (simp; done) | (simp; omega)) _).setCell (by first | (simp; done) | (simp; omega)) _
  · have hs := sumS_far (es := es) (by omega)
    rw [HS.out] at hs
    simp only [Prod.mk.injEq] at hs
    obtain ⟨rfl, rfl, rfl⟩ := hs
    have hcmp : decide ((n : Int) > 1000) = true := by simp; omega
    go_enter Tryz.func34, Tryz.ntmps34
    go_wp2_with fail
    rw [← HW1.out]
    have e0 := (R1.out 0 _ rfl).1
    have e1 := (R1.out 1 _ rfl).1
    refine bodyPost_ret (v := .tuple #[.agg #[.int .i64 0, .int .i64 0], .int .i64 2]) (by simp [results, Tryz.results34, go_sem, e0, e1]) rfl ⟨rfl, ?_⟩
    exact HK1.out
theorem sum_any (A : Option Addr) (n c : Nat) (es : List (Int × Int)) (w : World) (hF : FracsA w A n c es) :
    Calls Tryz.prog 34 #[.slice A n c] w fun e w' => e = .returned (.tuple #[.agg #[.int .i64 (sumS es).1, .int .i64 (sumS es).2.1], .int .i64 (sumS es).2.2]) ∧ Kept w w' := sum_of A n c es _ _ _ rfl w hF
end Go.Proofs.YtcjpecdnenemaaaGreatDoor
