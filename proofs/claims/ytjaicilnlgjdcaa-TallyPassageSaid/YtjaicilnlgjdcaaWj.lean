/- joined with both; firstApart -/
import Derived.Test.YtjaicilnlgjdcaaVq
namespace Go.Proofs.Ytjaicilnlgjdcaa
set_option linter.all false
open Go.RowKit

theorem e85' : ∀ args w, (callFunc 85 args).run Try.prog w = .ok (.enter 85 args) w := enters_of Try.func85 (by kernel_rfl) rfl
def bV (x y : Iv) : Iv := ⟨(bothI x.lo x.hi x.so y.lo y.hi y.so).1, (bothI x.lo x.hi x.so y.lo y.hi y.so).2.1, (bothI x.lo x.hi x.so y.lo y.hi y.so).2.2⟩
def foldB (a : Iv) (l : List Iv) : Iv := l.foldl bV a
theorem foldB_snoc {xs : List Iv} {k : Nat} {x : Iv} (h : xs[k]? = some x) (a : Iv) : foldB a (xs.take (k + 1)) = bV (foldB a (xs.take k)) x := by
  rw [take_snoc' h]; simp [foldB]

set_option maxRecDepth 100000 in
set_option maxHeartbeats 2000000 in
theorem joinedBoth_any (a : Iv) (A : Option Addr) (n c : Nat) (xs : List Iv) (w : World) (hT : SliK 3 ivCells w A n c xs) (hlt : n ≤ 1000000) :
    Calls Try.prog 80 #[.agg #[.int .i64 a.lo, .int .i64 a.hi, .bool a.so], .slice A n c, .func (.func 85) #[] #[]] w fun e w' => e = .returned (.agg #[.int .i64 (foldB a xs).lo, .int .i64 (foldB a xs).hi, .bool (foldB a xs).so]) ∧ Kept w w' := by
  have HT := Lib.hid hT
  have hnc := hT.2.1
  have hcm := hT.2.2.1
  have e85 := e85'
  clear hT
  obtain ⟨W0, hW0⟩ : ∃ W0, W0 = (w.alloc (.cells #[.int .i64 a.lo, .int .i64 a.hi, .bool a.so] 83)).alloc (.cells #[.int .i64 0, .int .i64 0, .bool false] 83) := ⟨_, rfl⟩
  have K0 : RowKit.Hid (Kept w W0) := Lib.hid (by rw [hW0]; exact ((Kept.refl _).alloc _).alloc _)
  have R0 : RowKit.Hid (RowC W0 w.heap.size (ivCells (foldB a (xs.take 0)))) := Lib.hid (by rw [hW0]; exact (RowC.new w (ivCells a) 83).kept ((Kept.refl _).alloc _))
  have R1 : RowKit.Hid (RowC W0 (w.heap.size + 1) [.int .i64 0, .int .i64 0, .bool false]) := Lib.hid (by rw [hW0]; exact RowC.atn (vs := [.int .i64 0, .int .i64 0, .bool false]) (by simp))
  have HW := Lib.hid hW0
  clear hW0
  go_enter Try.func80, Try.ntmps80
  go_upto_region 1 with (fail)
  rw [← HW.out]
  go_wp2_with fail
  go_loopw [11] (fun i wr => ∃ k : Nat, k ≤ n ∧ i = .int .i64 k ∧ Kept w wr ∧ RowC wr w.heap.size (ivCells (foldB a (xs.take k))) ∧ RowC wr (w.heap.size + 1) [.int .i64 0, .int .i64 0, .bool false]) (fun i _ => n - (intOf i).toNat)
  case atStart => exact ⟨0, by omega, by first | rfl | go_num, K0.out, R0.out, R1.out⟩
  case round =>
    obtain ⟨k, hk, rfl, hkw, hr0, hr1⟩ := hrel
    obtain ⟨⟨fa, fb, fs⟩, hF⟩ : ∃ F : Iv, F = foldB a (xs.take k) := ⟨_, rfl⟩
    rw [← hF] at hr0
    have HF := Lib.hid hF
    have g0 := (hr0 0 _ rfl).1
    have g1 := (hr0 1 _ rfl).1
    have g2 := (hr0 2 _ rfl).1
    dsimp only at g0 g1 g2
    have lg := cell_lt g0
    have RR0 := Lib.hid hr0
    have RR1 := Lib.hid hr1
    clear hr0 hr1 hF
    by_cases hlt2 : k < n
    · obtain ⟨b, off, hA, htab⟩ := HT.out.2.2.2 (by omega)
      subst hA
      have hxl : k < xs.length := by rw [HT.out.1]; exact hlt2
      obtain ⟨x, hx⟩ : ∃ x, xs[k]? = some x := ⟨xs[k]'hxl, List.getElem?_eq_getElem hxl⟩
      have HSN := Lib.hid (foldB_snoc hx a)
      have q0 := (hkw.cells _ _ (cell_lt (htab k x hx 0 _ rfl))).trans (htab k x hx 0 _ rfl)
      have q1 := (hkw.cells _ _ (cell_lt (htab k x hx 1 _ rfl))).trans (htab k x hx 1 _ rfl)
      have q2 := (hkw.cells _ _ (cell_lt (htab k x hx 2 _ rfl))).trans (htab k x hx 2 _ rfl)
      simp only [Nat.add_zero] at q0
      obtain ⟨xl, xh, xo⟩ := x
      dsimp only at q0 q1 q2
      clear htab hx
      obtain ⟨⟨ga, gb, gs⟩, hG⟩ : ∃ G : Iv, G = bV ⟨fa, fb, fs⟩ ⟨xl, xh, xo⟩ := ⟨_, rfl⟩
      have HC : RowKit.Hid (∀ W, Calls Try.prog 85 #[.agg #[.int .i64 fa, .int .i64 fb, .bool fs], .agg #[.int .i64 xl, .int .i64 xh, .bool xo]] W fun e w' => e = .returned (.agg #[.int .i64 ga, .int .i64 gb, .bool gs]) ∧ Kept W w') := Lib.hid (fun W => by
        have := spanBoth_any fa fb fs xl xh xo W
        unfold bV at hG
        injection hG with h1 h2 h3
        dsimp only at h1 h2 h3
        rwa [← h1, ← h2, ← h3] at this)
      have HG : RowKit.Hid (foldB a (xs.take (k + 1)) = ⟨ga, gb, gs⟩) := Lib.hid (by rw [HSN.out, ← HF.out, hG])
      clear hG
      have hlc : w.heap.size < wr.heap.size := lg
      go_wp2_with fail
      have kx : Kept wr (wr.alloc (.cells #[.int .i64 xl, .int .i64 xh, .bool xo] 83)) := (Kept.refl _).alloc _
      refine (HC.out _).mono ?_
      rintro e w3 ⟨rfl, hk3⟩
      have rr0 := RR0.out.kept (kx.trans hk3)
      have rr1 := RR1.out.kept (kx.trans hk3)
      have kk := hkw.trans (kx.trans hk3)
      have y0 := (rr0 0 _ rfl).1
      have y1 := (rr0 1 _ rfl).1
      have y2 := (rr0 2 _ rfl).1
      have z0 := (rr0 0 _ rfl).2
      have z1 := (rr0 1 _ rfl).2
      have z2 := (rr0 2 _ rfl).2
      have RX0 := Lib.hid rr0
      have RX1 := Lib.hid rr1
      have KK := Lib.hid kk
      clear rr0 rr1 kk kx
      go_wp2
      go_roundw
      case rel => exact ⟨k + 1, by omega, by go_num, (((KK.out.setCell (Nat.le_refl _) _).setCell (Nat.le_refl _) _).setCell (Nat.le_refl _) _), by rw [HG.out]; exact ((RX0.out.put (j := 0) (by simp [ivCells]) _).put (j := 1) (by simp [ivCells]) _).put (j := 2) (by simp [ivCells]) _, ((RX1.out.far (by omega) _).far (by omega) _).far (by omega) _⟩
      case measure => simp [intOf]; omega
    · obtain rfl : k = n := by omega
      have htk : xs.take k = xs := List.take_of_length_le (by rw [HT.out.1]; exact Nat.le_refl _)
      rw [htk] at HF
      clear htk
      have y0 := (RR1.out 0 _ rfl).1
      have y1 := (RR1.out 1 _ rfl).1
      have y2 := (RR1.out 2 _ rfl).1
      have z0 := (RR1.out 0 _ rfl).2
      have z1 := (RR1.out 1 _ rfl).2
      have z2 := (RR1.out 2 _ rfl).2
      have KK := Lib.hid hkw
      go_wp2
      refine bodyPost_ret (v := .agg #[.int .i64 fa, .int .i64 fb, .bool fs]) (by simp [results, Try.results80, go_sem, y0, y1, y2]) rfl ⟨by rw [← HF.out], ?_⟩
      exact ((KK.out.setCell (by simp; try omega) _).setCell (by simp; try omega) _).setCell (by simp; try omega) _

theorem two_any (W : World) (b : Nat) (x y : Int) (h : RowC W b [.int .i64 x, .int .i64 y]) : IntA W (some ⟨b, 0, none⟩) 2 2 [x, y] := by
  refine ⟨rfl, by omega, by omega, fun _ => ⟨b, 0, rfl, fun i z hz => ?_⟩⟩
  match i with
  | 0 => simp at hz; subst hz; exact (h 0 _ rfl).1
  | 1 => simp at hz; subst hz; exact (h 1 _ rfl).1
  | i + 2 => simp at hz
/-- the first two that have nothing in common -/
def ApRes (xs : List Iv) (ids : List Int) : Prop :=
  (∃ (i j : Nat) (x y : Iv), ids = [(i : Int), (j : Int)] ∧ i ≤ j ∧ xs[i]? = some x ∧ xs[j]? = some y ∧ emI (bV x y) = true ∧
    ∀ (i' j' : Nat) (x' y' : Iv), i' ≤ j' → (i' < i ∨ (i' = i ∧ j' < j)) → xs[i']? = some x' → xs[j']? = some y' → emI (bV x' y') = false) ∨
  (ids = [] ∧ ∀ (i j : Nat) (x y : Iv), i ≤ j → xs[i]? = some x → xs[j]? = some y → emI (bV x y) = false)
def ApOut (w : World) (xs : List Iv) (e : Ending) (w' : World) : Prop := ∃ (ids : List Int) (A : Option Addr) (n c : Nat), e = .returned (.slice A n c) ∧ IntA w' A n c ids ∧ ApRes xs ids ∧ (∀ a, A = some a → w.heap.size ≤ a.block) ∧ Kept w w'

set_option maxRecDepth 100000 in
set_option maxHeartbeats 2000000 in
theorem firstApart_any (A : Option Addr) (n c : Nat) (xs : List Iv) (w : World) (hT : SliK 3 ivCells w A n c xs) (hlt : n ≤ 1000000) :
    Calls Try.prog 87 #[.slice A n c] w (ApOut w xs) := by
  have HT := Lib.hid hT
  have hnc := hT.2.1
  have hcm := hT.2.2.1
  clear hT
  go_enter Try.func87, Try.ntmps87
  go_wp2_with fail
  go_loopw [9] (fun i wr => ∃ k : Nat, k ≤ n ∧ i = .int .i64 k ∧ Kept w wr ∧ (∀ (i' j' : Nat) (x' y' : Iv), i' ≤ j' → i' < k → xs[i']? = some x' → xs[j']? = some y' → emI (bV x' y') = false)) (fun i _ => n - (intOf i).toNat)
  case atStart => exact ⟨0, by omega, by first | rfl | go_num, Kept.refl _, fun _ _ _ _ _ h => absurd h (Nat.not_lt_zero _)⟩
  case round =>
    obtain ⟨wa, rfl⟩ : ∃ wa, wa = wr := ⟨_, rfl⟩
    obtain ⟨k, hk, rfl, hkw, hno⟩ := hrel
    have HNO := Lib.hid hno
    have KW := Lib.hid hkw
    clear hno
    by_cases hlt2 : k < n
    · obtain ⟨b, off, hA, htab⟩ := HT.out.2.2.2 (by omega)
      subst hA
      have hxl : k < xs.length := by rw [HT.out.1]; exact hlt2
      obtain ⟨x, hx⟩ : ∃ x, xs[k]? = some x := ⟨xs[k]'hxl, List.getElem?_eq_getElem hxl⟩
      have HX := Lib.hid hx
      have HTAB := Lib.hid htab
      have q0 := (hkw.cells _ _ (cell_lt (htab k x hx 0 _ rfl))).trans (htab k x hx 0 _ rfl)
      have q1 := (hkw.cells _ _ (cell_lt (htab k x hx 1 _ rfl))).trans (htab k x hx 1 _ rfl)
      have q2 := (hkw.cells _ _ (cell_lt (htab k x hx 2 _ rfl))).trans (htab k x hx 2 _ rfl)
      simp only [Nat.add_zero] at q0
      obtain ⟨xl, xh, xo⟩ := x
      dsimp only at q0 q1 q2
      clear htab hx hkw
      have hi0 : (0 : Int) ≤ (k : Int) := by omega
      have hi1 : (k : Int) < (n : Int) := by omega
      have hi2 : (k : Int) ≤ (n : Int) := by omega
      have hi3 : (k : Int) ≤ (c : Int) := by omega
      have hi4 : k ≤ n := by omega
      have hi5 : k ≤ c := by omega
      go_upto_region 5 with (fail)
      obtain ⟨p, hp⟩ : ∃ p, p = n - k := ⟨_, rfl⟩
      obtain ⟨c2, hc2⟩ : ∃ c2, c2 = c - k := ⟨_, rfl⟩
      obtain ⟨W1, hW1⟩ : ∃ W1, W1 = wa.alloc (.cells #[.int .i64 xl, .int .i64 xh, .bool xo] 83) := ⟨_, rfl⟩
      have k1 : Kept wa W1 := by rw [hW1]; exact (Kept.refl _).alloc _
      have R1 : RowKit.Hid (RowC W1 wa.heap.size [.int .i64 xl, .int .i64 xh, .bool xo]) := Lib.hid (by rw [hW1]; exact RowC.new wa [.int .i64 xl, .int .i64 xh, .bool xo] 83)
      rw [← hp, ← hc2, ← hW1]
      have HP := Lib.hid hp
      have hp2 : p ≤ c2 := by omega
      have hp3 : c2 ≤ 9223372036854775807 := by omega
      have hp4 : p ≤ 1000000 := by omega
      have K1 := Lib.hid k1
      clear hp hc2 hW1 k1 q0 q1 q2 hi0 hi1 hi2 hi3 hi4 hi5
      go_loopw [18] (fun i wr => ∃ j : Nat, j ≤ p ∧ i = .int .i64 j ∧ Kept W1 wr ∧ (∀ (j' : Nat) (y : Iv), j' < j → xs[k + j']? = some y → emI (bV ⟨xl, xh, xo⟩ y) = false)) (fun i _ => p - (intOf i).toNat)
      case atStart => exact ⟨0, by omega, by first | rfl | go_num, Kept.refl _, fun _ _ h => absurd h (Nat.not_lt_zero _)⟩
      case round =>
        obtain ⟨j, hj, rfl, hkr, hin⟩ := hrel
        have HIN := Lib.hid hin
        have HKR := Lib.hid hkr
        have e0 := (R1.out.kept hkr 0 _ rfl).1
        have e1 := (R1.out.kept hkr 1 _ rfl).1
        have e2 := (R1.out.kept hkr 2 _ rfl).1
        have le := cell_lt e0
        clear hin
        by_cases hlt3 : j < p
        · have hyl : k + j < xs.length := by rw [HT.out.1]; have := HP.out; omega
          obtain ⟨y, hy⟩ : ∃ y, xs[k + j]? = some y := ⟨xs[k + j]'hyl, List.getElem?_eq_getElem hyl⟩
          have HY := Lib.hid hy
          have kk := (KW.out.trans K1.out).trans hkr
          have q0 := (kk.cells _ _ (cell_lt (HTAB.out (k + j) y hy 0 _ rfl))).trans (HTAB.out (k + j) y hy 0 _ rfl)
          have q1 := (kk.cells _ _ (cell_lt (HTAB.out (k + j) y hy 1 _ rfl))).trans (HTAB.out (k + j) y hy 1 _ rfl)
          have q2 := (kk.cells _ _ (cell_lt (HTAB.out (k + j) y hy 2 _ rfl))).trans (HTAB.out (k + j) y hy 2 _ rfl)
          rw [show off + (k + j) * 3 + 0 = off + k * 3 + j * 3 by omega] at q0
          rw [show off + (k + j) * 3 + 1 = off + k * 3 + j * 3 + 1 by omega] at q1
          rw [show off + (k + j) * 3 + 2 = off + k * 3 + j * 3 + 2 by omega] at q2
          obtain ⟨yl, yh, yo⟩ := y
          dsimp only at q0 q1 q2
          clear hy kk hkr
          have hj0 : (0 : Int) ≤ (j : Int) := by omega
          have hj1 : (j : Int) < (p : Int) := by omega
          obtain ⟨⟨ga, gb, gs⟩, hG⟩ : ∃ G : Iv, G = bV ⟨xl, xh, xo⟩ ⟨yl, yh, yo⟩ := ⟨_, rfl⟩
          have HC : RowKit.Hid (∀ W, Calls Try.prog 85 #[.agg #[.int .i64 xl, .int .i64 xh, .bool xo], .agg #[.int .i64 yl, .int .i64 yh, .bool yo]] W fun e w' => e = .returned (.agg #[.int .i64 ga, .int .i64 gb, .bool gs]) ∧ Kept W w') := Lib.hid (fun W => by
            have := spanBoth_any xl xh xo yl yh yo W
            unfold bV at hG
            injection hG with h1 h2 h3
            dsimp only at h1 h2 h3
            rwa [← h1, ← h2, ← h3] at this)
          obtain ⟨em, hem⟩ : ∃ em, em = empB ga gb gs := ⟨_, rfl⟩
          have HE : RowKit.Hid (∀ W, Calls Try.prog 78 #[.agg #[.int .i64 ga, .int .i64 gb, .bool gs]] W fun e w' => e = .returned (.bool em) ∧ Kept W w') := Lib.hid (fun W => empty_b ga gb gs em hem.symm W)
          have HEM : RowKit.Hid (emI (bV ⟨xl, xh, xo⟩ ⟨yl, yh, yo⟩) = em) := Lib.hid (by rw [← hG, hem]; rfl)
          clear hG hem
          have hwk : IntKind.i64.wrap ((k : Int) + (j : Int)) = (k : Int) + (j : Int) := IntWalk.i64_in _ (by omega)
          go_wp2_with fail
          refine (HC.out _).mono ?_
          rintro e w5 ⟨rfl, hk5⟩
          go_wp2_with fail
          refine (HE.out _).mono ?_
          rintro e w6 ⟨rfl, hk6⟩
          have K6 := Lib.hid ((HKR.out.trans ((Kept.refl _).alloc (.cells #[.int .i64 yl, .int .i64 yh, .bool yo] 83))).trans (hk5.trans hk6))
          clear hk5 hk6 e0 e1 e2 q0 q1 q2
          cases em
          · go_wp2
            go_roundw
            case rel =>
              refine ⟨j + 1, by omega, by go_num, K6.out, fun j' y' hj' hy' => ?_⟩
              rcases Nat.lt_or_eq_of_le (Nat.le_of_lt_succ hj') with h | h
              · exact HIN.out j' y' h hy'
              · subst h
                rw [HY.out] at hy'
                cases hy'
                exact HEM.out
            case measure => simp [intOf] <;> omega
          · go_wp2
            go_ret
            refine ⟨[(k : Int), (k : Int) + (j : Int)], _, 2, 2, rfl, two_any _ _ _ _ (RowC.new w6 [.int .i64 k, .int .i64 ((k : Int) + (j : Int))] 3), .inl ⟨k, k + j, _, _, by simp, by omega, HX.out, HY.out, HEM.out, ?_⟩, (fun a ha => by cases ha; exact ((KW.out.trans K1.out).trans K6.out).size), (((KW.out.trans K1.out).trans K6.out).alloc _)⟩
            rintro i' j' x' y' hij (h | ⟨rfl, h⟩) hx' hy'
            · exact HNO.out i' j' x' y' hij h hx' hy'
            · rw [HX.out] at hx'
              cases hx'
              obtain ⟨d, rfl⟩ : ∃ d, j' = i' + d := ⟨j' - i', by omega⟩
              exact HIN.out d y' (by omega) hy'
        · obtain rfl : j = p := by omega
          clear hkr e0 e1 e2
          go_wp2
          go_roundw
          case rel =>
            refine ⟨k + 1, by omega, by go_num, (KW.out.trans K1.out).trans HKR.out, fun i' j' x' y' hij hi' hx' hy' => ?_⟩
            rcases Nat.lt_or_eq_of_le (Nat.le_of_lt_succ hi') with h | h
            · exact HNO.out i' j' x' y' hij h hx' hy'
            · subst h
              rw [HX.out] at hx'
              cases hx'
              obtain ⟨d, rfl⟩ : ∃ d, j' = i' + d := ⟨j' - i', by omega⟩
              have h1 := (List.getElem?_eq_some_iff.1 hy').1
              rw [HT.out.1] at h1
              exact HIN.out d y' (by have := HP.out; omega) hy'
          case measure => simp [intOf] <;> omega
    · obtain rfl : k = n := by omega
      go_wp2
      go_ret
      refine ⟨[], none, 0, 0, rfl, IntA.nil _, .inr ⟨rfl, fun i j x y hij hx hy => HNO.out i j x y hij ?_ hx hy⟩, (fun a ha => by cases ha), KW.out⟩
      have := (List.getElem?_eq_some_iff.1 hx).1
      rw [HT.out.1] at this
      exact this
end Go.Proofs.Ytjaicilnlgjdcaa
