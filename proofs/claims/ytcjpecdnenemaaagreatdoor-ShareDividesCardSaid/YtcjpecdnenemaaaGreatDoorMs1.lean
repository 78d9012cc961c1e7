/- slices' swapRange and rotate, over a row of ints -/
import Derived.Test.YtcjpecdnenemaaaGreatDoorGN
import Derived.Deep.DeepCutAuto
import Derived.BigRegion
namespace Go.Proofs.YtcjpecdnenemaaaGreatDoor
set_option linter.all false
open Go.RowKit Go.Shelf

theorem natV_len (l : List Nat) : (natV l).length = l.length := by simp [natV]
theorem natV_app (a b : List Nat) : natV (a ++ b) = natV a ++ natV b := by simp [natV]
/-- what a step leaves: block g holds l', all other blocks lie as they lay -/
def Stp (g : Nat) (w : World) (l : List Nat) (w' : World) : Prop := But g w w' ∧ RowC w' g (natV l)
theorem Stp.trans {g : Nat} {a b c : World} {l l' : List Nat} (h : Stp g a l b) (k : Stp g b l' c) : Stp g a l' c := ⟨h.1.trans k.1, k.2⟩
theorem Stp.drew {g : Nat} {a b : World} {l : List Nat} (h : Stp g a l b) : Stp g a l b.drew := ⟨h.1.trans (But.of_kept ((Kept.refl b).drew)), h.2.drew⟩
theorem Stp.drewN {g : Nat} {a b : World} {l : List Nat} (h : Stp g a l b) (q : Nat) : Stp g a l (b.drewN q) := ⟨h.1.trans (But.of_kept ((Kept.refl b).drewN q)), h.2.drewN q⟩
theorem swap_set (L R : List Nat) (M : List Nat) (u v : Nat) (x y : Nat) (hx : L.length = x) (hy : x + 1 + M.length = y) :
    ((natV (L ++ u :: (M ++ v :: R))).set x (.int .i64 (v : Int))).set y (.int .i64 (u : Int)) = natV (L ++ v :: (M ++ u :: R)) := by
  subst hx; subst hy
  simp [natV, List.set_append, List.set_cons_succ]
  have e : L.length + 1 + M.length - L.length = M.length + 1 := by omega
  rw [e]
  simp [List.set_append]
  intro h
  omega
theorem Stp.swap {g : Nat} {w W : World} {L M R : List Nat} {u v : Nat} (h : Stp g w (L ++ u :: (M ++ v :: R)) W) (x y : Nat) (hx : L.length = x) (hy : x + 1 + M.length = y) :
    Stp g w (L ++ v :: (M ++ u :: R)) ((W.setCell ⟨g, x, none⟩ (.int .i64 (v : Int))).setCell ⟨g, y, none⟩ (.int .i64 (u : Int))) := by
  refine ⟨(h.1.set x _).set y _, ?_⟩
  rw [← swap_set L R M u v x y hx hy]
  refine (h.2.put (j := x) ?_ _).put (j := y) ?_ _
  · rw [natV_len]; simp; omega
  · rw [List.length_set, natV_len]; simp; omega
theorem Stp.at {g : Nat} {w W : World} {l : List Nat} (h : Stp g w l W) {j o : Nat} (hj : l[j]? = some o) : W.cell? ⟨g, j, none⟩ = some (.int .i64 (o : Int)) ∧ W.frozen? ⟨g, j, none⟩ = false := h.2 j _ (natV_at hj)

set_option maxRecDepth 100000 in
set_option maxHeartbeats 3200000 in
theorem swapRange_any (g n c : Nat) (cf : Value) (P A M B S : List Nat) (hAB : A.length = B.length) (a b : Nat) (ha : P.length = a) (hb : a + A.length + M.length = b) (hn : b + B.length + S.length = n) (hnc : n ≤ c) (hc : c ≤ 1000) (w : World) (hr : RowC w g (natV (P ++ A ++ M ++ B ++ S))) :
    Calls Tryz.prog 251 #[.slice (some ⟨g, 0, none⟩) n c, .int .i64 a, .int .i64 b, .int .i64 A.length, cf] w fun e w' => e = .returned (.tuple #[]) ∧ Stp g w (P ++ B ++ M ++ A ++ S) w' := by
  have HR := Lib.hid hr
  clear hr
  go_enter Tryz.func251, Tryz.ntmps251
  go_wp2_with fail
  go_loopw [10] (fun i wr => ∃ k : Nat, k ≤ A.length ∧ i = .int .i64 k ∧ Stp g w (P ++ (B.take k ++ A.drop k) ++ M ++ (A.take k ++ B.drop k) ++ S) wr) (fun i _ => A.length - (intOf i).toNat)
  case atStart => exact ⟨0, by omega, by first | rfl | go_num, But.of_kept (Kept.refl _), by simpa using HR.out⟩
  case round =>
    obtain ⟨k, hk, rfl, hst⟩ := hrel
    by_cases hlt : k < A.length
    · obtain ⟨u, hu⟩ : ∃ u, A[k]? = some u := ⟨A[k], List.getElem?_eq_getElem hlt⟩
      obtain ⟨v, hv⟩ : ∃ v, B[k]? = some v := ⟨B[k]'(by omega), List.getElem?_eq_getElem (by omega)⟩
      have e1 : P ++ (B.take k ++ A.drop k) ++ M ++ (A.take k ++ B.drop k) ++ S = (P ++ B.take k) ++ u :: ((A.drop (k + 1) ++ M ++ A.take k) ++ v :: (B.drop (k + 1) ++ S)) := by
        rw [List.drop_eq_getElem_cons hlt, List.drop_eq_getElem_cons (show k < B.length by omega)]
        rw [List.getElem?_eq_getElem hlt] at hu
        rw [List.getElem?_eq_getElem (show k < B.length by omega)] at hv
        injection hu with hu; injection hv with hv
        rw [hu, hv]
        simp
      have e2 : (P ++ B.take k) ++ v :: ((A.drop (k + 1) ++ M ++ A.take k) ++ u :: (B.drop (k + 1) ++ S)) = P ++ (B.take (k + 1) ++ A.drop (k + 1)) ++ M ++ (A.take (k + 1) ++ B.drop (k + 1)) ++ S := by
        rw [List.take_succ, List.take_succ, hu, hv]
        simp
      rw [e1] at hst
      have hx : (P ++ B.take k).length = a + k := by rw [List.length_append, List.length_take]; omega
      have hy : a + k + 1 + (A.drop (k + 1) ++ M ++ A.take k).length = b + k := by simp; omega
      have hS := fun W (h : Stp g w _ W) => Stp.swap (g := g) (w := w) (W := W) (L := P ++ B.take k) (M := A.drop (k + 1) ++ M ++ A.take k) (R := B.drop (k + 1) ++ S) (u := u) (v := v) h (a + k) (b + k) hx hy
      rw [e2] at hS
      have c1 := hst.at (j := a + k) (o := u) (by rw [List.getElem?_append_right (by omega), hx, Nat.sub_self]; rfl)
      have c2 := hst.at (j := b + k) (o := v) (by
        rw [List.getElem?_append_right (by omega), hx, show b + k - (a + k) = (A.drop (k + 1) ++ M ++ A.take k).length + 1 by omega, List.getElem?_cons_succ, List.getElem?_append_right (Nat.le_refl _), Nat.sub_self]; rfl)
      obtain ⟨c1, f1⟩ := c1
      obtain ⟨c2, f2⟩ := c2
      have lx := cell_lt c1
      have HST := Lib.hid hst
      have HS := Lib.hid hS
      have w1 : IntKind.i64.wrap ((a : Int) + (k : Int)) = (a : Int) + (k : Int) := IntWalk.i64_in _ (by omega)
      have w2 : IntKind.i64.wrap ((b : Int) + (k : Int)) = (b : Int) + (k : Int) := IntWalk.i64_in _ (by omega)
      have i1 : (0 : Int) ≤ (a : Int) + (k : Int) := by omega
      have i2 : (a : Int) + (k : Int) < (n : Int) := by omega
      have i3 : (0 : Int) ≤ (b : Int) + (k : Int) := by omega
      have i4 : (b : Int) + (k : Int) < (n : Int) := by omega
      have t1 : ((a : Int) + (k : Int)).toNat = a + k := by omega
      have t2 : ((b : Int) + (k : Int)).toNat = b + k := by omega
      have hne : a + k ≠ b + k := by omega
      clear hst hS e1 e2 hx hy hu hv
      go_upto_region 3 with (fail)
      go_region
      all_goals
        go_wp2
        go_roundw
        case rel =>
          refine ⟨k + 1, by omega, by go_num, ?_⟩
          exact (HS.out _ HST.out).drew
        case measure => simp [intOf]; omega
    · obtain rfl : k = A.length := by omega
      go_wp2
      go_end0
      refine ⟨rfl, ?_⟩
      have h := hst
      rw [List.take_length, List.drop_length, hAB, List.take_length, List.drop_length] at h
      simpa using h

theorem take_drop_of {α : Type} (l : List α) (k : Nat) : ∃ x y, l = x ++ y ∧ x = l.take k ∧ y = l.drop k := ⟨_, _, (List.take_append_drop k l).symm, rfl, rfl⟩
set_option maxRecDepth 100000 in
set_option maxHeartbeats 6400000 in
theorem rotate_any (g n c : Nat) (cf : Value) (P X Y S : List Nat) (a m b : Nat) (ha : P.length = a) (hm : a + X.length = m) (hb : m + Y.length = b) (hn : b + S.length = n) (hX : 0 < X.length) (hY : 0 < Y.length) (hnc : n ≤ c) (hc : c ≤ 1000) (w : World) (hr : RowC w g (natV (P ++ X ++ Y ++ S))) :
    Calls Tryz.prog 232 #[.slice (some ⟨g, 0, none⟩) n c, .int .i64 a, .int .i64 m, .int .i64 b, cf] w fun e w' => e = .returned (.tuple #[]) ∧ Stp g w (P ++ Y ++ X ++ S) w' := by
  obtain ⟨G, hG⟩ : ∃ G, G = P ++ Y ++ X ++ S := ⟨_, rfl⟩
  rw [← hG]
  have HG := Lib.hid hG
  have HR := Lib.hid hr
  obtain ⟨nX, hnX⟩ : ∃ nX, nX = X.length := ⟨_, rfl⟩
  obtain ⟨nY, hnY⟩ : ∃ nY, nY = Y.length := ⟨_, rfl⟩
  have v1 : IntKind.i64.wrap ((m : Int) - (a : Int)) = (nX : Int) := by rw [show (m : Int) - (a : Int) = (nX : Int) by omega]; exact IntWalk.i64_in _ (by omega)
  have v2 : IntKind.i64.wrap ((b : Int) - (m : Int)) = (nY : Int) := by rw [show (b : Int) - (m : Int) = (nY : Int) by omega]; exact IntWalk.i64_in _ (by omega)
  have HNX := Lib.hid hnX
  have HNY := Lib.hid hnY
  clear hr hG hnX hnY
  go_enter Tryz.func232, Tryz.ntmps232
  go_wp2_with fail
  go_loopw [10, 11] (fun i j wr => ∃ (P1 A B S1 : List Nat), i = .int .i64 A.length ∧ j = .int .i64 B.length ∧ 0 < A.length ∧ 0 < B.length ∧ P1.length + A.length = m ∧ m + B.length + S1.length = n ∧ P1 ++ B ++ A ++ S1 = G ∧ Stp g w (P1 ++ A ++ B ++ S1) wr) (fun i j _ => (intOf i).toNat + (intOf j).toNat)
  case atStart => exact ⟨P, X, Y, S, by rw [← HNX.out], by rw [← HNY.out], hX, hY, by omega, by omega, HG.out.symm, But.of_kept (Kept.refl _), HR.out⟩
  case round =>
    obtain ⟨P1, A, B, S1, rfl, rfl, hA, hB, hPm, hBn, hres, hst⟩ := hrel
    have HST := Lib.hid hst
    have HRES := Lib.hid hres
    clear hst hres
    obtain ⟨la, hla⟩ : ∃ la, la = A.length := ⟨_, rfl⟩
    obtain ⟨lb, hlb⟩ : ∃ lb, lb = B.length := ⟨_, rfl⟩
    have u1 : IntKind.i64.wrap ((m : Int) - (la : Int)) = (P1.length : Int) := by rw [show (m : Int) - (la : Int) = (P1.length : Int) by omega]; exact IntWalk.i64_in _ (by omega)
    have HLA := Lib.hid hla
    have HLB := Lib.hid hlb
    rw [← hla, ← hlb]
    rw [← hla] at hA hPm
    rw [← hlb] at hB hBn
    by_cases hgt : lb < la
    · have hA1 : (A.take lb).length = lb := by rw [List.length_take]; omega
      have hA2 : (A.drop lb).length = la - lb := by rw [List.length_drop]; omega
      have hAA : A = A.take lb ++ A.drop lb := (List.take_append_drop lb A).symm
      obtain ⟨A1, hA1'⟩ : ∃ A1, A1 = A.take lb := ⟨_, rfl⟩
      obtain ⟨A2, hA2'⟩ : ∃ A2, A2 = A.drop lb := ⟨_, rfl⟩
      rw [← hA1'] at hA1 hAA
      rw [← hA2'] at hA2 hAA
      have HC : RowKit.Hid (Calls Tryz.prog 251 #[.slice (some ⟨g, 0, none⟩) n c, .int .i64 P1.length, .int .i64 m, .int .i64 lb, cf] wr fun e w' => e = .returned (.tuple #[]) ∧ Stp g wr (P1 ++ B ++ A2 ++ A1 ++ S1) w') := Lib.hid (by
        have h := swapRange_any g n c cf P1 A1 A2 B S1 (by omega) P1.length m rfl (by omega) (by omega) hnc hc wr (by have := HST.out.2; rw [hAA] at this; simpa using this)
        rw [hA1] at h
        exact h)
      have HG2 : RowKit.Hid (P1 ++ B ++ A1 ++ A2 ++ S1 = G) := Lib.hid (by have := HRES.out; rw [hAA] at this; simpa using this)
      have c1 : ((la : Int) != (lb : Int)) = true := by simp; omega
      have c2 : decide ((lb : Int) < (la : Int)) = true := decide_eq_true (by omega)
      have u2 : IntKind.i64.wrap ((la : Int) - (lb : Int)) = (A2.length : Int) := by rw [show (la : Int) - (lb : Int) = (A2.length : Int) by omega]; exact IntWalk.i64_in _ (by omega)
      have HA1 := Lib.hid hA1
      have HA2 := Lib.hid hA2
      clear hA1' hA2' hAA hA1 hA2 hla hlb
      go_wp2_with fail
      with_reducible refine HC.out.mono ?_
      rintro e w1 ⟨rfl, hs1⟩
      have HS1 := Lib.hid hs1
      clear hs1
      go_wp2
      have hA1 := HA1.out
      have hA2 := HA2.out
      have hla := HLA.out
      have hlb := HLB.out
      go_roundw
      case rel =>
        refine ⟨P1 ++ B, A2, A1, S1, rfl, by rw [hA1], by omega, by omega, by rw [List.length_append]; omega, by omega, by simpa using HG2.out, ?_⟩
        have h := HST.out.trans HS1.out
        simpa using h
      case measure => simp [intOf]; omega
    by_cases hlt : la < lb
    · have hB1 : (B.take (lb - la)).length = lb - la := by rw [List.length_take]; omega
      have hB2 : (B.drop (lb - la)).length = la := by rw [List.length_drop]; omega
      have hBB : B = B.take (lb - la) ++ B.drop (lb - la) := (List.take_append_drop (lb - la) B).symm
      obtain ⟨B1, hB1'⟩ : ∃ B1, B1 = B.take (lb - la) := ⟨_, rfl⟩
      obtain ⟨B2, hB2'⟩ : ∃ B2, B2 = B.drop (lb - la) := ⟨_, rfl⟩
      rw [← hB1'] at hB1 hBB
      rw [← hB2'] at hB2 hBB
      obtain ⟨mb, hmb⟩ : ∃ mb, mb = m + B1.length := ⟨_, rfl⟩
      have HC : RowKit.Hid (Calls Tryz.prog 251 #[.slice (some ⟨g, 0, none⟩) n c, .int .i64 P1.length, .int .i64 mb, .int .i64 la, cf] wr fun e w' => e = .returned (.tuple #[]) ∧ Stp g wr (P1 ++ B2 ++ B1 ++ A ++ S1) w') := Lib.hid (by
        have h := swapRange_any g n c cf P1 A B1 B2 S1 (by omega) P1.length mb rfl (by omega) (by omega) hnc hc wr (by have := HST.out.2; rw [hBB] at this; simpa using this)
        rw [← hla] at h
        exact h)
      have HG2 : RowKit.Hid (P1 ++ B1 ++ B2 ++ A ++ S1 = G) := Lib.hid (by have := HRES.out; rw [hBB] at this; simpa using this)
      have c1 : ((la : Int) != (lb : Int)) = true := by simp; omega
      have c2 : decide ((lb : Int) < (la : Int)) = false := decide_eq_false (by omega)
      have u2 : IntKind.i64.wrap ((lb : Int) - (la : Int)) = (B1.length : Int) := by rw [show (lb : Int) - (la : Int) = (B1.length : Int) by omega]; exact IntWalk.i64_in _ (by omega)
      have u3 : IntKind.i64.wrap ((m : Int) + (lb : Int)) = (m : Int) + (lb : Int) := IntWalk.i64_in _ (by omega)
      have u4 : IntKind.i64.wrap ((m : Int) + (lb : Int) - (la : Int)) = (mb : Int) := by rw [show (m : Int) + (lb : Int) - (la : Int) = (mb : Int) by omega]; exact IntWalk.i64_in _ (by omega)
      have HB1 := Lib.hid hB1
      have HB2 := Lib.hid hB2
      have HMB := Lib.hid hmb
      clear hB1' hB2' hBB hB1 hB2 hmb hla hlb
      go_wp2_with fail
      with_reducible refine HC.out.mono ?_
      rintro e w1 ⟨rfl, hs1⟩
      have HS1 := Lib.hid hs1
      clear hs1
      go_wp2
      have hB1 := HB1.out
      have hB2 := HB2.out
      have hla := HLA.out
      have hlb := HLB.out
      go_roundw
      case rel =>
        refine ⟨P1, B2, B1, A ++ S1, by rw [hB2], rfl, by omega, by omega, by omega, by rw [List.length_append]; omega, by simpa using HG2.out, ?_⟩
        have h := HST.out.trans HS1.out
        simpa using h
      case measure => simp [intOf]; omega
    obtain rfl : la = lb := by omega
    have HC : RowKit.Hid (Calls Tryz.prog 251 #[.slice (some ⟨g, 0, none⟩) n c, .int .i64 P1.length, .int .i64 m, .int .i64 la, cf] wr fun e w' => e = .returned (.tuple #[]) ∧ Stp g wr (P1 ++ B ++ A ++ S1) w') := Lib.hid (by
      have h := swapRange_any g n c cf P1 A [] B S1 (by omega) P1.length m rfl (by simp; omega) (by omega) hnc hc wr (by simpa using HST.out.2)
      rw [← hla] at h
      simpa using h)
    have c1 : ((la : Int) != (la : Int)) = false := by simp
    clear hla hlb
    go_wp2_with fail
    with_reducible refine HC.out.mono ?_
    rintro e w1 ⟨rfl, hs1⟩
    have HS1 := Lib.hid hs1
    clear hs1
    go_wp2
    go_end0
    refine ⟨rfl, ?_⟩
    rw [← HRES.out]
    exact HST.out.trans HS1.out
end Go.Proofs.YtcjpecdnenemaaaGreatDoor
