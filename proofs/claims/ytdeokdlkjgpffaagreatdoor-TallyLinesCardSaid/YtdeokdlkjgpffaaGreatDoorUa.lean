/- CheckRecounts, check, asks -/
import Derived.Test.YtdeokdlkjgpffaaGreatDoorTo
import Derived.Test.YtdeokdlkjgpffaaGreatDoorTf
import Derived.Test.YtdeokdlkjgpffaaGreatDoorTl
namespace Go.Proofs.YtdeokdlkjgpffaaGreatDoor
set_option linter.all false
open Go.RowKit Go.Shelf

def rcB (x : Rcn) : Bool := recountB x.id x.dy x.kn x.sh x.tr x.nu
/-- the index of the first re-count that is refused, and why -/
def crFrom (i : Nat) (id kn : Int) : List Rcn → Int × Int
  | [] => (0, 0)
  | x :: xs => if i = 200 then ((i : Int), 2) else if rcB x = false ∨ x.id ≤ id then ((i : Int), 1) else if x.kn < kn then ((i : Int), 7) else crFrom (i + 1) x.id x.kn xs
def crI (xs : List Rcn) : Int × Int := crFrom 0 0 0 xs
theorem drop_at {α : Type} {xs : List α} {k : Nat} {x : α} (h : xs[k]? = some x) : xs.drop k = x :: xs.drop (k + 1) := by
  obtain ⟨hk, hx⟩ := List.getElem?_eq_some_iff.1 h
  rw [List.drop_eq_getElem_cons hk, hx]

theorem ret_pr {p q : Int × Int} (h : p = q) : Ending.returned (.tuple #[.int .i64 p.1, .int .i64 p.2]) = .returned (.tuple #[.int .i64 q.1, .int .i64 q.2]) := by rw [h]

set_option maxRecDepth 100000 in
theorem checkRecounts_any (A : Option Addr) (n c : Nat) (xs : List Rcn) (w : World) (hT : RcA w A n c xs) (hlt : n ≤ 1000000) :
    Calls Tryz.prog 63 #[.slice A n c] w fun e w' => e = .returned (.tuple #[.int .i64 (crI xs).1, .int .i64 (crI xs).2]) ∧ Kept w w' := by
  have HT := Lib.hid hT
  clear hT
  go_enter Tryz.func63, Tryz.ntmps63
  go_wp2_with fail
  go_loopw [9] (fun i w1 => ∃ (j : Nat) (y : Rcn), j ≤ n ∧ i = .int .i64 j ∧ Kept w w1 ∧ w.heap.size < w1.heap.size ∧ RowC w1 w.heap.size (rcCells y) ∧ crI xs = crFrom j y.id y.kn (xs.drop j)) (fun i _ => n - (intOf i).toNat)
  case atStart => exact ⟨0, ⟨0, 0, 0, 0, 0, 0⟩, by omega, by first | rfl | go_num, (Kept.refl _).alloc _, by simp, RowC.new w _ _, rfl⟩
  case round =>
    obtain ⟨j, y, hj, rfl, hk1, hz, hrow, hcr⟩ := hrel
    have HC := Lib.hid hcr
    clear hcr
    by_cases hlt2 : j < n
    · obtain ⟨b, off, hA, htab⟩ := HT.out.2.2.2 (by omega)
      subst hA
      have hxl : j < xs.length := by rw [HT.out.1]; exact hlt2
      obtain ⟨x, hx⟩ : ∃ x, xs[j]? = some x := ⟨xs[j]'hxl, List.getElem?_eq_getElem hxl⟩
      obtain ⟨q0, q1, q2, q3, q4, q5⟩ := (htab j x hx).kept hk1
      have hb := (htab j x hx).lt
      have HD : RowKit.Hid (crI xs = crFrom j y.id y.kn (x :: xs.drop (j + 1))) := Lib.hid (by rw [HC.out, drop_at hx])
      clear hx htab HC
      have y0 := (hrow 0 _ rfl).1
      have y2 := (hrow 2 _ rfl).1
      have Y := Lib.hid hrow
      clear hrow
      by_cases h200 : j = 200
      · subst h200
        have HS : RowKit.Hid (crI xs = ((200 : Int), 2)) := Lib.hid (by rw [HD.out]; rfl)
        clear HD
        go_wp2
        go_ret2
        exact ⟨(ret_pr HS.out).symm, hk1.alloc _⟩
      · have HT3 : RowKit.Hid (∀ (W : World), Kept w W → W.cell? ⟨w.heap.size, 0, none⟩ = some (.int .i64 y.id) → True) := Lib.hid (fun _ _ _ => trivial)
        clear HT3
        rcases hrb : rcB x with _ | _
        · have HS : RowKit.Hid (crI xs = ((j : Int), 1)) := Lib.hid (by rw [HD.out]; simp [crFrom, h200, hrb])
          have HR := Lib.hid hrb
          clear HD hrb
          go_wp2_with (go_at_call 30; refine (isRecount_any _ _ _ _ _ _ _).mono ?_; rintro e w3 ⟨rfl, hk3⟩; have hr2 : recountB x.id x.dy x.kn x.sh x.tr x.nu = false := HR.out; rw [hr2])
          go_ret2
          exact ⟨(ret_pr HS.out).symm, (hk1.alloc _).trans hk3⟩
        · have HR := Lib.hid hrb
          clear hrb
          by_cases hid : x.id ≤ y.id
          · have HS : RowKit.Hid (crI xs = ((j : Int), 1)) := Lib.hid (by rw [HD.out]; simp [crFrom, h200, HR.out, hid])
            clear HD
            have hlz : w.heap.size < wr.heap.size := hz
            go_wp2_with (go_at_call 30; refine (isRecount_any _ _ _ _ _ _ _).mono ?_; rintro e w3 ⟨rfl, hk3⟩; have hr2 : recountB x.id x.dy x.kn x.sh x.tr x.nu = true := HR.out; rw [hr2]; obtain ⟨hc3, hf3, hz3⟩ := hk3.facts)
            go_ret2
            exact ⟨(ret_pr HS.out).symm, (hk1.alloc _).trans hk3⟩
          · have hlz : w.heap.size < wr.heap.size := hz
            by_cases hkn : x.kn < y.kn
            · have HS : RowKit.Hid (crI xs = ((j : Int), 7)) := Lib.hid (by rw [HD.out]; simp [crFrom, h200, HR.out, hid, hkn])
              clear HD
              go_wp2_with (go_at_call 30; refine (isRecount_any _ _ _ _ _ _ _).mono ?_; rintro e w3 ⟨rfl, hk3⟩; have hr2 : recountB x.id x.dy x.kn x.sh x.tr x.nu = true := HR.out; rw [hr2]; obtain ⟨hc3, hf3, hz3⟩ := hk3.facts)
              go_ret2
              exact ⟨(ret_pr HS.out).symm, (hk1.alloc _).trans hk3⟩
            · have HS : RowKit.Hid (crI xs = crFrom (j + 1) x.id x.kn (xs.drop (j + 1))) := Lib.hid (by rw [HD.out]; simp [crFrom, h200, HR.out, hid, hkn])
              clear HD
              have y1 := (Y.out 1 _ rfl).1
              have y3 := (Y.out 3 _ rfl).1
              have y4 := (Y.out 4 _ rfl).1
              have y5 := (Y.out 5 _ rfl).1
              have f0 := (Y.out 0 _ rfl).2
              have f1 := (Y.out 1 _ rfl).2
              have f2 := (Y.out 2 _ rfl).2
              have f3 := (Y.out 3 _ rfl).2
              have f4 := (Y.out 4 _ rfl).2
              have f5 := (Y.out 5 _ rfl).2
              go_wp2_with (go_at_call 30; refine (isRecount_any _ _ _ _ _ _ _).mono ?_; rintro e w3 ⟨rfl, hk3⟩; have hr2 : recountB x.id x.dy x.kn x.sh x.tr x.nu = true := HR.out; rw [hr2]; obtain ⟨hc3, hf3, hz3⟩ := hk3.facts)
              have kk := (hk1.alloc (.cells #[.int .i64 x.id, .int .i64 x.dy, .int .i64 x.kn, .int .i64 x.sh, .int .i64 x.tr, .int .i64 x.nu] 25)).trans hk3
              have row := Y.out.kept (((Kept.refl wr).alloc (.cells #[.int .i64 x.id, .int .i64 x.dy, .int .i64 x.kn, .int .i64 x.sh, .int .i64 x.tr, .int .i64 x.nu] 25)).trans hk3)
              go_roundw
              case rel => exact ⟨j + 1, x, by omega, by go_num, (((((kk.setCell (p := ⟨w.heap.size, 0, none⟩) (Nat.le_refl _) _).setCell (p := ⟨w.heap.size, 1, none⟩) (Nat.le_refl _) _).setCell (p := ⟨w.heap.size, 2, none⟩) (Nat.le_refl _) _).setCell (p := ⟨w.heap.size, 3, none⟩) (Nat.le_refl _) _).setCell (p := ⟨w.heap.size, 4, none⟩) (Nat.le_refl _) _).setCell (p := ⟨w.heap.size, 5, none⟩) (Nat.le_refl _) _, by simp at hz3 ⊢; omega, (((((row.put (j := 0) (by simp [rcCells]) _).put (j := 1) (by simp [rcCells]) _).put (j := 2) (by simp [rcCells]) _).put (j := 3) (by simp [rcCells]) _).put (j := 4) (by simp [rcCells]) _).put (j := 5) (by simp [rcCells]) _, HS.out⟩
              case measure => simp [intOf]; omega
    · obtain rfl : j = n := by omega
      have HS : RowKit.Hid (crI xs = ((0 : Int), 0)) := Lib.hid (by rw [HC.out, List.drop_eq_nil_of_le (by rw [HT.out.1]; exact Nat.le_refl _)]; rfl)
      clear HC
      go_wp2
      go_ret2
      exact ⟨(ret_pr HS.out).symm, hk1⟩

/-- why a rate or re-counts are not valid -/
def chkI (m d : Int) (xs : List Rcn) : Int := if rateB m d = true then (crI xs).2 else 1
theorem check_any (m d : Int) (A : Option Addr) (n c : Nat) (xs : List Rcn) (w : World) (hT : RcA w A n c xs) (hlt : n ≤ 1000000) :
    Calls Tryz.prog 45 #[.agg #[.int .i64 m, .int .i64 d], .slice A n c] w fun e w' => e = .returned (.int .i64 (chkI m d xs)) ∧ Kept w w' := by
  have HT := Lib.hid hT
  clear hT
  rcases hr : rateB m d with _ | _
  · have HS : RowKit.Hid (chkI m d xs = 1) := Lib.hid (by simp [chkI, hr])
    have HR := Lib.hid hr
    clear hr
    go_enter Tryz.func45, Tryz.ntmps45
    go_wp2_with (go_at_call 33; refine (isRate_any _ _ _).mono ?_; rintro e w1 ⟨rfl, hk1⟩; rw [HR.out])
    go_ret
    exact ⟨ret_int HS.out.symm, ((Kept.refl _).alloc _).trans hk1⟩
  · have HS : RowKit.Hid (chkI m d xs = (crI xs).2) := Lib.hid (by simp [chkI, hr])
    have HR := Lib.hid hr
    clear hr
    obtain ⟨p, hp⟩ : ∃ p, p = crI xs := ⟨_, rfl⟩
    have HC : RowKit.Hid (∀ W, Kept w W → Calls Tryz.prog 63 #[.slice A n c] W fun e w' => e = .returned (.tuple #[.int .i64 p.1, .int .i64 p.2]) ∧ Kept W w') := Lib.hid (fun W hW => by rw [hp]; exact checkRecounts_any A n c xs W (HT.out.kept hW) hlt)
    rw [← hp] at HS
    clear hp
    go_enter Tryz.func45, Tryz.ntmps45
    go_wp2_with (first
      | (go_at_call 33; refine (isRate_any _ _ _).mono ?_; rintro e w1 ⟨rfl, hk1⟩; rw [HR.out])
      | (go_at_call 63; refine (HC.out _ (((Kept.refl _).alloc _).trans hk1)).mono ?_; rintro e w2 ⟨rfl, hk2⟩)
      | fail)
    go_ret
    exact ⟨ret_int HS.out.symm, (((Kept.refl _).alloc _).trans hk1).trans hk2⟩

/-- what a re-count asks -/
def askM (x : Rcn) : Int := misI x.tr x.nu
def askD (x : Rcn) : Int := douI x.tr x.nu
def askB (x : Rcn) : Bool := misB x.tr x.nu && douB x.tr x.nu
theorem asks_any (x : Rcn) (w : World) :
    Calls Tryz.prog 47 #[.agg #[.int .i64 x.id, .int .i64 x.dy, .int .i64 x.kn, .int .i64 x.sh, .int .i64 x.tr, .int .i64 x.nu]] w fun e w' => e = .returned (.tuple #[.agg #[.int .i64 (askM x), .int .i64 (askD x)], .bool (askB x)]) ∧ Kept w w' := by
  obtain ⟨a, ha⟩ : ∃ a, a = misI x.tr x.nu := ⟨_, rfl⟩
  obtain ⟨b, hb⟩ : ∃ b, b = douI x.tr x.nu := ⟨_, rfl⟩
  obtain ⟨p, hp⟩ : ∃ p, p = misB x.tr x.nu := ⟨_, rfl⟩
  obtain ⟨q, hq⟩ : ∃ q, q = douB x.tr x.nu := ⟨_, rfl⟩
  have HA : RowKit.Hid (∀ W, Calls Tryz.prog 19 #[.int .i64 x.tr, .int .i64 x.nu] W fun e w' => e = .returned (.tuple #[.int .i64 a, .bool p]) ∧ Kept W w') := Lib.hid (fun W => by rw [ha, hp]; exact misses_any _ _ W)
  have HB : RowKit.Hid (∀ W, Calls Tryz.prog 20 #[.int .i64 x.tr, .int .i64 x.nu] W fun e w' => e = .returned (.tuple #[.int .i64 b, .bool q]) ∧ Kept W w') := Lib.hid (fun W => by rw [hb, hq]; exact doubles_any _ _ W)
  have HS : RowKit.Hid (askM x = a ∧ askD x = b ∧ askB x = (p && q)) := Lib.hid ⟨ha.symm, hb.symm, by rw [hp, hq]; rfl⟩
  rw [HS.out.1, HS.out.2.1, HS.out.2.2]
  clear ha hb hp hq HS
  obtain ⟨W0, hW0⟩ : ∃ W0, W0 = (w.alloc (.cells #[.int .i64 x.id, .int .i64 x.dy, .int .i64 x.kn, .int .i64 x.sh, .int .i64 x.tr, .int .i64 x.nu] 25)).alloc (.cells #[.int .i64 0, .int .i64 0] 38) := ⟨_, rfl⟩
  have k0 : Kept w W0 := by rw [hW0]; exact (((Kept.refl _).alloc _).alloc _)
  have c00 : W0.cell? ⟨w.heap.size, 0, none⟩ = some (.int .i64 x.id) := by rw [hW0]; exact cellOld _ (cellNew (by simp) rfl)
  have c01 : W0.cell? ⟨w.heap.size, 1, none⟩ = some (.int .i64 x.dy) := by rw [hW0]; exact cellOld _ (cellNew (by simp) rfl)
  have c02 : W0.cell? ⟨w.heap.size, 2, none⟩ = some (.int .i64 x.kn) := by rw [hW0]; exact cellOld _ (cellNew (by simp) rfl)
  have c03 : W0.cell? ⟨w.heap.size, 3, none⟩ = some (.int .i64 x.sh) := by rw [hW0]; exact cellOld _ (cellNew (by simp) rfl)
  have c04 : W0.cell? ⟨w.heap.size, 4, none⟩ = some (.int .i64 x.tr) := by rw [hW0]; exact cellOld _ (cellNew (by simp) rfl)
  have c05 : W0.cell? ⟨w.heap.size, 5, none⟩ = some (.int .i64 x.nu) := by rw [hW0]; exact cellOld _ (cellNew (by simp) rfl)
  have c10 : W0.cell? ⟨w.heap.size + 1, 0, none⟩ = some (.int .i64 0) := by rw [hW0]; exact cellNew (by simp) rfl
  have f10 : W0.frozen? ⟨w.heap.size + 1, 0, none⟩ = false := by rw [hW0]; simp [go_sem]
  have c11 : W0.cell? ⟨w.heap.size + 1, 1, none⟩ = some (.int .i64 0) := by rw [hW0]; exact cellNew (by simp) rfl
  have f11 : W0.frozen? ⟨w.heap.size + 1, 1, none⟩ = false := by rw [hW0]; simp [go_sem]
  have BR : RowKit.Hid (∀ W, Kept W0 W → W.cell? ⟨w.heap.size, 0, none⟩ = some (.int .i64 x.id) ∧ W.cell? ⟨w.heap.size, 1, none⟩ = some (.int .i64 x.dy) ∧ W.cell? ⟨w.heap.size, 2, none⟩ = some (.int .i64 x.kn) ∧ W.cell? ⟨w.heap.size, 3, none⟩ = some (.int .i64 x.sh) ∧ W.cell? ⟨w.heap.size, 4, none⟩ = some (.int .i64 x.tr) ∧ W.cell? ⟨w.heap.size, 5, none⟩ = some (.int .i64 x.nu) ∧ W.cell? ⟨w.heap.size + 1, 0, none⟩ = some (.int .i64 0) ∧ W.frozen? ⟨w.heap.size + 1, 0, none⟩ = false ∧ W.cell? ⟨w.heap.size + 1, 1, none⟩ = some (.int .i64 0) ∧ W.frozen? ⟨w.heap.size + 1, 1, none⟩ = false) := Lib.hid (fun W hW => ⟨(hW.cells _ _ (cell_lt c00)).trans c00, (hW.cells _ _ (cell_lt c01)).trans c01, (hW.cells _ _ (cell_lt c02)).trans c02, (hW.cells _ _ (cell_lt c03)).trans c03, (hW.cells _ _ (cell_lt c04)).trans c04, (hW.cells _ _ (cell_lt c05)).trans c05, (hW.cells _ _ (cell_lt c10)).trans c10, (hW.frozens _ _ (cell_lt c10)).trans f10, (hW.cells _ _ (cell_lt c11)).trans c11, (hW.frozens _ _ (cell_lt c11)).trans f11⟩)
  have Z0 : W0.heap.size = w.heap.size + 1 + 1 := by rw [hW0]; simp
  have ZZ := Lib.hid Z0
  have HW := Lib.hid hW0
  have K0 := Lib.hid k0
  clear hW0 k0 Z0
  have kk := Kept.refl W0
  have b0 := cell_lt c00
  have b1 := cell_lt c10
  cases p
  all_goals
    go_enter Tryz.func47, Tryz.ntmps47
    go_upto_region 1 with (fail)
    rw [← HW.out]
    go_wp2_with (first
        | (go_at_call 19; refine (HA.out _).mono ?_; rintro e w1 ⟨rfl, hk⟩; replace kk := (by first | with_reducible exact kk.trans hk | with_reducible exact (kk.alloc _).trans hk | with_reducible exact kk.drew.trans hk | with_reducible exact (kk.drew.alloc _).trans hk | with_reducible exact (kk.alloc _).drew.trans hk | with_reducible exact ((kk.alloc _).alloc _).trans hk | with_reducible exact ((kk.drew.alloc _).alloc _).trans hk | fail); obtain ⟨c00, c01, c02, c03, c04, c05, c10, f10, c11, f11⟩ := BR.out _ kk; have b0 := cell_lt c00; have b1 := cell_lt c10)
        | (go_at_call 20; refine (HB.out _).mono ?_; rintro e w1 ⟨rfl, hk⟩; replace kk := (by first | with_reducible exact kk.trans hk | with_reducible exact (kk.alloc _).trans hk | with_reducible exact kk.drew.trans hk | with_reducible exact (kk.drew.alloc _).trans hk | with_reducible exact (kk.alloc _).drew.trans hk | with_reducible exact ((kk.alloc _).alloc _).trans hk | with_reducible exact ((kk.drew.alloc _).alloc _).trans hk | fail); obtain ⟨c00, c01, c02, c03, c04, c05, c10, f10, c11, f11⟩ := BR.out _ kk; have b0 := cell_lt c00; have b1 := cell_lt c10)
        | fail)
    refine bodyPost_ret (v := .tuple #[.agg #[.int .i64 a, .int .i64 b], .bool _]) (by simp [results, Tryz.results47, go_sem, c10, c11]; rfl) rfl ⟨by simp, ?_⟩
    exact ((K0.out.trans kk).setCell (by simp; try omega) _).setCell (by simp; try omega) _
end Go.Proofs.YtdeokdlkjgpffaaGreatDoor
