/-
  Reached.
-/
import Derived.Test.YtcjpecdnenemaaaGreatDoorLa2
namespace Go.Proofs.YtcjpecdnenemaaaGreatDoor
set_option linter.all false
open Go.RowKit Go.Shelf

def chgB (xs : List Eqv) (x : Eqv) (sort : ByteArray) (d : Int) : Bool := !(decide ((stS (inForceS (xs ++ [x]) sort d x.kno)).1 = (stS (inForceS xs sort d x.kno)).1) && decide ((stS (inForceS (xs ++ [x]) sort d x.kno)).2 = (stS (inForceS xs sort d x.kno)).2))
def reachB (xs : List Eqv) (x : Eqv) : Bool := (startsS (xs ++ [x]) (sortS xs x)).any (chgB xs x (sortS xs x))
def reachS (xs : List Eqv) (x : Eqv) : List ByteArray := if reachB xs x = true then [sortS xs x] else []
/-- what Reached returns where the table takes the record -/
def ReachRes (w : World) (ss : List ByteArray) (e : Ending) (w' : World) : Prop := ∃ A n c, e = .returned (.tuple #[.slice A n c, .int .i64 0]) ∧ StA_s w' A n c ss ∧ Kept w w'
theorem RS_step {w0 W W' : World} {b j : Nat} {v : Value} (h : W.cell? ⟨b, j, none⟩ = some v ∧ Kept w0 W) (hk : Kept W W') : W'.cell? ⟨b, j, none⟩ = some v ∧ Kept w0 W' :=
  ⟨(hk.cells _ _ (cell_lt h.1)).trans h.1, h.2.trans hk⟩
set_option maxRecDepth 100000 in
set_option maxHeartbeats 3200000 in
theorem reached_any (A : Option Addr) (n c : Nat) (xs : List Eqv) (x : Eqv) (w : World) (hT : TabA w A n c xs) (hlt : n ≤ 100000) (hs : x.sort.size ≤ 9223372036854775807) (h0 : (chkS (xs ++ [x])).2 = 0) :
    Calls Tryz.prog 56 #[.slice A n c, eqV x] w (ReachRes w (reachS xs x)) := by
  have HT := Lib.hid hT
  have hln := hT.1
  have H0 := Lib.hid h0
  have X0 := Lib.hid (RowC.new w (eqCells x) 37)
  have AP := Lib.hid (fun W h => append_ok A n c xs x hlt hs h0 W h)
  have SO := Lib.hid (fun W h => sortOf_any A n c xs x W h)
  obtain ⟨sort, hsort⟩ : ∃ s, sortS xs x = s := ⟨_, rfl⟩
  rw [hsort] at SO
  obtain ⟨zs, hzs⟩ : ∃ zs, startsS (xs ++ [x]) sort = zs := ⟨_, rfl⟩
  have HZ := Lib.hid hzs
  have HR := Lib.hid (show reachS xs x = if zs.any (chgB xs x sort) = true then [sort] else [] by unfold reachS reachB; rw [hsort, hzs])
  have hle := starts_le (xs ++ [x]) sort
  rw [hzs] at hle
  simp only [List.length_append, List.length_singleton, hln] at hle
  have KB := Lib.hid ((Kept.refl w).alloc (boxX x))
  clear hT h0 hsort hzs
  obtain ⟨id, frm, kno, srt, num, den, off⟩ := x
  unfold boxX at KB
  unfold eqV at AP SO ⊢
  dsimp only at AP SO KB ⊢
  go_enter Tryz.func56, Tryz.ntmps56
  go_wp2_with fail
  refine (AP.out _ (HT.out.kept KB.out)).mono ?_
  rintro e w1 ⟨vm, rfl, hm, hk1⟩
  have HM := Lib.hid (own_base (b' := w.heap.size) hm (by simp))
  have K1 := Lib.hid (KB.out.trans hk1)
  have X1 := Lib.hid (X0.out.kept hk1)
  obtain ⟨mA, mn, mc, rfl, hmT⟩ : ∃ mA mn mc, vm = .slice mA mn mc ∧ TabA w1 mA mn mc (xs ++ [⟨id, frm, kno, srt, num, den, off⟩]) := by
    rcases own_form hm with ⟨rfl, hz⟩ | ⟨g, cap, rfl, h1, h2, h3, h4⟩
    · simp at hz
    · exact ⟨_, _, _, rfl, own_tabA hm rfl (fun y hy => by
        rcases List.mem_append.1 hy with h | h
        · exact HT.out.2.2.2.1 y h
        · simp at h; subst h; exact hs)⟩
  have MT := Lib.hid hmT
  clear hm hk1 hmT
  have x0 := (X1.out 0 _ rfl).1
  have x1 := (X1.out 1 _ rfl).1
  have x2 := (X1.out 2 _ rfl).1
  have x3 := (X1.out 3 _ rfl).1
  have x4 := (X1.out 4 _ rfl).1
  have x5 := (X1.out 5 _ rfl).1
  have x6 := (X1.out 6 _ rfl).1
  have hmn : mn = n + 1 := by have := MT.out.1; simp at this; omega
  subst hmn
  have hlm : n + 1 ≤ 1000000 := by exact Nat.le_trans (Nat.succ_le_succ hlt) (by decide)
  go_wp2_with fail
  refine (SO.out _ (HT.out.kept K1.out)).mono ?_
  rintro e w2 ⟨rfl, hk2⟩
  have K2 := Lib.hid (K1.out.trans hk2)
  have X2 := Lib.hid (X1.out.kept hk2)
  have MT2 := Lib.hid (MT.out.kept hk2)
  clear hk2 x0 x1 x2 x3 x4 x5 x6
  go_wp2_with fail
  have ST := starts_any mA (n + 1) mc _ sort _ MT2.out hlm
  rw [HZ.out] at ST
  refine ST.mono ?_
  rintro e w3 ⟨v, rfl, hown3, hk3⟩
  have HO3 := Lib.hid hown3
  have K3 := Lib.hid (K2.out.trans hk3)
  have X3 := Lib.hid (X2.out.kept hk3)
  have MT3 := Lib.hid (MT2.out.kept hk3)
  obtain ⟨bA, bn, bc, rfl, hform⟩ : ∃ A' n' c', v = .slice A' n' c' ∧ n' = zs.length ∧ n' ≤ c' ∧ c' ≤ 9223372036854775807 ∧ (0 < zs.length → ∃ g, A' = some ⟨g, 0, none⟩) := by
    rcases own_form hown3 with ⟨rfl, hz⟩ | ⟨g, cap, rfl, h1, h2, h3, h4⟩
    · exact ⟨none, 0, 0, rfl, hz.symm, by omega, by omega, fun h => by omega⟩
    · exact ⟨_, _, _, rfl, rfl, h1, by simpa [maxLen] using h2, fun _ => ⟨g, rfl⟩⟩
  obtain ⟨rfl, hbc, hbm, hg⟩ := hform
  have HG := Lib.hid hg
  clear hown3 hk3 hg
  go_wp2
  go_loopw [27] (fun i wr => ∃ k : Nat, k ≤ zs.length ∧ i = .int .i64 k ∧ (zs.take k).any (chgB xs ⟨id, frm, kno, srt, num, den, off⟩ sort) = false ∧ Kept w3 wr) (fun i _ => zs.length - (intOf i).toNat)
  case atStart => exact ⟨0, by omega, by first | rfl | go_num, by simp, Kept.refl _⟩
  case round =>
    obtain ⟨k, hk, rfl, hno, hkr⟩ := hrel
    have HN := Lib.hid hno
    have HKr := Lib.hid hkr
    clear hno
    by_cases hkl : k < zs.length
    · obtain ⟨g, rfl⟩ := HG.out (by omega)
      obtain ⟨z, hz⟩ : ∃ z, zs[k]? = some z := ⟨zs[k]'hkl, List.getElem?_eq_getElem hkl⟩
      have hcell : wr.cell? ⟨g, k, none⟩ = some (.int .i64 z) := by
        rw [(own_kept HO3.out hkr).cellAt k (by omega), List.getElem?_map, hz]; rfl
      have HS := Lib.hid (show (zs.take (k + 1)).any (chgB xs ⟨id, frm, kno, srt, num, den, off⟩ sort) = ((zs.take k).any (chgB xs ⟨id, frm, kno, srt, num, den, off⟩ sort) || chgB xs ⟨id, frm, kno, srt, num, den, off⟩ sort z) by rw [take_snocG hz, List.any_append]; simp)
      have HMm := Lib.hid (List.mem_of_getElem? hz)
      obtain ⟨s1, hs1⟩ : ∃ s1, stS (inForceS (xs ++ [⟨id, frm, kno, srt, num, den, off⟩]) sort z kno) = s1 := ⟨_, rfl⟩
      obtain ⟨s2, hs2⟩ : ∃ s2, stS (inForceS xs sort z kno) = s2 := ⟨_, rfl⟩
      have H1 := Lib.hid (fun W (h : W.cell? ⟨w.heap.size, 2, none⟩ = some (.int .i64 kno) ∧ Kept w3 W) => stintsOn_any mA (n + 1) mc _ sort z kno W (MT3.out.kept h.2) hlm)
      have H2 := Lib.hid (fun W (h : W.cell? ⟨w.heap.size, 2, none⟩ = some (.int .i64 kno) ∧ Kept w3 W) => stintsOn_any A n c xs sort z kno W ((HT.out.kept K3.out).kept h.2) (Nat.le_trans hlt (by decide)))
      rw [hs1] at H1
      rw [hs2] at H2
      have HTB := Lib.hid (show chgB xs ⟨id, frm, kno, srt, num, den, off⟩ sort z = !(decide (s1.1 = s2.1) && decide (s1.2 = s2.2)) by unfold chgB; dsimp only; rw [hs1, hs2])
      have S0 := Lib.hid (show wr.drew.cell? ⟨w.heap.size, 2, none⟩ = some (.int .i64 kno) ∧ Kept w3 wr.drew from ⟨((X3.out.kept hkr).drew 2 _ rfl).1, hkr.drew⟩)
      obtain ⟨p1, p2⟩ := s1
      obtain ⟨q1, q2⟩ := s2
      dsimp only at H1 H2 HTB
      clear hz hs1 hs2 hkr
      by_cases b1 : p1 = q1
      · by_cases b2 : p2 = q2
        · subst b1
          subst b2
          have HT1 := Lib.hid (show chgB xs ⟨id, frm, kno, srt, num, den, off⟩ sort z = false by rw [HTB.out]; simp)
          go_wp2_with fail
          go_region_held3 (fun W => W.cell? ⟨w.heap.size, 2, none⟩ = some (.int .i64 kno) ∧ Kept w3 W)
            (first
              | (with_reducible exact S0.out)
              | (with_reducible refine RS_step ?_ hkk; assumption)
              | fail)
            (first
              | fail
              | (go_at_call 122; with_reducible refine (H1.out _ (by first | (with_reducible exact S0.out) | assumption)).mono ?_; rintro e w' ⟨rfl, hkk⟩)
              | (go_at_call 122; with_reducible refine (H2.out _ (by first | (with_reducible exact S0.out) | assumption)).mono ?_; rintro e w' ⟨rfl, hkk⟩))
          obtain ⟨f0, fK⟩ := ‹_ ∧ Kept w3 _›
          have FK := Lib.hid fK
          clear f0 fK
          go_wp2
          go_roundw
          case rel => exact ⟨k + 1, by omega, by go_num, by rw [HS.out, HN.out, HT1.out]; rfl, FK.out⟩
          case measure => simp [intOf]; omega
        · have HT1 := Lib.hid (show chgB xs ⟨id, frm, kno, srt, num, den, off⟩ sort z = true by rw [HTB.out]; simp [b2])
          go_wp2_with fail
          go_region_held3 (fun W => W.cell? ⟨w.heap.size, 2, none⟩ = some (.int .i64 kno) ∧ Kept w3 W)
            (first
              | (with_reducible exact S0.out)
              | (with_reducible refine RS_step ?_ hkk; assumption)
              | fail)
            (first
              | fail
              | (go_at_call 122; with_reducible refine (H1.out _ (by first | (with_reducible exact S0.out) | assumption)).mono ?_; rintro e w' ⟨rfl, hkk⟩)
              | (go_at_call 122; with_reducible refine (H2.out _ (by first | (with_reducible exact S0.out) | assumption)).mono ?_; rintro e w' ⟨rfl, hkk⟩))
          obtain ⟨f0, fK⟩ := ‹_ ∧ Kept w3 _›
          have FK := Lib.hid fK
          clear f0 fK
          go_wp2
          go_ret2
          have HR2 := Lib.hid (show reachS xs ⟨id, frm, kno, srt, num, den, off⟩ = [sort] by rw [HR.out, if_pos (List.any_eq_true.2 ⟨z, HMm.out, HT1.out⟩)])
          rw [HR2.out]
          exact ⟨_, _, _, rfl, ⟨rfl, by omega, by omega, fun j z hj => by
            cases j with
            | zero => simp at hj; subst hj; exact ⟨_, _, rfl, new_cell rfl rfl⟩
            | succ j => simp at hj⟩, K3.out.trans (FK.out.alloc _)⟩
      · have HT1 := Lib.hid (show chgB xs ⟨id, frm, kno, srt, num, den, off⟩ sort z = true by rw [HTB.out]; simp [b1])
        go_wp2_with fail
        go_region_held3 (fun W => W.cell? ⟨w.heap.size, 2, none⟩ = some (.int .i64 kno) ∧ Kept w3 W)
          (first
            | (with_reducible exact S0.out)
            | (with_reducible refine RS_step ?_ hkk; assumption)
            | fail)
          (first
            | fail
            | (go_at_call 122; with_reducible refine (H1.out _ (by first | (with_reducible exact S0.out) | assumption)).mono ?_; rintro e w' ⟨rfl, hkk⟩)
            | (go_at_call 122; with_reducible refine (H2.out _ (by first | (with_reducible exact S0.out) | assumption)).mono ?_; rintro e w' ⟨rfl, hkk⟩))
        obtain ⟨f0, fK⟩ := ‹_ ∧ Kept w3 _›
        have FK := Lib.hid fK
        clear f0 fK
        go_wp2
        go_ret2
        have HR2 := Lib.hid (show reachS xs ⟨id, frm, kno, srt, num, den, off⟩ = [sort] by rw [HR.out, if_pos (List.any_eq_true.2 ⟨z, HMm.out, HT1.out⟩)])
        rw [HR2.out]
        exact ⟨_, _, _, rfl, ⟨rfl, by omega, by omega, fun j z hj => by
          cases j with
          | zero => simp at hj; subst hj; exact ⟨_, _, rfl, new_cell rfl rfl⟩
          | succ j => simp at hj⟩, K3.out.trans (FK.out.alloc _)⟩
    · obtain rfl : k = zs.length := by omega
      have hn := HN.out
      rw [List.take_length] at hn
      have HR2 := Lib.hid (show reachS xs ⟨id, frm, kno, srt, num, den, off⟩ = [] by rw [HR.out, hn]; rfl)
      clear hn
      go_wp2
      go_ret2
      rw [HR2.out]
      exact ⟨none, 0, 0, rfl, ⟨rfl, by omega, by omega, fun j z hj => by simp at hj⟩, K3.out.trans HKr.out⟩
end Go.Proofs.YtcjpecdnenemaaaGreatDoor
