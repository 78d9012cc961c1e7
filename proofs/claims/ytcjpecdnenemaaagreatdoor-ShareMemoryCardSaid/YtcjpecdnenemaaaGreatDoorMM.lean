/-
  append of nothing.
  Append, of the reference, to an empty table; Insert into an empty list, or of what is there; lists of strings compared.
  equal tables; the reference's Append, for all
  Fill for all inputs.
  The reference: what heads take up, their excess, what fits; ShareUses.
  slices' insertionSort, over a row of ints
  slices' symMerge, over a row of ints: the whole
  slices' stable, over a row of 20 to 40 ints
  Whole for all that it takes
  ShareMemory: copies, the reference's SameInts
  ShareMemory: the law
  Opening a law's arguments: slices of fractions; arguments read behind the call as before.
  Opening a law's arguments: strings, records, tables.
  Opening a law's arguments: heads, numbers.
  Opening a law's arguments: slices of ints.
  ShareMemory returns true at every input, and leaves its arguments as they were, where the listed library variables hold what the program's text lays.
-/
import Derived.Test.YtcjpecdnenemaaaGreatDoorGN
import Derived.Test.YtcjpecdnenemaaaGreatDoorRs3
import Derived.Test.YtcjpecdnenemaaaGreatDoorRs2
import Derived.Test.YtcjpecdnenemaaaGreatDoorUf1
import Derived.Test.YtcjpecdnenemaaaGreatDoorUf2
import Derived.Test.YtcjpecdnenemaaaGreatDoorRn1
import Derived.Test.YtcjpecdnenemaaaGreatDoorRn7
import Derived.Test.YtcjpecdnenemaaaGreatDoorUs3
import Derived.Test.YtcjpecdnenemaaaGreatDoorGP
import Derived.Test.YtcjpecdnenemaaaGreatDoorUf0
import Derived.Test.YtcjpecdnenemaaaGreatDoorMs3
import Derived.Test.YtcjpecdnenemaaaGreatDoorMs5
import Derived.Test.YtcjpecdnenemaaaGreatDoorGT
import Derived.Test.YtcjpecdnenemaaaGreatDoorSm1
import Derived.Test.YtcjpecdnenemaaaGreatDoorGE
import Derived.Test.YtcjpecdnenemaaaGreatDoorGL
import Derived.Test.YtcjpecdnenemaaaGreatDoorFac
import Derived.Laws.OwnMore
import Derived.Deep.AppendLies
import Derived.BigQuiet
import Derived.Deep.DeepCutAuto
import Derived.Deep.RegionHeld3
import Derived.Deep.Slices
import Derived.Deep.Fields
import Derived.ChangeSame
import Derived.Carry
import Derived.Deep.MidRow
namespace Go.Proofs.YtcjpecdnenemaaaGreatDoor
set_option linter.all false
open Go.RowKit Go.Shelf

section
variable {P : Program} (w : World)
theorem run_append_zero (base : Nat) (t ty e : TypeId) (i : TypeInfo) (size : Nat) (ht : P.underlying t = some (.slice e)) (hi : P.info? e = some i)
    (v : Value) (n : Nat) (xs : List Value) (hown : w.ownsRow base e size v n xs) (A : Option Addr) (c : Nat) :
    (Builtin.append_ #[t, t] ty #[v, .slice A 0 c]).run P w = .ok v w := by
  rcases A with _ | a
  · rcases hown.2 with ⟨rfl, rfl⟩ | ⟨g, cap, cur, rfl, _, _, hnc, _⟩
    · simp [Builtin.append_, run_underlying ht, sizeOf, typeInfo, hi, Builtin.lenOf, Builtin.firstCells]
    · simp [Builtin.append_, run_underlying ht, sizeOf, typeInfo, hi, Builtin.lenOf, Builtin.firstCells, hnc, storeCells]
  · have hl : Sem.run P (loadCellsFrom a 0 0 #[]) w = .ok #[] w := by
      first
        | rfl
        | (simp [loadCellsFrom]; done)
        | (unfold loadCellsFrom; simp; done)
    rcases hown.2 with ⟨rfl, rfl⟩ | ⟨g, cap, cur, rfl, _, _, hnc, _⟩
    · simp [Builtin.append_, run_underlying ht, sizeOf, typeInfo, hi, Builtin.lenOf, Builtin.firstCells, loadCells, hl]
    · simp [Builtin.append_, run_underlying ht, sizeOf, typeInfo, hi, Builtin.lenOf, Builtin.firstCells, hnc, storeCells, loadCells, hl]
theorem step_append_zero {ops : Array Oper} {o : Oper} {a : Act} {K : Act → World → Prop} {Q : Exit → Act → World → Prop} {E : Prop} (hgd : o.guard = none) (s x : Operand) (t : TypeId)
    (ho : o.op = .call { callee := .builtin .append, args := #[s, x], argTypes := #[t, t] })
    (base : Nat) (e : TypeId) (i : TypeInfo) (size : Nat) (ht : P.underlying t = some (.slice e)) (hi : P.info? e = some i)
    (v : Value) (n : Nat) (xs : List Value) (hs : a.eval s = v) (hown : w.ownsRow base e size v n xs) (A : Option Addr) (c : Nat) (hx : a.eval x = .slice A 0 c)
    (h : K (a.put o.dst v) w) : if Region.wanted o (yielded ops a.tmps) = true then Oper.wp P o a w K Q else E := by
  have hw : Region.wanted o (yielded ops a.tmps) = true := by simp [Region.wanted, hgd]
  rw [if_pos hw]
  have hr := run_append_zero (P := P) w base t o.type e i size ht hi v n xs hown A c
  unfold Oper.wp execOp
  simp only [ho, resolve, invoke, builtin, Sem.run_bind, Sem.run_pure, Result.andThen_ok, List.map_toArray, List.map_cons, List.map_nil, hs, hx, hr]
  exact h
end
end Go.Proofs.YtcjpecdnenemaaaGreatDoor

namespace Go.Proofs.YtcjpecdnenemaaaGreatDoor
set_option linter.all false
open Go.RowKit Go.Shelf

set_option maxRecDepth 100000 in
set_option maxHeartbeats 3200000 in
theorem rappend_zero (A : Option Addr) (c : Nat) (x : Eqv) (hs : x.sort.size ≤ 9223372036854775807) (h0 : (chkS ([] ++ [x])).2 = 0) (w : World) (h : TabA w A 0 c []) :
    Calls Tryz.prog 39 #[.slice A 0 c, eqV x] w (TabRes w ([] ++ [x])) := by
  obtain ⟨i0, hi0, hz0, hz1, hz2⟩ := info_parts info37
  have HT := Lib.hid h
  have X0 := Lib.hid (RowC.new w (eqCells x) 37)
  have KB := Lib.hid ((Kept.refl w).alloc (boxX x))
  have hln := h.1
  have CK := Lib.hid (fun W h => rcheck_any A 0 c [] W h)
  have hc := chk_pre h0
  have hr := chk_last h0
  have RF := Lib.hid (fun W h => rrefused_any A 0 c [] x 0 hr hs (by omega) W h)
  rw [hc] at CK
  clear h hc h0 hr
  obtain ⟨F, hF⟩ : ∃ F, (chkS []).1 = F := ⟨_, rfl⟩
  rw [hF] at CK
  clear hF
  obtain ⟨id, frm, kno, srt, num, den, off⟩ := x
  unfold boxX at KB
  unfold eqV at RF ⊢
  dsimp only at KB RF ⊢
  go_enter Tryz.func39, Tryz.ntmps39
  go_wp2_with fail
  refine (CK.out _ (HT.out.kept KB.out)).mono ?_
  rintro e w1 ⟨rfl, hk1⟩
  have K1 := Lib.hid (KB.out.trans hk1)
  have X1 := Lib.hid (X0.out.kept hk1)
  have x0 := (X1.out 0 _ rfl).1
  have x1 := (X1.out 1 _ rfl).1
  have x2 := (X1.out 2 _ rfl).1
  have x3 := (X1.out 3 _ rfl).1
  have x4 := (X1.out 4 _ rfl).1
  have x5 := (X1.out 5 _ rfl).1
  have x6 := (X1.out 6 _ rfl).1
  clear hk1
  go_wp2_with fail
  refine (RF.out _ (HT.out.kept K1.out)).mono ?_
  rintro e w2 ⟨rfl, hk2⟩
  have K2 := Lib.hid (K1.out.trans hk2)
  have X2 := Lib.hid (X1.out.kept hk2)
  clear hk2 x0 x1 x2 x3 x4 x5 x6
  have x0 := (X2.out 0 _ rfl).1
  have x1 := (X2.out 1 _ rfl).1
  have x2 := (X2.out 2 _ rfl).1
  have x3 := (X2.out 3 _ rfl).1
  have x4 := (X2.out 4 _ rfl).1
  have x5 := (X2.out 5 _ rfl).1
  have x6 := (X2.out 6 _ rfl).1
  have hlt2 : w.heap.size < w2.heap.size := cell_lt x0
  have hne2 : ¬ w2.heap.size = w.heap.size := by omega
  go_wp2_with fail
  go_upto_region 7 with fail
  go_region_law (first
    | (refine step_append_zero _ (by rfl) (.tmp 23) (.tmp 24) _ (by rfl) w2.heap.size 37 i0 7 Tryz.underlying35 hi0 (.slice (some ⟨w2.heap.size, 0, none⟩) 0 0) 0 [] (by rfl) (own_base (own0 w2.drew w2.heap.size rfl) (by simp)) A c (by rfl) ?_)
    | (refine step_append_zero _ (by rfl) (.tmp 23) (.tmp 24) _ (by rfl) w2.heap.size 37 i0 7 Tryz.underlying35 hi0 (.slice (some ⟨w2.heap.size, 0, none⟩) 0 0) 0 [] (by rfl) (own_kept (own_base (own0 w2.drew w2.heap.size rfl) (by simp)) ((Kept.refl _).alloc _)) A c (by rfl) ?_)
    | (refine step_append_zero _ (by rfl) (.tmp 23) (.tmp 24) _ (by rfl) w2.heap.size 37 i0 7 Tryz.underlying35 hi0 (.slice (some ⟨w2.heap.size + 1, 0, none⟩) 0 0) 0 [] (by rfl) (own_base (own0 (w2.drew.alloc (boxX ⟨id, frm, kno, srt, num, den, off⟩)) (w2.heap.size + 1) (by simp)) (by simp)) A c (by rfl) ?_)
    | (refine step_append_lies _ (by rfl) (.tmp 25) (.tmp 27) _ (by rfl) w2.heap.size 37 i0 _ 7 64 Tryz.underlying35 hi0 hz0 hz1 hz2 rfl (by decide) (.slice (some ⟨w2.heap.size, 0, none⟩) 0 0) 0 [] (by rfl) (own_kept (own_base (own0 w2.drew w2.heap.size rfl) (by simp)) ((Kept.refl _).alloc _)) ⟨w2.heap.size + 1, 0, none⟩ 1 1 (eqCells ⟨id, frm, kno, srt, num, den, off⟩) (by rfl) (by rfl) (news_block (nb2 ⟨id, frm, kno, srt, num, den, off⟩ w2)) (eq_one ⟨id, frm, kno, srt, num, den, off⟩) (by omega) (by simp only [maxLen]; omega) (by omega) (by first | (simp; done) | (simp; omega)) _ rfl ?_; intro g4 cap4 w4 hown4 hgrow4 hat4 hlt4; have hk4 : Kept w2 w4 := ((((Kept.refl w2).drew).alloc (.cells #[] 37)).alloc (boxX ⟨id, frm, kno, srt, num, den, off⟩)).grown hgrow4 (fun k hk => by simp [Value.ownBlock] at hk; all_goals omega))
    | (refine step_append_lies _ (by rfl) (.tmp 25) (.tmp 27) _ (by rfl) w2.heap.size 37 i0 _ 7 64 Tryz.underlying35 hi0 hz0 hz1 hz2 rfl (by decide) (.slice (some ⟨w2.heap.size + 1, 0, none⟩) 0 0) 0 [] (by rfl) (own_base (own0 (w2.drew.alloc (boxX ⟨id, frm, kno, srt, num, den, off⟩)) (w2.heap.size + 1) (by simp)) (by simp)) ⟨w2.heap.size, 0, none⟩ 1 1 (eqCells ⟨id, frm, kno, srt, num, den, off⟩) (by rfl) (by rfl) (news_block (nb3 ⟨id, frm, kno, srt, num, den, off⟩ w2)) (eq_one ⟨id, frm, kno, srt, num, den, off⟩) (by omega) (by simp only [maxLen]; omega) (by omega) (by first | (simp; done) | (simp; omega)) _ rfl ?_; intro g4 cap4 w4 hown4 hgrow4 hat4 hlt4; have hk4 : Kept w2 w4 := ((((Kept.refl w2).drew).alloc (boxX ⟨id, frm, kno, srt, num, den, off⟩)).alloc (.cells #[] 37)).grown hgrow4 (fun k hk => by simp [Value.ownBlock] at hk; all_goals omega))
    | fail)
  all_goals
    have hown5 : w4.ownsRow w.heap.size 37 7 (.slice (some ⟨g4, 0, none⟩) (0 + 1) cap4) (0 + 1) ([] ++ eqCells ⟨id, frm, kno, srt, num, den, off⟩) := own_base hown4 K2.out.size
    have HO5 := Lib.hid hown5
    have HK4 := Lib.hid hk4
    clear hown4 hown5 hk4 hgrow4 hat4 hlt4
    go_wp2
    go_ret2
    refine ⟨_, rfl, ?_, K2.out.trans HK4.out⟩
    have h : w4.ownsRow w.heap.size 37 7 (.slice (some ⟨g4, 0, none⟩) (0 + 1) cap4) (0 + 1) (flat7 [] ++ eqCells ⟨id, frm, kno, srt, num, den, off⟩) := HO5.out
    rw [← flat_snoc] at h
    exact h
end Go.Proofs.YtcjpecdnenemaaaGreatDoor

namespace Go.Proofs.YtcjpecdnenemaaaGreatDoor
set_option linter.all false
open Go.RowKit Go.Shelf

set_option maxRecDepth 100000 in
set_option maxHeartbeats 4000000 in
theorem sameE_any (A B : Option Addr) (n c d : Nat) (xs : List Eqv) (w : World) (h1 : TabA w A n c xs) (h2 : TabA w B n d xs) :
    Calls Tryz.prog 44 #[.slice A n c, .slice B n d] w fun e w' => e = .returned (.bool true) ∧ Kept w w' := by
  have H1 := Lib.hid h1
  have H2 := Lib.hid h2
  have hnc := h1.2.1
  have hcm := h1.2.2.1
  have hnd := h2.2.1
  have hdm := h2.2.2.1
  clear h1 h2
  have hnn : ((n : Int) != (n : Int)) = false := by simp
  go_enter Tryz.func44, Tryz.ntmps44
  go_wp2_with fail
  go_loopw [5] (fun i wr => ∃ k : Nat, k ≤ n ∧ i = .int .i64 k ∧ Kept w wr) (fun i _ => n - (intOf i).toNat)
  case atStart => exact ⟨0, by omega, by first | rfl | go_num, Kept.refl _⟩
  case round =>
    obtain ⟨k, hk, rfl, hkr⟩ := hrel
    have HKR := Lib.hid hkr
    clear hkr
    by_cases hlt : k < n
    · obtain ⟨b, off, hA, hcc⟩ := H1.out.2.2.2.2 (by omega)
      obtain ⟨b2, off2, hB, hcc2⟩ := H2.out.2.2.2.2 (by omega)
      subst hA
      subst hB
      have hxl : k < xs.length := by rw [H1.out.1]; exact hlt
      obtain ⟨x, hx⟩ : ∃ x, xs[k]? = some x := ⟨xs[k]'hxl, List.getElem?_eq_getElem hxl⟩
      obtain ⟨q0, q1, q2, q3, q4, q5, q6⟩ := (hcc k x hx).kept HKR.out
      obtain ⟨p0, p1, p2, p3, p4, p5, p6⟩ := (hcc2 k x hx).kept HKR.out
      have i0 : (0 : Int) ≤ (k : Int) := by omega
      have i1 : (k : Int) < (n : Int) := by omega
      have it : (k : Int).toNat = k := by omega
      have hse : (x.sort.toList == x.sort.toList) = true := by simp
      clear hcc hcc2 hx
      go_upto_region 6 with (fail)
      go_cut [25] (fun s25 wx => s25 = .bool false ∧ Kept wr wx)
      case first =>
        go_quiet (fail)
        go_wp2
        go_meet
        exact ⟨by first | rfl | (simp; done), by first | exact Kept.refl _ | exact (Kept.refl _).drewN _ | exact (Kept.refl _).drew⟩
      obtain ⟨rfl, kx⟩ := hcut
      have KX := Lib.hid (HKR.out.trans kx)
      clear kx q0 q1 q2 q3 q4 q5 q6 p0 p1 p2 p3 p4 p5 p6
      go_wp2
      go_roundw
      case rel => exact ⟨k + 1, by omega, by go_num, KX.out⟩
      case measure => simp [intOf]; omega
    · obtain rfl : k = n := by omega
      go_wp2
      go_ret
      exact ⟨rfl, HKR.out⟩
def AppRes (W : World) (ys : List Eqv) (E : Int) (e : Ending) (w' : World) : Prop := ∃ A c, e = .returned (.tuple #[.slice A ys.length c, .int .i64 E]) ∧ TabA w' A ys.length c ys ∧ Kept W w'
theorem app_of {W w' : World} {e : Ending} {ys : List Eqv} (hs : ∀ y ∈ ys, y.sort.size ≤ 9223372036854775807) (h : TabRes W ys e w') : AppRes W ys 0 e w' := by
  obtain ⟨v, rfl, hown, hk⟩ := h
  rcases own_form hown with ⟨rfl, h0⟩ | ⟨g, c, rfl, _⟩
  · refine ⟨none, 0, by rw [h0], ?_, hk⟩
    exact own_tabA (by rw [h0] at hown ⊢; exact hown) rfl hs
  · exact ⟨_, _, rfl, own_tabA hown rfl hs, hk⟩
theorem app_nil {W w' : World} {e : Ending} {E : Int} (h : e = .returned (.tuple #[.slice none 0 0, .int .i64 E]) ∧ Kept W w') : AppRes W [] E e w' :=
  ⟨none, 0, h.1, ⟨rfl, Nat.le_refl _, by simp, fun x hx => (by cases hx), fun h => by simp at h⟩, h.2⟩
def appL (xs : List Eqv) (x : Eqv) : List Eqv := if (chkS (xs ++ [x])).2 = 0 then xs ++ [x] else []
theorem rapp_any (A : Option Addr) (n c : Nat) (xs : List Eqv) (x : Eqv) (hn : n ≤ 205) (hs : x.sort.size ≤ 100) (w : World) (h : TabA w A n c xs) :
    Calls Tryz.prog 39 #[.slice A n c, eqV x] w (AppRes w (appL xs x) (chkS (xs ++ [x])).2) := by
  have hss : ∀ y ∈ xs ++ [x], y.sort.size ≤ 9223372036854775807 := fun y hy => by
    rcases List.mem_append.1 hy with hy | hy
    · exact h.2.2.2.1 y hy
    · simp at hy; subst hy; omega
  unfold appL
  by_cases h0 : (chkS (xs ++ [x])).2 = 0
  · rw [if_pos h0, h0]
    by_cases hp : 0 < n
    · exact (rappend_pos A n c xs x (by omega) h0 w h hp).mono (fun e w' => app_of hss)
    · obtain rfl : n = 0 := by omega
      obtain rfl : xs = [] := List.eq_nil_of_length_eq_zero h.1
      exact (rappend_zero A c x (by omega) h0 w h).mono (fun e w' => app_of hss)
  · rw [if_neg h0]
    exact (rappend_err A n c xs x (by omega) _ rfl (by simpa using h0) w h).mono (fun e w' => app_nil)
end Go.Proofs.YtcjpecdnenemaaaGreatDoor

namespace Go.Proofs.YtcjpecdnenemaaaGreatDoor
set_option linter.all false
open Go.RowKit Go.Shelf

set_option maxRecDepth 100000 in
set_option maxHeartbeats 3200000 in
theorem fill_ok2 (A : Option Addr) (n c : Nat) (xs : List Eqv) (B : Option Addr) (hn hc : Nat) (hs : List Hd) (sn sd day known x y : Int) (out : List Hd) (w : World) (hT : TabA w A n c xs) (hlt : n ≤ 1000000) (hH : HeadsA w B hn hc hs)
    (he : eachE xs hs sn sd day known = 0) (hr : fillS (sn, sd) ((eachL xs hs day known).zip hs) = some ((x, y), out)) :
    Calls Tryz.prog 63 #[.slice A n c, .slice B hn hc, .agg #[.int .i64 sn, .int .i64 sd], .int .i64 day, .int .i64 known] w fun e w' => ∃ v, (e = .returned (.tuple #[v, .int .i64 0]) ∧ w'.ownsRow w.heap.size 84 2 v out.length (hdFlat out)) ∧ Kept w w' := by
  have hBl : 0 < hn → ∀ b off, B = some ⟨b, off, none⟩ → b < w.heap.size := fun h0 b off hB => by
    obtain ⟨b', off', e, hc⟩ := hH.2.2.2.2 h0
    rw [hB] at e
    cases e
    have hl := hH.1
    exact cell_lt (hc 0 _ (List.getElem?_eq_getElem (by omega))).1
  obtain ⟨hchk, hare, hvld, hall⟩ := each_ok he
  have hev := eachL_vld hchk hall
  obtain ⟨h12, hnv⟩ := areS_ok hare
  have hlen : (eachL xs hs day known).length = hs.length := by simp [eachL]
  have hmf : ∀ (fn : Fn) (first cap : Array Value) (w : World), (Instr.makeFunc fn first cap).run Tryz.prog w = .ok (.func fn first cap) w := fun _ _ _ _ => rfl
  obtain ⟨W0, hW0⟩ : ∃ W0 : World, W0 = (w.alloc (.cells #[.slice B hn hc] 61)).alloc (.cells #[.int .i64 sn, .int .i64 sd] 23) := ⟨_, rfl⟩
  have K0 : Kept w W0 := by rw [hW0]; exact ((Kept.refl w).alloc _).alloc _
  have r1 : RowC W0 w.heap.size [.slice B hn hc] := by rw [hW0]; exact (RowC.new w [.slice B hn hc] 61).kept ((Kept.refl _).alloc _)
  have r2 : RowC W0 (w.heap.size + 1) [.int .i64 sn, .int .i64 sd] := by
    have := RowC.new (w.alloc (.cells #[.slice B hn hc] 61)) [.int .i64 sn, .int .i64 sd] 23
    rw [World.size_alloc] at this
    rw [hW0]; exact this
  have z0 : W0.heap.size = w.heap.size + 1 + 1 := by rw [hW0]; simp
  have HW0 := Lib.hid hW0
  have R1 := Lib.hid r1
  have R2 := Lib.hid r2
  have Z0 := Lib.hid z0
  have HEa : RowKit.Hid (Calls Tryz.prog 127 #[.slice A n c, .slice B hn hc, .agg #[.int .i64 sn, .int .i64 sd], .int .i64 day, .int .i64 known] W0 fun e w' => ∃ v, (e = .returned (.tuple #[v, .int .i64 0]) ∧ w'.ownsRow W0.heap.size 92 2 v hs.length (fl2 (eachL xs hs day known))) ∧ Kept W0 w') := Lib.hid ((eachOf_any A n c xs B hn hc hs sn sd day known W0 (hT.kept K0) hlt (hH.kept K0)).mono (fun e w' h => by
    rcases h with ⟨⟨h1, _⟩ | ⟨_, v, h2, h3⟩, h4⟩
    · exact absurd he h1
    · exact ⟨v, ⟨h2, h3⟩, h4⟩))
  have HX : RowKit.Hid (∀ (be bf : Nat) (v : Value) (W : World), Kept W0 W → RowC W be [v] → FrA W v (eachL xs hs day known) → RowC W bf [.slice none 0 0] → W0.heap.size < bf → be ≠ bf → (∀ A c, v = .slice A (eachL xs hs day known).length c → ∀ g, A = some ⟨g, 0, none⟩ → g ≠ bf) →
      Calls Tryz.prog 129 #[.pointer (some ⟨w.heap.size + 1, 0, none⟩), .pointer (some ⟨w.heap.size, 0, none⟩), .pointer (some ⟨be, 0, none⟩), .pointer (some ⟨bf, 0, none⟩)] W fun e w' => e = .returned (.agg #[.int .i64 x, .int .i64 y]) ∧ FillPost bf out W w') := Lib.hid (fun be bf v W hk hv hf hb hlt2 hne h5 =>
    fill1_ok2 (w.heap.size + 1) w.heap.size be bf B hn hc hs v (eachL xs hs day known) sn sd x y out W (r1.kept hk 0 _ rfl).1 ((hH.kept K0).kept hk) hv hf hlen (r2.kept hk) hb hvld hev (fun h hh => (hnv h hh).2) (by rw [← hH.1]; exact h12) (by omega) (by omega) hne (fun h0 b off hB => by have := hBl h0 b off hB; omega) h5 hr)
  have b1 := (r1 0 _ rfl).1
  have b2 := (r2 0 _ rfl).1
  have b3 := (r2 1 _ rfl).1
  clear hW0 r1 r2 z0 hT hH he hr hchk hare hvld hall hev h12 hnv hlen hBl
  have g129 := e129
  go_enter Tryz.func63, Tryz.ntmps63
  go_wp2_with fail
  rw [← HW0.out]
  refine HEa.out.mono ?_
  rintro e w1 ⟨v, ⟨rfl, hown⟩, hk1⟩
  have hv := FrA.of_own (es := eachL xs hs day known) (by rw [show (eachL xs hs day known).length = hs.length by simp [eachL]]; exact hown)
  have HV := Lib.hid hv
  have hv5 : ∀ A c, v = .slice A (eachL xs hs day known).length c → ∀ g, A = some ⟨g, 0, none⟩ → g ≠ w1.heap.size + 1 := by
    intro A' c' hA g hg
    subst hg
    rcases own_form hown with ⟨e1, _⟩ | ⟨g', cap, e1, _, _, _, h4⟩
    · rw [hA] at e1
      injection e1 with e1 _ _
      cases e1
    · rw [hA] at e1
      injection e1 with e1 _ _
      injection e1 with e1
      injection e1 with e1
      omega
  have HV5 := Lib.hid hv5
  clear hown hv5
  obtain ⟨A', c', rfl, _⟩ := hv
  obtain ⟨W2, hW2⟩ : ∃ W2 : World, W2 = (w1.alloc (.cells #[.slice A' (eachL xs hs day known).length c'] 127)).alloc (.cells #[.slice none 0 0] 61) := ⟨_, rfl⟩
  have NB : RowC W2 w1.heap.size [.slice A' (eachL xs hs day known).length c'] := by rw [hW2]; exact (RowC.new w1 _ 127).kept ((Kept.refl _).alloc _)
  have NF : RowC W2 (w1.heap.size + 1) [.slice none 0 0] := by
    have := RowC.new (w1.alloc (.cells #[.slice A' (eachL xs hs day known).length c'] 127)) [.slice none 0 0] 61
    rw [World.size_alloc] at this
    rw [hW2]; exact this
  have kw12 : Kept w1 W2 := by rw [hW2]; exact ((Kept.refl _).alloc _).alloc _
  have z2 : W2.heap.size = w1.heap.size + 1 + 1 := by rw [hW2]; simp
  have HW2 := Lib.hid hW2
  have HNB := Lib.hid NB
  have HNF := Lib.hid NF
  have HK12 := Lib.hid kw12
  have HK1 := Lib.hid hk1
  have Z2 := Lib.hid z2
  have hz := hk1.size
  have hz0 := Z0.out
  have hwl : w.heap.size < w1.heap.size := by omega
  have hW0l : W0.heap.size < w1.heap.size + 1 := by omega
  clear hW2 NB NF kw12 z2 hz hz0 b1 b2 b3
  have HF : RowKit.Hid (∀ W, Kept W2 W → Calls Tryz.prog 129 #[.pointer (some ⟨w.heap.size + 1, 0, none⟩), .pointer (some ⟨w.heap.size, 0, none⟩), .pointer (some ⟨w1.heap.size, 0, none⟩), .pointer (some ⟨w1.heap.size + 1, 0, none⟩)] W fun e w' => e = .returned (.agg #[.int .i64 x, .int .i64 y]) ∧ FillPost (w1.heap.size + 1) out W w') := Lib.hid (fun W hW =>
    HX.out w1.heap.size (w1.heap.size + 1) _ W ((HK1.out.trans HK12.out).trans hW) (HNB.out.kept hW) ((HV.out.kept HK12.out).kept hW) (HNF.out.kept hW) hW0l (by omega) HV5.out)
  go_wp2_with fail
  rw [← HW2.out]
  refine (reckon_any 129 _ x y (FillPost (w1.heap.size + 1) out) _ e129 (fun W1 W1' hp k hk1' hk2 => hp.block k hk2 (by have := Z2.out; omega)) (fun W hW _ => HF.out W hW)).mono ?_
  rintro e w2 ⟨rfl, Wa, Wb, hka, hza, hpo, hap⟩
  have hkf := fill_kept ((K0.trans HK1.out).trans HK12.out) (by omega) hka hpo hap
  obtain ⟨vv, hbut, hrow, hown⟩ := hpo
  have hc2 : w2.cell? ⟨w1.heap.size + 1, 0, none⟩ = some vv := by
    have := Z2.out
    rw [World.cell?_of_block (hap.block (w1.heap.size + 1) (by omega) (by omega))]
    exact (hrow 0 _ rfl).1
  have ho2 : w2.ownsRow w.heap.size 84 2 vv out.length (hdFlat out) := by
    have h1 := Z2.out
    have h2 := (HK1.out.trans (HK12.out.trans hka)).size
    have h3 := Z0.out
    exact own_base (own_blocks hown (fun k hk => hap.block k (by omega) (by omega))) (by omega)
  have HKF := Lib.hid hkf
  have HO2 := Lib.hid ho2
  clear hkf ho2 hown hrow hbut hap hka hza
  go_wp2
  go_ret2
  exact ⟨vv, ⟨rfl, HO2.out⟩, HKF.out⟩

set_option maxRecDepth 100000 in
set_option maxHeartbeats 3200000 in
theorem fill_lim (A : Option Addr) (n c : Nat) (xs : List Eqv) (B : Option Addr) (hn hc : Nat) (hs : List Hd) (sn sd day known : Int) (w : World) (hT : TabA w A n c xs) (hlt : n ≤ 1000000) (hH : HeadsA w B hn hc hs)
    (he : eachE xs hs sn sd day known = 0) (hr : fillS (sn, sd) ((eachL xs hs day known).zip hs) = none) :
    Calls Tryz.prog 63 #[.slice A n c, .slice B hn hc, .agg #[.int .i64 sn, .int .i64 sd], .int .i64 day, .int .i64 known] w fun e w' => e = .returned (.tuple #[.slice none 0 0, .int .i64 2]) ∧ Kept w w' := by
  have hBl : 0 < hn → ∀ b off, B = some ⟨b, off, none⟩ → b < w.heap.size := fun h0 b off hB => by
    obtain ⟨b', off', e, hc⟩ := hH.2.2.2.2 h0
    rw [hB] at e
    cases e
    have hl := hH.1
    exact cell_lt (hc 0 _ (List.getElem?_eq_getElem (by omega))).1
  obtain ⟨hchk, hare, hvld, hall⟩ := each_ok he
  have hev := eachL_vld hchk hall
  obtain ⟨h12, hnv⟩ := areS_ok hare
  have hlen : (eachL xs hs day known).length = hs.length := by simp [eachL]
  have hmf : ∀ (fn : Fn) (first cap : Array Value) (w : World), (Instr.makeFunc fn first cap).run Tryz.prog w = .ok (.func fn first cap) w := fun _ _ _ _ => rfl
  obtain ⟨W0, hW0⟩ : ∃ W0 : World, W0 = (w.alloc (.cells #[.slice B hn hc] 61)).alloc (.cells #[.int .i64 sn, .int .i64 sd] 23) := ⟨_, rfl⟩
  have K0 : Kept w W0 := by rw [hW0]; exact ((Kept.refl w).alloc _).alloc _
  have r1 : RowC W0 w.heap.size [.slice B hn hc] := by rw [hW0]; exact (RowC.new w [.slice B hn hc] 61).kept ((Kept.refl _).alloc _)
  have r2 : RowC W0 (w.heap.size + 1) [.int .i64 sn, .int .i64 sd] := by
    have := RowC.new (w.alloc (.cells #[.slice B hn hc] 61)) [.int .i64 sn, .int .i64 sd] 23
    rw [World.size_alloc] at this
    rw [hW0]; exact this
  have z0 : W0.heap.size = w.heap.size + 1 + 1 := by rw [hW0]; simp
  have HW0 := Lib.hid hW0
  have R1 := Lib.hid r1
  have R2 := Lib.hid r2
  have Z0 := Lib.hid z0
  have HEa : RowKit.Hid (Calls Tryz.prog 127 #[.slice A n c, .slice B hn hc, .agg #[.int .i64 sn, .int .i64 sd], .int .i64 day, .int .i64 known] W0 fun e w' => ∃ v, (e = .returned (.tuple #[v, .int .i64 0]) ∧ w'.ownsRow W0.heap.size 92 2 v hs.length (fl2 (eachL xs hs day known))) ∧ Kept W0 w') := Lib.hid ((eachOf_any A n c xs B hn hc hs sn sd day known W0 (hT.kept K0) hlt (hH.kept K0)).mono (fun e w' h => by
    rcases h with ⟨⟨h1, _⟩ | ⟨_, v, h2, h3⟩, h4⟩
    · exact absurd he h1
    · exact ⟨v, ⟨h2, h3⟩, h4⟩))
  have HX : RowKit.Hid (∀ (be bf : Nat) (v : Value) (W : World), Kept W0 W → RowC W be [v] → FrA W v (eachL xs hs day known) → RowC W bf [.slice none 0 0] → W0.heap.size < bf → be ≠ bf → (∀ A c, v = .slice A (eachL xs hs day known).length c → ∀ g, A = some ⟨g, 0, none⟩ → g ≠ bf) →
      Calls Tryz.prog 129 #[.pointer (some ⟨w.heap.size + 1, 0, none⟩), .pointer (some ⟨w.heap.size, 0, none⟩), .pointer (some ⟨be, 0, none⟩), .pointer (some ⟨bf, 0, none⟩)] W fun e w' => e = .panicked limPanic ∧ But bf W w') := Lib.hid (fun be bf v W hk hv hf hb hlt2 hne h5 =>
    fill1_lim (w.heap.size + 1) w.heap.size be bf B hn hc hs v (eachL xs hs day known) sn sd W (r1.kept hk 0 _ rfl).1 ((hH.kept K0).kept hk) hv hf hlen (r2.kept hk) hb hvld hev (fun h hh => (hnv h hh).2) (by rw [← hH.1]; exact h12) (by omega) (by omega) hne (fun h0 b off hB => by have := hBl h0 b off hB; omega) h5 hr)
  have b1 := (r1 0 _ rfl).1
  have b2 := (r2 0 _ rfl).1
  have b3 := (r2 1 _ rfl).1
  clear hW0 r1 r2 z0 hT hH he hr hchk hare hvld hall hev h12 hnv hlen hBl
  have g129 := e129
  go_enter Tryz.func63, Tryz.ntmps63
  go_wp2_with fail
  rw [← HW0.out]
  refine HEa.out.mono ?_
  rintro e w1 ⟨v, ⟨rfl, hown⟩, hk1⟩
  have hv := FrA.of_own (es := eachL xs hs day known) (by rw [show (eachL xs hs day known).length = hs.length by simp [eachL]]; exact hown)
  have HV := Lib.hid hv
  have hv5 : ∀ A c, v = .slice A (eachL xs hs day known).length c → ∀ g, A = some ⟨g, 0, none⟩ → g ≠ w1.heap.size + 1 := by
    intro A' c' hA g hg
    subst hg
    rcases own_form hown with ⟨e1, _⟩ | ⟨g', cap, e1, _, _, _, h4⟩
    · rw [hA] at e1
      injection e1 with e1 _ _
      cases e1
    · rw [hA] at e1
      injection e1 with e1 _ _
      injection e1 with e1
      injection e1 with e1
      omega
  have HV5 := Lib.hid hv5
  clear hown hv5
  obtain ⟨A', c', rfl, _⟩ := hv
  obtain ⟨W2, hW2⟩ : ∃ W2 : World, W2 = (w1.alloc (.cells #[.slice A' (eachL xs hs day known).length c'] 127)).alloc (.cells #[.slice none 0 0] 61) := ⟨_, rfl⟩
  have NB : RowC W2 w1.heap.size [.slice A' (eachL xs hs day known).length c'] := by rw [hW2]; exact (RowC.new w1 _ 127).kept ((Kept.refl _).alloc _)
  have NF : RowC W2 (w1.heap.size + 1) [.slice none 0 0] := by
    have := RowC.new (w1.alloc (.cells #[.slice A' (eachL xs hs day known).length c'] 127)) [.slice none 0 0] 61
    rw [World.size_alloc] at this
    rw [hW2]; exact this
  have kw12 : Kept w1 W2 := by rw [hW2]; exact ((Kept.refl _).alloc _).alloc _
  have z2 : W2.heap.size = w1.heap.size + 1 + 1 := by rw [hW2]; simp
  have HW2 := Lib.hid hW2
  have HNB := Lib.hid NB
  have HNF := Lib.hid NF
  have HK12 := Lib.hid kw12
  have HK1 := Lib.hid hk1
  have Z2 := Lib.hid z2
  have hz := hk1.size
  have hz0 := Z0.out
  have hwl : w.heap.size < w1.heap.size := by omega
  have hW0l : W0.heap.size < w1.heap.size + 1 := by omega
  clear hW2 NB NF kw12 z2 hz hz0 b1 b2 b3
  have HF : RowKit.Hid (∀ W, Kept W2 W → Calls Tryz.prog 129 #[.pointer (some ⟨w.heap.size + 1, 0, none⟩), .pointer (some ⟨w.heap.size, 0, none⟩), .pointer (some ⟨w1.heap.size, 0, none⟩), .pointer (some ⟨w1.heap.size + 1, 0, none⟩)] W fun e w' => e = .panicked limPanic ∧ But (w1.heap.size + 1) W w') := Lib.hid (fun W hW =>
    HX.out w1.heap.size (w1.heap.size + 1) _ W ((HK1.out.trans HK12.out).trans hW) (HNB.out.kept hW) ((HV.out.kept HK12.out).kept hW) (HNF.out.kept hW) hW0l (by omega) HV5.out)
  go_wp2_with fail
  rw [← HW2.out]
  refine (reckon_limP 129 _ (But (w1.heap.size + 1)) _ e129 (fun W1 W1' hp k hk1' hk2 => hp.5 k hk2 (by have := Z2.out; simp; omega)) (fun W hW _ => HF.out W hW)).mono ?_
  rintro e w2 ⟨rfl, Wa, Wb, hka, hza, hpo, hap⟩
  have hkf := but_kept ((K0.trans HK1.out).trans HK12.out) (by omega) hka hpo hap
  have HKF := Lib.hid hkf
  clear hkf hpo hap hka hza
  go_wp2
  go_ret2
  exact ⟨rfl, HKF.out⟩

set_option maxRecDepth 100000 in
set_option maxHeartbeats 3200000 in
theorem fill_err (A : Option Addr) (n c : Nat) (xs : List Eqv) (B : Option Addr) (hn hc : Nat) (hs : List Hd) (sn sd day known : Int) (w : World) (hT : TabA w A n c xs) (hlt : n ≤ 1000000) (hH : HeadsA w B hn hc hs)
    (he : eachE xs hs sn sd day known ≠ 0) :
    Calls Tryz.prog 63 #[.slice A n c, .slice B hn hc, .agg #[.int .i64 sn, .int .i64 sd], .int .i64 day, .int .i64 known] w fun e w' => e = .returned (.tuple #[.slice none 0 0, .int .i64 (eachE xs hs sn sd day known)]) ∧ Kept w w' := by
  obtain ⟨W0, hW0⟩ : ∃ W0 : World, W0 = (w.alloc (.cells #[.slice B hn hc] 61)).alloc (.cells #[.int .i64 sn, .int .i64 sd] 23) := ⟨_, rfl⟩
  have K0 : Kept w W0 := by rw [hW0]; exact ((Kept.refl w).alloc _).alloc _
  have r1 : RowC W0 w.heap.size [.slice B hn hc] := by rw [hW0]; exact (RowC.new w [.slice B hn hc] 61).kept ((Kept.refl _).alloc _)
  have r2 : RowC W0 (w.heap.size + 1) [.int .i64 sn, .int .i64 sd] := by
    have := RowC.new (w.alloc (.cells #[.slice B hn hc] 61)) [.int .i64 sn, .int .i64 sd] 23
    rw [World.size_alloc] at this
    rw [hW0]; exact this
  have z0 : W0.heap.size = w.heap.size + 1 + 1 := by rw [hW0]; simp
  have HW0 := Lib.hid hW0
  have R1 := Lib.hid r1
  have R2 := Lib.hid r2
  have Z0 := Lib.hid z0
  obtain ⟨E, hE⟩ : ∃ E, E = eachE xs hs sn sd day known := ⟨_, rfl⟩
  rw [← hE] at he ⊢
  have HEa : RowKit.Hid (Calls Tryz.prog 127 #[.slice A n c, .slice B hn hc, .agg #[.int .i64 sn, .int .i64 sd], .int .i64 day, .int .i64 known] W0 fun e w' => e = .returned (.tuple #[.slice none 0 0, .int .i64 E]) ∧ Kept W0 w') := Lib.hid ((eachOf_any A n c xs B hn hc hs sn sd day known W0 (hT.kept K0) hlt (hH.kept K0)).mono (fun e w' h => by
    rcases h with ⟨⟨h1, h2⟩ | ⟨h1, _⟩, h4⟩
    · exact ⟨by rw [h2, hE], h4⟩
    · exact absurd (hE.trans h1) he))
  have hne : (E != 0) = true := by simpa using he
  have b1 := (r1 0 _ rfl).1
  have b2 := (r2 0 _ rfl).1
  have b3 := (r2 1 _ rfl).1
  clear hW0 r1 r2 z0 hT hH he hE
  go_enter Tryz.func63, Tryz.ntmps63
  go_wp2_with fail
  rw [← HW0.out]
  refine HEa.out.mono ?_
  rintro e w1 ⟨rfl, hk1⟩
  have HK1 := Lib.hid hk1
  clear hk1
  go_wp2
  go_ret2
  exact ⟨rfl, (K0.trans HK1.out).alloc _⟩
def FillRes (w : World) (r : List Hd × Int) (e : Ending) (w' : World) : Prop :=
  ∃ v, e = .returned (.tuple #[v, .int .i64 r.2]) ∧ w'.ownsRow w.heap.size 84 2 v r.1.length (hdFlat r.1) ∧ Kept w w'
theorem fill_any (A : Option Addr) (n c : Nat) (xs : List Eqv) (B : Option Addr) (hn hc : Nat) (hs : List Hd) (sn sd day known : Int) (w : World) (hT : TabA w A n c xs) (hlt : n ≤ 1000000) (hH : HeadsA w B hn hc hs) :
    Calls Tryz.prog 63 #[.slice A n c, .slice B hn hc, .agg #[.int .i64 sn, .int .i64 sd], .int .i64 day, .int .i64 known] w (FillRes w (fillR xs hs sn sd day known)) := by
  by_cases he : eachE xs hs sn sd day known = 0
  · rcases hr : fillS (sn, sd) (zipH xs hs day known) with _ | r
    · have e1 : fillR xs hs sn sd day known = ([], 2) := by unfold fillR; rw [if_pos he, hr]
      rw [e1]
      refine (fill_lim A n c xs B hn hc hs sn sd day known w hT hlt hH he hr).mono ?_
      rintro e w' ⟨rfl, hk⟩
      exact ⟨_, rfl, ⟨rfl, .inl ⟨rfl, rfl⟩⟩, hk⟩
    · obtain ⟨⟨x, y⟩, out⟩ := r
      have e1 : fillR xs hs sn sd day known = (out, 0) := by unfold fillR; rw [if_pos he, hr]
      rw [e1]
      refine (fill_ok2 A n c xs B hn hc hs sn sd day known x y out w hT hlt hH he hr).mono ?_
      rintro e w' ⟨v, ⟨rfl, h1⟩, hk⟩
      exact ⟨v, rfl, h1, hk⟩
  · have e1 : fillR xs hs sn sd day known = ([], eachE xs hs sn sd day known) := by unfold fillR; rw [if_neg he]
    rw [e1]
    refine (fill_err A n c xs B hn hc hs sn sd day known w hT hlt hH he).mono ?_
    rintro e w' ⟨rfl, hk⟩
    exact ⟨_, rfl, ⟨rfl, .inl ⟨rfl, rfl⟩⟩, hk⟩
end Go.Proofs.YtcjpecdnenemaaaGreatDoor

namespace Go.Proofs.YtcjpecdnenemaaaGreatDoor
set_option linter.all false
open Go.RowKit Go.Shelf

def headAt (hs : List Hd) (i : Nat) : Bool := match hs[i]? with | some h => headB (hs.take i) h | none => true
def hdB (hs : List Hd) (k : Nat) : Bool := (List.range k).all (headAt hs)
theorem hdB_all (hs : List Hd) : hdB hs hs.length = areL hs := rfl
theorem hdB_succ {hs : List Hd} {k : Nat} {h : Hd} (hx : hs[k]? = some h) : hdB hs (k + 1) = (hdB hs k && headB (hs.take k) h) := by
  unfold hdB
  rw [List.range_succ, List.all_append]
  simp [headAt, hx]
theorem hdB_fell {hs : List Hd} {k : Nat} (hk : k ≤ hs.length) (h : hdB hs k = false) : areL hs = false := by
  rw [← hdB_all]
  unfold hdB at h ⊢
  rw [List.all_eq_false] at h ⊢
  obtain ⟨i, hi, hf⟩ := h
  exact ⟨i, List.mem_range.2 (by have := List.mem_range.1 hi; omega), hf⟩
def curB (hs : List Hd) (x : Hd) (q : Nat) : Bool := nameB x.sort && inB x.num 0 100000 && !(seenS (hs.take q) x.sort)
theorem curB_zero (hs : List Hd) (x : Hd) : curB hs x 0 = (nameB x.sort && inB x.num 0 100000) := by simp [curB, seenS]
theorem curB_succ {hs : List Hd} {x y : Hd} {q : Nat} (hy : hs[q]? = some y) : curB hs x (q + 1) = (curB hs x q && !(decide (y.sort = x.sort))) := by
  unfold curB
  rw [take_snoc' hy]
  unfold seenS
  rw [List.any_append]
  simp [Bool.and_assoc]
theorem bytes_inj {a b : ByteArray} (h : a.toList = b.toList) : a = b := by
  simp only [ByteArray.toList_eq] at h
  cases a
  cases b
  simp_all
set_option maxRecDepth 100000 in
set_option maxHeartbeats 4000000 in
theorem rheads_any (A : Option Addr) (n c : Nat) (hs : List Hd) (w : World) (h : HeadsA w A n c hs) :
    Calls Tryz.prog 170 #[.slice A n c] w fun e w' => e = .returned (.bool (areS hs)) ∧ Kept w w' := by
  have H := Lib.hid h
  have hnc := h.2.1
  have hm := h.2.2.1
  clear h
  by_cases h12 : 12 < n
  · have HO := Lib.hid (show areS hs = false by unfold areS; rw [decide_eq_false (by rw [H.out.1]; omega)]; rfl)
    have h4 : ¬ (n : Int) ≤ 12 := by omega
    have h5 : decide ((n : Int) ≤ 12) = false := decide_eq_false h4
    go_enter Tryz.func170, Tryz.ntmps170
    go_wp2_with fail
    go_loopw [3, 4] (fun o i wr => o = .bool false ∧ i = .int .i64 0 ∧ Kept w wr) (fun _ _ _ => 0)
    case atStart => exact ⟨by first | rfl | (simp; omega), by first | rfl | go_num, Kept.refl _⟩
    case round =>
      obtain ⟨rfl, rfl, hkr⟩ := hrel
      have h6 : decide ((0 : Int) < (n : Int)) = true := decide_eq_true (by omega)
      go_wp2
      go_ret
      exact ⟨ret_bool (by rw [HO.out]), hkr⟩
  have h4 : (n : Int) ≤ 12 := by omega
  have h5 : decide ((n : Int) ≤ 12) = true := decide_eq_true h4
  have H12 := Lib.hid (show areS hs = areL hs by unfold areS; rw [decide_eq_true (by rw [H.out.1]; omega)]; rfl)
  go_enter Tryz.func170, Tryz.ntmps170
  go_wp2_with fail
  go_loopw [3, 4] (fun o i wr => ∃ k : Nat, k ≤ n ∧ o = .bool (hdB hs k) ∧ i = .int .i64 k ∧ Kept w wr) (fun _ i _ => n - (intOf i).toNat)
  case atStart => exact ⟨0, by omega, by first | rfl | (simp [hdB]; done) | (simp [hdB]; omega), by first | rfl | go_num, Kept.refl _⟩
  case round =>
    obtain ⟨k, hk, rfl, rfl, hkr⟩ := hrel
    have HKR := Lib.hid hkr
    clear hkr h5
    by_cases hlt : k < n
    · have hl1 : decide ((k : Int) < (n : Int)) = true := decide_eq_true (by omega)
      obtain ⟨ob, hob⟩ : ∃ ob, ob = hdB hs k := ⟨_, rfl⟩
      rw [← hob]
      have HOB := Lib.hid hob
      clear hob
      cases ob
      · have HF := Lib.hid (hdB_fell (by rw [H.out.1]; omega) HOB.out.symm)
        go_wp2
        go_ret
        exact ⟨ret_bool (by rw [H12.out, HF.out]), HKR.out⟩
      obtain ⟨b, off, hA, hc⟩ := H.out.2.2.2.2 (by omega)
      have HC := Lib.hid (And.intro hA hc)
      have hxl : k < hs.length := by rw [H.out.1]; exact hlt
      obtain ⟨x, hx⟩ : ∃ x, hs[k]? = some x := ⟨hs[k]'hxl, List.getElem?_eq_getElem hxl⟩
      obtain ⟨bs, bn1, bn2⟩ := H.out.2.2.2.1 x (List.mem_of_getElem? hx)
      have q0 := (HKR.out.cells _ _ (cell_lt (hc k x hx).1)).trans (hc k x hx).1
      have q1 := (HKR.out.cells _ _ (cell_lt (hc k x hx).2)).trans (hc k x hx).2
      have l0 := cell_lt q0
      have HX := Lib.hid hx
      subst hA
      clear hx hc
      go_wp2_with fail
      refine (rname_any x.sort bs _).mono ?_
      rintro e w2 ⟨rfl, hk2⟩
      have K2 := Lib.hid (HKR.out.trans hk2)
      replace q0 := (hk2.cells _ _ l0).trans q0
      replace q1 := (hk2.cells _ _ l0).trans q1
      replace l0 := cell_lt q0
      clear hk2
      go_upto_region 6 with (fail)
      obtain ⟨nb, hnb⟩ : ∃ nb, nb = nameB x.sort := ⟨_, rfl⟩
      have HNB := Lib.hid hnb
      rw [← hnb]
      clear hnb
      go_cut [3] (fun s3 wx => s3 = .bool (curB hs x 0) ∧ Kept w wx)
      case first =>
        cases nb
        · go_wp2
          go_meet
          refine ⟨?_, K2.out⟩
          rw [curB_zero, ← HNB.out]
          first | rfl | (simp; done) | trace_state
        · go_wp2_with fail
          refine (rwithin_any _ _ _ _).mono ?_
          rintro e w3 ⟨rfl, hk3⟩
          go_wp2
          go_meet
          refine ⟨?_, by first | exact K2.out.trans hk3 | (subst hk3; exact K2.out)⟩
          rw [curB_zero, ← HNB.out]
          first | rfl | (simp; done) | trace_state
      obtain ⟨rfl, kc⟩ := hcut
      have KC := Lib.hid kc
      clear kc q0 q1 l0
      obtain ⟨wa, rfl⟩ : ∃ wa, wa = wr := ⟨_, rfl⟩
      go_wp2_with fail
      go_loopw [3, 6] (fun o j wi => ∃ q : Nat, q ≤ k ∧ o = .bool (curB hs x q) ∧ j = .int .i64 q ∧ Kept w wi) (fun _ j _ => k - (intOf j).toNat)
      case atStart => exact ⟨0, by omega, rfl, by first | rfl | go_num, KC.out⟩
      case round =>
        obtain ⟨q, hq, rfl, rfl, hki⟩ := hrel
        have HKI := Lib.hid hki
        clear hki
        by_cases hlq : q < k
        · have hl2 : decide ((q : Int) < (k : Int)) = true := decide_eq_true (by omega)
          have hyl : q < hs.length := by rw [H.out.1]; omega
          obtain ⟨y, hy⟩ : ∃ y, hs[q]? = some y := ⟨hs[q]'hyl, List.getElem?_eq_getElem hyl⟩
          have HY := Lib.hid (curB_succ (x := x) hy)
          have q0 := (HKI.out.cells _ _ (cell_lt (HC.out.2 k x HX.out).1)).trans (HC.out.2 k x HX.out).1
          have p0 := (HKI.out.cells _ _ (cell_lt (HC.out.2 q y hy).1)).trans (HC.out.2 q y hy).1
          have i0 : (0 : Int) ≤ (k : Int) := by omega
          have i1 : (k : Int) < (n : Int) := by omega
          have j0 : (0 : Int) ≤ (q : Int) := by omega
          have j1 : (q : Int) < (n : Int) := by omega
          have it : (k : Int).toNat = k := by omega
          have jt : (q : Int).toNat = q := by omega
          obtain ⟨cb, hcb⟩ : ∃ cb, cb = curB hs x q := ⟨_, rfl⟩
          rw [← hcb]
          rw [← hcb] at HY
          clear hcb hy
          cases cb
          · go_upto_region 10 with (fail)
            go_quiet (fail)
            go_wp2
            go_roundw
            case rel => exact ⟨q + 1, by omega, by rw [HY.out]; rfl, by go_num, by first | exact HKI.out.drewN _ | exact HKI.out.drew | exact HKI.out⟩
            case measure => simp [intOf]; omega
          · by_cases he : y.sort = x.sort
            · have he2 : (y.sort.toList == x.sort.toList) = true := by rw [he]; simp
              have HE := Lib.hid (show decide (y.sort = x.sort) = true from decide_eq_true he)
              clear he
              go_upto_region 10 with (fail)
              go_quiet (fail)
              go_wp2
              go_roundw
              case rel => exact ⟨q + 1, by omega, by rw [HY.out, HE.out]; rfl, by go_num, by first | exact HKI.out.drewN _ | exact HKI.out.drew | exact HKI.out⟩
              case measure => simp [intOf]; omega
            · have he2 : (y.sort.toList == x.sort.toList) = false := by
                rw [beq_eq_false_iff_ne]
                intro h
                exact he (bytes_inj h)
              have HE := Lib.hid (show decide (y.sort = x.sort) = false from decide_eq_false he)
              clear he
              go_upto_region 10 with (fail)
              go_quiet (fail)
              go_wp2
              go_roundw
              case rel => exact ⟨q + 1, by omega, by rw [HY.out, HE.out]; rfl, by go_num, by first | exact HKI.out.drewN _ | exact HKI.out.drew | exact HKI.out⟩
              case measure => simp [intOf]; omega
        · obtain rfl : q = k := by omega
          have hl2 : decide ((q : Int) < (q : Int)) = false := decide_eq_false (by omega)
          have HH := Lib.hid (hdB_succ HX.out)
          go_wp2
          go_roundw
          case rel => exact ⟨q + 1, by omega, by rw [HH.out, ← HOB.out]; rfl, by go_num, HKI.out⟩
          case measure => simp [intOf]; omega
    · obtain rfl : k = n := by omega
      have hl1 : decide ((k : Int) < (k : Int)) = false := decide_eq_false (by omega)
      have HA := Lib.hid (show areS hs = hdB hs k by rw [H12.out, ← hdB_all, H.out.1])
      go_wp2
      go_ret
      exact ⟨ret_bool (by rw [HA.out]), HKR.out⟩
end Go.Proofs.YtcjpecdnenemaaaGreatDoor

namespace Go.Proofs.YtcjpecdnenemaaaGreatDoor
set_option linter.all false
open Go.RowKit Go.Shelf

def askE (xs : List Eqv) (hs : List Hd) (r : Bool) (day known : Int) : Int :=
  if (chkS xs).2 = 0 then (if (areS hs && r) = true then (if eachB xs hs day known = true then 0 else 10) else 1) else (chkS xs).2
theorem askE_each (xs : List Eqv) (hs : List Hd) (sn sd day known : Int) : askE xs hs (vld sn sd) day known = eachE xs hs sn sd day known := rfl
def AskRes (w : World) (xs : List Eqv) (hs : List Hd) (r : Bool) (day known : Int) (e : Ending) (w' : World) : Prop :=
  ∃ v, e = .returned (.tuple #[v, .int .i64 (askE xs hs r day known)]) ∧ (askE xs hs r day known = 0 → w'.ownsRow w.heap.size 23 2 v hs.length (fl2 (eachL xs hs day known))) ∧ Kept w w'
set_option maxRecDepth 100000 in
set_option maxHeartbeats 4000000 in
theorem asked_any (A : Option Addr) (n c : Nat) (xs : List Eqv) (B : Option Addr) (hn hc : Nat) (hs : List Hd) (r : Bool) (day known : Int) (w : World) (hT : TabA w A n c xs) (hH : HeadsA w B hn hc hs) :
    Calls Tryz.prog 126 #[.slice A n c, .slice B hn hc, .bool r, .int .i64 day, .int .i64 known] w (AskRes w xs hs r day known) := by
  have HT := Lib.hid hT
  have HH := Lib.hid hH
  have hhc := hH.2.1
  have hhm := hH.2.2.1
  clear hT hH
  obtain ⟨E, hE⟩ : ∃ E, E = askE xs hs r day known := ⟨_, rfl⟩
  have HEE := Lib.hid hE
  unfold AskRes
  rw [← hE]
  clear hE
  obtain ⟨⟨c0, c1⟩, hck⟩ : ∃ q, q = chkS xs := ⟨_, rfl⟩
  have HCK := Lib.hid hck
  have HC : RowKit.Hid (∀ W, Kept w W → Calls Tryz.prog 37 #[.slice A n c] W fun e w' => e = .returned (.tuple #[.int .i64 c0, .int .i64 c1]) ∧ Kept W w') := Lib.hid (fun W hW => by
    have := rcheck_any A n c xs W (HT.out.kept hW)
    rw [← hck] at this
    exact this)
  clear hck
  by_cases h0 : c1 = 0
  rotate_left
  · have hb : (c1 != 0) = true := by simpa using h0
    have HV : RowKit.Hid (E = c1) := Lib.hid (by rw [HEE.out]; unfold askE; rw [← HCK.out, if_neg h0])
    have HN := Lib.hid h0
    clear h0
    go_enter Tryz.func126, Tryz.ntmps126
    go_wp2_with fail
    refine (HC.out _ (Kept.refl _)).mono ?_
    rintro e w1 ⟨rfl, hk1⟩
    go_wp2
    go_ret2
    exact ⟨.slice none 0 0, by rw [HV.out]; rfl, fun h => absurd (HV.out.symm.trans h) HN.out, hk1⟩
  subst h0
  have HF := Lib.hid (fun x hx => chk_form (x := x) (show (chkS xs).2 = 0 by rw [← HCK.out]) hx)
  have HE2 : RowKit.Hid (E = if (areS hs && r) = true then (if eachB xs hs day known = true then 0 else 10) else 1) := Lib.hid (by rw [HEE.out]; unfold askE; rw [← HCK.out, if_pos rfl])
  have hcz : ((0 : Int) != 0) = false := by decide
  obtain ⟨ab, hab⟩ : ∃ ab, ab = areS hs := ⟨_, rfl⟩
  have HAB := Lib.hid hab
  have HHD : RowKit.Hid (∀ W, Kept w W → Calls Tryz.prog 170 #[.slice B hn hc] W fun e w' => e = .returned (.bool ab) ∧ Kept W w') := Lib.hid (fun W hW => by rw [hab]; exact rheads_any B hn hc hs W (HH.out.kept hW))
  rw [← hab] at HE2
  clear hab
  cases ab
  · have HV : RowKit.Hid (E = 1) := Lib.hid (by rw [HE2.out]; rfl)
    go_enter Tryz.func126, Tryz.ntmps126
    go_wp2_with fail
    refine (HC.out _ (Kept.refl _)).mono ?_
    rintro e w1 ⟨rfl, hk1⟩
    go_wp2_with fail
    refine (HHD.out _ hk1).mono ?_
    rintro e w2 ⟨rfl, hk2⟩
    go_wp2
    go_ret2
    exact ⟨.slice none 0 0, by rw [HV.out]; rfl, fun h => (by rw [HV.out] at h; cases h), hk1.trans hk2⟩
  cases r
  · have HV : RowKit.Hid (E = 1) := Lib.hid (by rw [HE2.out]; rfl)
    go_enter Tryz.func126, Tryz.ntmps126
    go_wp2_with fail
    refine (HC.out _ (Kept.refl _)).mono ?_
    rintro e w1 ⟨rfl, hk1⟩
    go_wp2_with fail
    refine (HHD.out _ hk1).mono ?_
    rintro e w2 ⟨rfl, hk2⟩
    go_wp2
    go_ret2
    exact ⟨.slice none 0 0, by rw [HV.out]; rfl, fun h => (by rw [HV.out] at h; cases h), hk1.trans hk2⟩
  have HE3 : RowKit.Hid (E = if eachB xs hs day known = true then 0 else 10) := Lib.hid (by rw [HE2.out]; rfl)
  have h12 : hn ≤ 12 := by
    have ha := HAB.out.symm
    unfold areS at ha
    simp only [Bool.and_eq_true, decide_eq_true_eq] at ha
    rw [← HH.out.1]; exact ha.1
  obtain ⟨i0, hi0, hz0, hz1, hz2⟩ := info_parts info23
  go_enter Tryz.func126, Tryz.ntmps126
  go_wp2_with fail
  refine (HC.out _ (Kept.refl _)).mono ?_
  rintro e w1 ⟨rfl, hk1⟩
  go_wp2_with fail
  refine (HHD.out _ hk1).mono ?_
  rintro e w2 ⟨rfl, hk2⟩
  have K2 := Lib.hid (hk1.trans hk2)
  clear hk1 hk2
  go_wp2_with fail
  go_loopw [15, 16] (fun v i wr => ∃ k : Nat, k ≤ hn ∧ i = .int .i64 k ∧ (∀ j x, j < k → hs[j]? = some x → (inForceS xs x.sort day known).isSome = true) ∧ wr.ownsRow w.heap.size 23 2 v k (fl2 (eachL xs (hs.take k) day known)) ∧ Kept w wr) (fun _ i _ => hn - (intOf i).toNat)
  case atStart => exact ⟨0, by omega, by first | rfl | go_num, fun j x hj => by omega, by exact ⟨rfl, .inl ⟨rfl, rfl⟩⟩, K2.out⟩
  case round =>
    obtain ⟨k, hk, rfl, ho, hown, hkr⟩ := hrel
    have Ho := Lib.hid ho
    have HO := Lib.hid hown
    have HKR := Lib.hid hkr
    clear ho hown hkr
    by_cases hlt2 : k < hn
    · obtain ⟨b, off, hB, hcc⟩ := HH.out.2.2.2.2 (by omega)
      subst hB
      have hxl : k < hs.length := by rw [HH.out.1]; exact hlt2
      obtain ⟨x, hx⟩ : ∃ x, hs[k]? = some x := ⟨hs[k]'hxl, List.getElem?_eq_getElem hxl⟩
      have q0 := (HKR.out.cells _ _ (cell_lt (hcc k x hx).1)).trans (hcc k x hx).1
      have q1 := (HKR.out.cells _ _ (cell_lt (hcc k x hx).2)).trans (hcc k x hx).2
      have HX := Lib.hid hx
      have HI : RowKit.Hid (∀ W, Kept wr W → Calls Tryz.prog 116 #[.slice A n c, .string x.sort, .int .i64 day, .int .i64 known] W fun e w' => e = .returned (forV (inForceS xs x.sort day known)) ∧ Kept W w') := Lib.hid (fun W hW => rinForce_for A n c xs x.sort day known W (HT.out.kept (HKR.out.trans hW)) HF.out)
      clear hx hcc
      rcases hf : inForceS xs x.sort day known with _ | y
      · have HNo := Lib.hid (show eachB xs hs day known = false by
          unfold eachB
          rw [List.all_eq_false]
          exact ⟨x, List.mem_of_getElem? HX.out, by rw [hf]; simp⟩)
        rw [hf] at HI
        have HV : RowKit.Hid (E = 10) := Lib.hid (by rw [HE3.out, HNo.out]; rfl)
        clear hf
        dsimp only [forV, eqV, Option.getD_none, Option.isSome_none, zeroE] at HI
        go_wp2_with fail
        refine (HI.out _ (Kept.refl _)).mono ?_
        rintro e w5 ⟨rfl, hk5⟩
        have K5 := Lib.hid (HKR.out.trans hk5)
        clear hk5
        go_wp2
        go_ret2
        exact ⟨.slice none 0 0, by rw [HV.out]; rfl, fun h => (by rw [HV.out] at h; cases h), K5.out.alloc _⟩
      · have HS := Lib.hid (show stS (inForceS xs x.sort day known) = (y.num, y.den) by rw [hf]; rfl)
        have HII := Lib.hid (show (inForceS xs x.sort day known).isSome = true by rw [hf]; rfl)
        rw [hf] at HI
        clear hf
        dsimp only [forV, eqV, Option.getD_some, Option.isSome_some] at HI
        go_wp2_with fail
        refine (HI.out _ (Kept.refl _)).mono ?_
        rintro e w5 ⟨rfl, hk5⟩
        have HO5 := Lib.hid (own_kept (own_kept (own_kept HO.out hk5) ((Kept.refl w5).alloc (.cells #[.int .i64 y.id, .int .i64 y.frm, .int .i64 y.kno, .string y.sort, .int .i64 y.num, .int .i64 y.den, .int .i64 y.off] 37))) ((Kept.refl _).alloc (.cells #[.int .i64 y.num, .int .i64 y.den] 23)))
        have HK5 : RowKit.Hid (Kept w (w5.alloc (.cells #[.int .i64 y.id, .int .i64 y.frm, .int .i64 y.kno, .string y.sort, .int .i64 y.num, .int .i64 y.den, .int .i64 y.off] 37))) := Lib.hid ((HKR.out.trans hk5).alloc _)
        have HN := Lib.hid (news_of (W := w5.alloc (.cells #[.int .i64 y.id, .int .i64 y.frm, .int .i64 y.kno, .string y.sort, .int .i64 y.num, .int .i64 y.den, .int .i64 y.off] 37)) (cs := [.int .i64 y.num, .int .i64 y.den]) (t := 23) (m := w5.heap.size + 1) (by simp))
        have H16 := Lib.hid (one2 y.num y.den)
        have HZ := Lib.hid (HK5.out.alloc (.cells #[.int .i64 y.num, .int .i64 y.den] 23)).size
        have HA3 : RowKit.Hid (k + 1 ≤ maxLen) := Lib.hid (by unfold maxLen; omega)
        have HA4 : RowKit.Hid ((k + 1) * 16 ≤ 140737488355328) := Lib.hid (by omega)
        clear hk5
        go_wp2_with (at_builtin; refine wpList_append_lies _ rfl (.tmp 55) (.tmp 58) 32 rfl w.heap.size 23 i0 _ 2 16 Tryz.underlying32 hi0 hz0 hz1 hz2 rfl (by decide) _ k _ rfl HO5.out ⟨w5.heap.size + 1, 0, none⟩ 1 1 [.int .i64 y.num, .int .i64 y.den] rfl rfl HN.out H16.out (by decide) HA3.out HA4.out HZ.out _ rfl ?_; intro g cap w6 hown6 hgrow6 hat6 hlt6)
        have HO6 := Lib.hid hown6
        have HK6 := Lib.hid ((HK5.out.alloc (.cells #[.int .i64 y.num, .int .i64 y.den] 23)).grown hgrow6 (fun r hr => (HO.out.lt r hr).1))
        clear hown6 hgrow6 hat6 hlt6
        go_roundw
        case rel =>
          refine ⟨k + 1, by omega, by go_num, fun j z hj hz => ?_, ?_, HK6.out⟩
          · rcases Nat.lt_or_eq_of_le (Nat.le_of_lt_succ hj) with h | h
            · exact Ho.out j z h hz
            · subst h
              have := HX.out
              rw [hz] at this
              cases this
              exact HII.out
          · have e1 : fl2 (eachL xs (hs.take (k + 1)) day known) = fl2 (eachL xs (hs.take k) day known) ++ [.int .i64 y.num, .int .i64 y.den] := by
              rw [take_snoc' HX.out]
              unfold eachL
              rw [List.map_append, List.map_cons, List.map_nil, fl2_snoc, HS.out]
            rw [e1]; exact HO6.out
        case measure => simp [intOf]; omega
    · obtain rfl : k = hn := by omega
      have HYes := Lib.hid (show eachB xs hs day known = true by
        unfold eachB
        rw [List.all_eq_true]
        intro x hx
        obtain ⟨j, hj⟩ := List.getElem?_of_mem hx
        exact Ho.out j x (by rw [← HH.out.1]; exact (List.getElem?_eq_some_iff.1 hj).1) hj)
      have HT2 := Lib.hid (show hs.take k = hs from List.take_of_length_le (by rw [HH.out.1]; exact Nat.le_refl _))
      have HV : RowKit.Hid (E = 0) := Lib.hid (by rw [HE3.out, HYes.out]; rfl)
      go_wp2
      have hv0 := HV.out
      clear HV
      subst hv0
      go_ret2
      refine ⟨_, rfl, fun _ => ?_, HKR.out⟩
      have := HO.out
      rw [HT2.out] at this
      rw [HH.out.1]
      exact this
end Go.Proofs.YtcjpecdnenemaaaGreatDoor

namespace Go.Proofs.YtcjpecdnenemaaaGreatDoor
set_option linter.all false
open Go.RowKit Go.Shelf

theorem excS_ask {xs : List Eqv} {hs : List Hd} {day known : Int} (h : askE xs hs true day known = 0) : excS xs hs 0 1 day known = okL (usesF (zipE xs hs day known)) := by
  have h2 : eachE xs hs 0 1 day known = 0 := h
  unfold excS
  rw [if_pos h2]
  have := excF_zero (zipE_good h2).1
  unfold zipE at this
  rw [this]
  rfl
theorem excS_askn {xs : List Eqv} {hs : List Hd} {day known : Int} (h : askE xs hs true day known ≠ 0) : excS xs hs 0 1 day known = (0, 0, askE xs hs true day known) := by
  have h2 : eachE xs hs 0 1 day known ≠ 0 := h
  unfold excS
  rw [if_neg h2]
  rfl
theorem mulS_one {p : Int × Int} {n : Int} (hp : vld p.1 p.2 = true) (h1 : 0 ≤ n) (h2 : n ≤ 100000) : mulS n 1 p.1 p.2 = okL (mulF p.1 p.2 n 1) := by
  have hv := vld_whole (k := n) (by omega) (by omega)
  rw [mulS_comm]
  unfold mulS
  rw [if_pos (by rw [hp, hv]; rfl)]
theorem addS_val {a p : Int × Int} (ha : vld a.1 a.2 = true) (hp : vld p.1 p.2 = true) : addS a.1 a.2 p.1 p.2 = okL (addO (some a) p) := by
  unfold addS
  rw [if_pos (by rw [ha, hp]; rfl)]
  rfl
theorem But.row2 {p b : Nat} {w w' : World} {vs : List Value} (h : But p w w') (hr : RowC w b vs) (hne : b ≠ p) : RowC w' b vs := h.row hr hne

set_option maxRecDepth 100000 in
set_option maxHeartbeats 8000000 in
theorem ruses_any (A : Option Addr) (n c : Nat) (xs : List Eqv) (B : Option Addr) (hn hc : Nat) (hs : List Hd) (day known : Int) (w : World) (hT : TabA w A n c xs) (hH : HeadsA w B hn hc hs) :
    Calls Tryz.prog 60 #[.slice A n c, .slice B hn hc, .int .i64 day, .int .i64 known] w fun e w' => e = .returned (.tuple #[.agg #[.int .i64 (excS xs hs 0 1 day known).1, .int .i64 (excS xs hs 0 1 day known).2.1], .int .i64 (excS xs hs 0 1 day known).2.2]) ∧ Kept w w' := by
  obtain ⟨⟨X, Y, Z⟩, hx⟩ : ∃ r, r = excS xs hs 0 1 day known := ⟨_, rfl⟩
  rw [← hx]
  have HX := Lib.hid hx
  clear hx
  obtain ⟨W0, hW0⟩ : ∃ W0 : World, W0 = w.alloc (.cells #[.int .i64 0, .int .i64 0] 23) := ⟨_, rfl⟩
  have K0 : RowKit.Hid (Kept w W0) := Lib.hid (by rw [hW0]; exact (Kept.refl _).alloc _)
  have R0 : RowKit.Hid (RowC W0 w.heap.size [.int .i64 0, .int .i64 0]) := Lib.hid (by rw [hW0]; exact RowC.new w _ 23)
  have Z0 : RowKit.Hid (W0.heap.size = w.heap.size + 1) := Lib.hid (by rw [hW0]; simp)
  have HW0 := Lib.hid hW0
  have HH := Lib.hid (hH.kept K0.out)
  have hhc := hH.2.1
  have hhm := hH.2.2.1
  obtain ⟨E, hE⟩ : ∃ E, E = askE xs hs true day known := ⟨_, rfl⟩
  have HEE := Lib.hid hE
  have HAS : RowKit.Hid (Calls Tryz.prog 126 #[.slice A n c, .slice B hn hc, .bool true, .int .i64 day, .int .i64 known] W0 fun e w' => ∃ v, e = .returned (.tuple #[v, .int .i64 E]) ∧ (E = 0 → w'.ownsRow W0.heap.size 23 2 v hs.length (fl2 (eachL xs hs day known))) ∧ Kept W0 w') := Lib.hid (by
    have := asked_any A n c xs B hn hc hs true day known W0 (hT.kept K0.out) HH.out
    unfold AskRes at this
    rw [← hE] at this
    exact this)
  clear hT hH hW0 hE
  by_cases hz : E = 0
  rotate_left
  · have hzb : (E != 0) = true := by simpa using hz
    have HV : RowKit.Hid ((X, Y, Z) = (0, 0, E)) := Lib.hid (by rw [HX.out, HEE.out]; exact excS_askn (by rw [← HEE.out]; exact hz))
    clear hz
    go_enter Tryz.func60, Tryz.ntmps60
    go_upto_region 1 with (fail)
    rw [← HW0.out]
    go_wp2_with fail
    refine HAS.out.mono ?_
    rintro e w1 ⟨v, rfl, _, hk1⟩
    have RR := R0.out.kept hk1
    have e0 := (RR 0 _ rfl).1
    have e1 := (RR 1 _ rfl).1
    have y0 := (RR 0 _ rfl).2
    have y1 := (RR 1 _ rfl).2
    have le := cell_lt e0
    have K1 := Lib.hid (K0.out.trans hk1)
    clear RR hk1
    have hv := HV.out
    simp only [Prod.mk.injEq] at hv
    obtain ⟨rfl, rfl, rfl⟩ := hv
    go_wp2
    refine bodyPost_ret (v := .tuple #[.agg #[.int .i64 0, .int .i64 0], .int .i64 Z]) (by simp [results, Tryz.results60, go_sem, e0, e1]) rfl ⟨rfl, ?_⟩
    exact (K1.out.setCell (by first | (simp; done) | (simp; omega)) _).setCell (by first | (simp; done) | (simp; omega)) _
  subst hz
  have he0 : askE xs hs true day known = 0 := HEE.out.symm
  have HXU : RowKit.Hid ((X, Y, Z) = okL (usesF (zipE xs hs day known))) := Lib.hid (by rw [HX.out]; exact excS_ask he0)
  obtain ⟨hge, _⟩ := zipE_good (xs := xs) (hs := hs) (sn := 0) (sd := 1) (day := day) (known := known) he0
  have hzl : (zipE xs hs day known).length = hn := by rw [zipE_map, List.length_map, HH.out.1]
  have HGE := Lib.hid hge
  have HZL := Lib.hid hzl
  have hll : (eachL xs hs day known).length = hn := by unfold eachL; rw [List.length_map, HH.out.1]
  have HLL := Lib.hid hll
  have hEL : (eachL xs hs day known).length = hs.length := by unfold eachL; rw [List.length_map]
  clear he0 hge hzl hll
  go_enter Tryz.func60, Tryz.ntmps60
  go_upto_region 1 with (fail)
  rw [← HW0.out]
  go_wp2_with fail
  refine HAS.out.mono ?_
  rintro e w1 ⟨v, rfl, hown, hk1⟩
  obtain ⟨A7, c7, hv7, hf7⟩ := fracs_own (es := eachL xs hs day known) (by rw [hEL]; exact hown trivial)
  rw [HLL.out] at hv7 hf7
  subst hv7
  have HF7 := Lib.hid hf7
  have hc7 := hf7.2.1
  have hm7 := hf7.2.2.1
  have K1 := Lib.hid hk1
  obtain ⟨sb, hsb⟩ : ∃ sb, sb = w1.heap.size := ⟨_, rfl⟩
  have HSB := Lib.hid hsb
  obtain ⟨W2, hW2⟩ : ∃ W2, W2 = w1.alloc (.cells #[.int .i64 0, .int .i64 1] 23) := ⟨_, rfl⟩
  have K2 : RowKit.Hid (Kept w1 W2) := Lib.hid (by rw [hW2]; exact (Kept.refl _).alloc _)
  have R2 : RowKit.Hid (RowC W2 sb [.int .i64 0, .int .i64 1]) := Lib.hid (by rw [hW2, hsb]; exact RowC.new w1 _ 23)
  have Z2 : RowKit.Hid (W2.heap.size = sb + 1) := Lib.hid (by rw [hW2, hsb]; simp)
  have HW2 := Lib.hid hW2
  have hwsb : w.heap.size < sb := by have := hk1.size; have := Z0.out; omega
  clear hown hf7 hk1 hW2 hEL hsb
  go_upto_region 5 with (fail)
  rw [← HW2.out, ← HSB.out]
  go_wp2_with fail
  go_loopw [13] (fun i wr => ∃ (k : Nat) (a b : Int), k ≤ hn ∧ i = .int .i64 k ∧ usesF ((zipE xs hs day known).take k) = some (a, b) ∧ RowC wr sb [.int .i64 a, .int .i64 b] ∧ But sb W2 wr ∧ sb < wr.heap.size) (fun i _ => hn - (intOf i).toNat)
  case atStart => exact ⟨0, 0, 1, by omega, by first | rfl | go_num, rfl, R2.out, But.of_kept (Kept.refl _), by have := Z2.out; omega⟩
  case round =>
    obtain ⟨k, a, b', hk, rfl, hu, hr, hbt, hzr⟩ := hrel
    have HUk := Lib.hid hu
    have HR := Lib.hid hr
    have HBT := Lib.hid hbt
    clear hu hr hbt
    have hK2w : Kept w W2 := (K0.out.trans K1.out).trans K2.out
    have RR := HBT.out.row ((R0.out.kept K1.out).kept K2.out) (by omega)
    have RRH := Lib.hid RR
    have KW2 := Lib.hid hK2w
    clear RR hK2w
    have hdec : decide ((k : Int) < (hn : Int)) = decide (k < hn) := decide_eq_decide.2 (by omega)
    by_cases hlt : k < hn
    · obtain ⟨b, off, hB, hcc⟩ := HH.out.2.2.2.2 (by omega)
      subst hB
      obtain ⟨g, goff, hA7, hfc⟩ := HF7.out.2.2.2 (by omega)
      subst hA7
      have hxl : k < hs.length := by rw [HH.out.1]; exact hlt
      obtain ⟨hd, hhd⟩ : ∃ hd, hs[k]? = some hd := ⟨hs[k]'hxl, List.getElem?_eq_getElem hxl⟩
      have hze := zipE_at (xs := xs) (day := day) (known := known) hhd
      obtain ⟨⟨p0, p1⟩, hpp⟩ : ∃ p, p = stS (inForceS xs hd.sort day known) := ⟨_, rfl⟩
      rw [← hpp] at hze
      have hel : (eachL xs hs day known)[k]? = some (p0, p1) := by unfold eachL; rw [List.getElem?_map, hhd, hpp]; rfl
      obtain ⟨gv, n0, n1⟩ := HGE.out _ (List.mem_of_getElem? hze)
      dsimp only at gv n0 n1
      have hb1 := (((K1.out.trans K2.out).cells _ _ (cell_lt (hcc k hd hhd).2)).trans (hcc k hd hhd).2)
      have hbl : b < sb := by have h1 := cell_lt (hcc k hd hhd).2; have h2 := K1.out.size; have h3 := HSB.out; omega
      have hgl : g < sb := by have h1 := cell_lt (hfc k (p0, p1) hel).1; have h3 := HSB.out; omega
      have q1 := HBT.out.cell hb1 (by omega)
      have u0 := HBT.out.cell ((K2.out.cells _ _ (cell_lt (hfc k (p0, p1) hel).1)).trans (hfc k (p0, p1) hel).1) (by omega)
      have u1 := HBT.out.cell ((K2.out.cells _ _ (cell_lt (hfc k (p0, p1) hel).2)).trans (hfc k (p0, p1) hel).2) (by omega)
      obtain ⟨⟨m0, m1, me⟩, hm⟩ : ∃ m, m = mulS hd.num 1 p0 p1 := ⟨_, rfl⟩
      have HM : RowKit.Hid (∀ W, Calls Tryz.prog 32 #[.agg #[.int .i64 hd.num, .int .i64 1], .agg #[.int .i64 p0, .int .i64 p1]] W fun e w' => e = .returned (.tuple #[.agg #[.int .i64 m0, .int .i64 m1], .int .i64 me]) ∧ Kept W w') := Lib.hid (fun W => by
        have := rmul_any hd.num 1 p0 p1 W
        rw [← hm] at this
        exact this)
      have hms := mulS_one (p := (p0, p1)) gv n0 n1
      have HMS : RowKit.Hid ((m0, m1, me) = okL (mulF p0 p1 hd.num 1)) := Lib.hid (by rw [hm]; exact hms)
      have hav := (uses_val (fun x hx => HGE.out x (List.mem_of_mem_take hx)) HUk.out).2
      have hst : usesF ((zipE xs hs day known).take (k + 1)) = stepU (some (a, b')) ((p0, p1), hd.num) := by rw [take_snoc' hze, usesF_snoc, HUk.out]
      have HST := Lib.hid hst
      have HAV := Lib.hid hav
      have HGV := Lib.hid (And.intro gv (And.intro n0 n1))
      have i0 : (0 : Int) ≤ (k : Int) := by omega
      have i1 : (k : Int) < (hn : Int) := by omega
      have it : (k : Int).toNat = k := by omega
      clear hcc hfc hhd hze hpp hel gv n0 n1 hb1 hm hms hst hav hdec
      go_upto_region 8 with (fail)
      go_cut [14, 15] (fun s14 s15 wx => ∃ bx, s14 = .pointer (some ⟨bx, 0, none⟩) ∧ s15 = .int .i64 me ∧ wr.heap.size ≤ bx ∧ RowC wx bx [.int .i64 m0, .int .i64 m1] ∧ Kept wr wx)
      case first =>
        have SB : RowKit.Hid (∀ W, Kept wr W → W.cell? ⟨b, off + k * 2 + 1, none⟩ = some (.int .i64 hd.num) ∧ W.cell? ⟨g, goff + k * 2, none⟩ = some (.int .i64 p0) ∧ W.cell? ⟨g, goff + k * 2 + 1, none⟩ = some (.int .i64 p1) ∧ Kept wr W) := Lib.hid (fun W hW => ⟨(hW.cells _ _ (cell_lt q1)).trans q1, (hW.cells _ _ (cell_lt u0)).trans u0, (hW.cells _ _ (cell_lt u1)).trans u1, hW⟩)
        have kd : Kept wr wr.drew := (Kept.refl wr).drew
        have kda : Kept wr ((wr.alloc (.cells #[.int .i64 0, .int .i64 0] 23)).drew) := ((Kept.refl wr).alloc _).drew
        have SD := Lib.hid (SB.out _ kd)
        have SDA := Lib.hid (SB.out _ kda)
        go_region_held3 (fun W => W.cell? ⟨b, off + k * 2 + 1, none⟩ = some (.int .i64 hd.num) ∧ W.cell? ⟨g, goff + k * 2, none⟩ = some (.int .i64 p0) ∧ W.cell? ⟨g, goff + k * 2 + 1, none⟩ = some (.int .i64 p1) ∧ Kept wr W)
          (first
            | (with_reducible exact SD.out)
            | (with_reducible exact SDA.out)
            | (with_reducible exact SB.out _ kk9)
            | (with_reducible exact SB.out _ (kk9.alloc _))
            | (with_reducible exact SB.out _ ((kk9.setCell (Nat.le_refl _) _).setCell (Nat.le_refl _) _))
            | (with_reducible exact SB.out _ (((kk9.alloc _).setCell kk9.size _).setCell kk9.size _))
            | fail)
          (first
            | (go_at_call 32; refine (HM.out _).mono ?_; rintro e w9 ⟨rfl, hk9⟩; have kk9 : Kept wr w9 := (by with_reducible exact kd.trans hk9))
            | (go_at_call 32; refine (HM.out _).mono ?_; rintro e w9 ⟨rfl, hk9⟩; have kk9 : Kept wr w9 := (by with_reducible exact kda.trans hk9); have rz := ((RowC.new wr [.int .i64 0, .int .i64 0] 23).drew).kept hk9; have z0 := (rz 0 _ rfl).1; have z1 := (rz 1 _ rfl).1; have y0 := (rz 0 _ rfl).2; have y1 := (rz 1 _ rfl).2; have lz := cell_lt z0)
            | fail)
        all_goals go_wp2
        all_goals go_meet
        all_goals first
          | exact ⟨w9.heap.size, rfl, rfl, kk9.size, RowC.new w9 [.int .i64 m0, .int .i64 m1] 23, kk9.alloc _⟩
          | exact ⟨wr.heap.size, rfl, rfl, Nat.le_refl _, by simpa using ((rz.put (j := 0) (by simp) (.int .i64 m0)).put (j := 1) (by simp) (.int .i64 m1)), (kk9.setCell (Nat.le_refl _) _).setCell (Nat.le_refl _) _⟩
      obtain ⟨bx, rfl, rfl, hbx, rbx, kx⟩ := hcut
      obtain ⟨w4, rfl⟩ : ∃ w4, w4 = wc := ⟨_, rfl⟩
      have RB := Lib.hid rbx
      have KX := Lib.hid kx
      have R4 := Lib.hid (RRH.out.kept kx)
      have S4 := Lib.hid (HR.out.kept kx)
      have BT4 := Lib.hid (HBT.out.trans (But.of_kept kx))
      have hz4 : sb < w4.heap.size := by have := kx.size; omega
      clear q1 u0 u1 rbx kx
      rcases hmm : mulF p0 p1 hd.num 1 with _ | m
      · have hq := HMS.out
        rw [hmm] at hq
        simp only [okL, Prod.mk.injEq] at hq
        obtain ⟨rfl, rfl, rfl⟩ := hq
        have HV : RowKit.Hid ((X, Y, Z) = (0, 0, 2)) := Lib.hid (by
          rw [HXU.out, usesF_none_of (k := k + 1) (by rw [HST.out]; unfold stepU; dsimp only; rw [hmm])]
          rfl)
        have hv := HV.out
        simp only [Prod.mk.injEq] at hv
        obtain ⟨rfl, rfl, rfl⟩ := hv
        have e0 := (R4.out 0 _ rfl).1
        have e1 := (R4.out 1 _ rfl).1
        have y0 := (R4.out 0 _ rfl).2
        have y1 := (R4.out 1 _ rfl).2
        have le := cell_lt e0
        clear hmm
        go_wp2
        refine bodyPost_ret (v := .tuple #[.agg #[.int .i64 0, .int .i64 0], .int .i64 2]) (by simp [results, Tryz.results60, go_sem, e0, e1]) rfl ⟨rfl, ?_⟩
        exact ((KW2.out.but BT4.out (by omega)).setCell (by first | (simp; done) | (simp; omega)) _).setCell (by first | (simp; done) | (simp; omega)) _
      have hq := HMS.out
      rw [hmm] at hq
      obtain ⟨m0', m1'⟩ := m
      simp only [okL, Prod.mk.injEq] at hq
      obtain ⟨rfl, rfl, rfl⟩ := hq
      have hmv := (mulF_val (p := (p0, p1)) HGV.out.1 (by have := HGV.out.2; omega) (by have := HGV.out.2; omega) hmm).2
      obtain ⟨⟨s0, s1, se⟩, hs'⟩ : ∃ m, m = addS a b' m0 m1 := ⟨_, rfl⟩
      have HA : RowKit.Hid (∀ W, Calls Tryz.prog 28 #[.agg #[.int .i64 a, .int .i64 b'], .agg #[.int .i64 m0, .int .i64 m1]] W fun e w' => e = .returned (.tuple #[.agg #[.int .i64 s0, .int .i64 s1], .int .i64 se]) ∧ Kept W w') := Lib.hid (fun W => by
        have := radd_any a b' m0 m1 W
        rw [← hs'] at this
        exact this)
      have HAS' : RowKit.Hid ((s0, s1, se) = okL (addO (some (a, b')) (m0, m1))) := Lib.hid (by rw [hs']; exact addS_val (a := (a, b')) (p := (m0, m1)) HAV.out hmv)
      have HST2 : RowKit.Hid (usesF ((zipE xs hs day known).take (k + 1)) = addO (some (a, b')) (m0, m1)) := Lib.hid (by rw [HST.out]; unfold stepU; dsimp only; rw [hmm])
      have t0 := (S4.out 0 _ rfl).1
      have t1 := (S4.out 1 _ rfl).1
      have v0 := (RB.out 0 _ rfl).1
      have v1 := (RB.out 1 _ rfl).1
      have lt := cell_lt t0
      have lv := cell_lt v0
      clear hmm hmv hs'
      go_wp2_with fail
      refine (HA.out _).mono ?_
      rintro e w5 ⟨rfl, hk5⟩
      obtain ⟨W6, hW6⟩ : ∃ W6, W6 = w5.alloc (.cells #[.int .i64 s0, .int .i64 s1] 23) := ⟨_, rfl⟩
      have k6 : Kept w4 W6 := by rw [hW6]; exact hk5.alloc _
      have R6 := Lib.hid (R4.out.kept k6)
      have S6 := Lib.hid (S4.out.kept k6)
      have BT6 := Lib.hid (BT4.out.trans (But.of_kept k6))
      have X6 : RowKit.Hid (RowC W6 w5.heap.size [.int .i64 s0, .int .i64 s1]) := Lib.hid (by rw [hW6]; exact RowC.new w5 _ 23)
      have hz6 : sb < W6.heap.size := by have := k6.size; omega
      have HW6 := Lib.hid hW6
      have hsb5 : sb < w5.heap.size := by have := hk5.size; omega
      clear t0 t1 v0 v1 lt lv hk5 hW6 k6
      go_upto_region 12 with (fail)
      rw [← HW6.out]
      rcases hadd : addO (some (a, b')) (m0, m1) with _ | r2
      · have hq := HAS'.out
        rw [hadd] at hq
        simp only [okL, Prod.mk.injEq] at hq
        obtain ⟨rfl, rfl, rfl⟩ := hq
        have HV : RowKit.Hid ((X, Y, Z) = (0, 0, 2)) := Lib.hid (by
          rw [HXU.out, usesF_none_of (k := k + 1) (by rw [HST2.out, hadd])]
          rfl)
        have hv := HV.out
        simp only [Prod.mk.injEq] at hv
        obtain ⟨rfl, rfl, rfl⟩ := hv
        have e0 := (R6.out 0 _ rfl).1
        have e1 := (R6.out 1 _ rfl).1
        have y0 := (R6.out 0 _ rfl).2
        have y1 := (R6.out 1 _ rfl).2
        have le := cell_lt e0
        clear hadd
        go_wp2
        refine bodyPost_ret (v := .tuple #[.agg #[.int .i64 0, .int .i64 0], .int .i64 2]) (by simp [results, Tryz.results60, go_sem, e0, e1]) rfl ⟨rfl, ?_⟩
        exact ((KW2.out.but BT6.out (by omega)).setCell (by first | (simp; done) | (simp; omega)) _).setCell (by first | (simp; done) | (simp; omega)) _
      · have hq := HAS'.out
        rw [hadd] at hq
        obtain ⟨r0', r1'⟩ := r2
        simp only [okL, Prod.mk.injEq] at hq
        obtain ⟨rfl, rfl, rfl⟩ := hq
        have HUN : RowKit.Hid (usesF ((zipE xs hs day known).take (k + 1)) = some (s0, s1)) := Lib.hid (by rw [HST2.out, hadd])
        have e0 := (X6.out 0 _ rfl).1
        have e1 := (X6.out 1 _ rfl).1
        have t0 := (S6.out 0 _ rfl).1
        have t1 := (S6.out 1 _ rfl).1
        have y0 := (S6.out 0 _ rfl).2
        have y1 := (S6.out 1 _ rfl).2
        have le := cell_lt e0
        have lt := cell_lt t0
        have hne : w5.heap.size ≠ sb := by omega
        clear hadd
        go_wp2
        go_roundw
        case rel =>
          refine ⟨k + 1, s0, s1, by omega, by go_num, HUN.out, ?_, (BT6.out.set 0 _).set 1 _, by simpa using hz6⟩
          simpa using ((S6.out.put (j := 0) (by simp) (.int .i64 s0)).put (j := 1) (by simp) (.int .i64 s1))
        case measure => simp [intOf]; omega
    · obtain rfl : k = hn := by omega
      have HUX : RowKit.Hid ((X, Y, Z) = (a, b', 0)) := Lib.hid (by
        have h := HUk.out
        rw [List.take_of_length_le (by rw [HZL.out]; exact Nat.le_refl _)] at h
        rw [HXU.out, h]
        rfl)
      have hv := HUX.out
      simp only [Prod.mk.injEq] at hv
      obtain ⟨rfl, rfl, rfl⟩ := hv
      have e0 := (RRH.out 0 _ rfl).1
      have e1 := (RRH.out 1 _ rfl).1
      have y0 := (RRH.out 0 _ rfl).2
      have y1 := (RRH.out 1 _ rfl).2
      have t0 := (HR.out 0 _ rfl).1
      have t1 := (HR.out 1 _ rfl).1
      have le := cell_lt e0
      have lt := cell_lt t0
      go_wp2
      refine bodyPost_ret (v := .tuple #[.agg #[.int .i64 X, .int .i64 Y], .int .i64 0]) (by simp [results, Tryz.results60, go_sem, e0, e1]) rfl ⟨rfl, ?_⟩
      exact ((KW2.out.but HBT.out (by omega)).setCell (by first | (simp; done) | (simp; omega)) _).setCell (by first | (simp; done) | (simp; omega)) _
end Go.Proofs.YtcjpecdnenemaaaGreatDoor

namespace Go.Proofs.YtcjpecdnenemaaaGreatDoor
set_option linter.all false
open Go.RowKit Go.Shelf

theorem ask_true {xs : List Eqv} {hs : List Hd} {r : Bool} {day known : Int} (h : askE xs hs r day known = 0) : r = true ∧ askE xs hs true day known = 0 := by
  cases r
  · unfold askE at h
    split at h
    · simp at h
    · rename_i h1; exact absurd h h1
  · exact ⟨rfl, h⟩
set_option maxRecDepth 100000 in
set_option maxHeartbeats 4000000 in
theorem rexcess_any (A : Option Addr) (n c : Nat) (xs : List Eqv) (B : Option Addr) (hn hc : Nat) (hs : List Hd) (sn sd day known : Int) (w : World) (hT : TabA w A n c xs) (hH : HeadsA w B hn hc hs) :
    Calls Tryz.prog 62 #[.slice A n c, .slice B hn hc, .agg #[.int .i64 sn, .int .i64 sd], .int .i64 day, .int .i64 known] w fun e w' => e = .returned (.tuple #[.agg #[.int .i64 (excS xs hs sn sd day known).1, .int .i64 (excS xs hs sn sd day known).2.1], .int .i64 (excS xs hs sn sd day known).2.2]) ∧ Kept w w' := by
  obtain ⟨⟨X, Y, Z⟩, hx⟩ : ∃ r, r = excS xs hs sn sd day known := ⟨_, rfl⟩
  rw [← hx]
  have HX := Lib.hid hx
  clear hx
  obtain ⟨W0, hW0⟩ : ∃ W0 : World, W0 = (w.alloc (.cells #[.int .i64 sn, .int .i64 sd] 23)).alloc (.cells #[.int .i64 0, .int .i64 0] 23) := ⟨_, rfl⟩
  have K0 : RowKit.Hid (Kept w W0) := Lib.hid (by rw [hW0]; exact ((Kept.refl _).alloc _).alloc _)
  have RS : RowKit.Hid (RowC W0 w.heap.size [.int .i64 sn, .int .i64 sd]) := Lib.hid (by rw [hW0]; exact (RowC.new w _ 23).kept ((Kept.refl _).alloc _))
  have R0 : RowKit.Hid (RowC W0 (w.heap.size + 1) [.int .i64 0, .int .i64 0]) := Lib.hid (by
    have := RowC.new (w.alloc (.cells #[.int .i64 sn, .int .i64 sd] 23)) [.int .i64 0, .int .i64 0] 23
    rw [World.size_alloc] at this
    rw [hW0]; exact this)
  have HW0 := Lib.hid hW0
  have HT := Lib.hid (hT.kept K0.out)
  have HH := Lib.hid (hH.kept K0.out)
  clear hT hH hW0
  obtain ⟨vb, hvb⟩ : ∃ vb, vb = vld sn sd := ⟨_, rfl⟩
  have HVB := Lib.hid hvb
  have HV1 : RowKit.Hid (∀ W, Calls Tryz.prog 91 #[.agg #[.int .i64 sn, .int .i64 sd]] W fun e w' => e = .returned (.bool vb) ∧ Kept W w') := Lib.hid (fun W => by rw [hvb]; exact rvalid_any sn sd W)
  obtain ⟨E, hE⟩ : ∃ E, E = askE xs hs vb day known := ⟨_, rfl⟩
  have HEE := Lib.hid hE
  have HAS : RowKit.Hid (∀ W, Kept W0 W → Calls Tryz.prog 126 #[.slice A n c, .slice B hn hc, .bool vb, .int .i64 day, .int .i64 known] W fun e w' => ∃ v, e = .returned (.tuple #[v, .int .i64 E]) ∧ Kept W w') := Lib.hid (fun W hW => by
    refine (asked_any A n c xs B hn hc hs vb day known W (HT.out.kept hW) (HH.out.kept hW)).mono ?_
    rintro e w' ⟨v, h1, _, h3⟩
    exact ⟨v, by rw [h1, hE], h3⟩)
  have HEX : RowKit.Hid (E = eachE xs hs sn sd day known) := Lib.hid (by rw [hE, hvb]; exact askE_each xs hs sn sd day known)
  clear hvb hE
  have s0 := (RS.out 0 _ rfl).1
  have s1 := (RS.out 1 _ rfl).1
  have ls := cell_lt s0
  by_cases hz : E = 0
  rotate_left
  · have hzb : (E != 0) = true := by simpa using hz
    have HV : RowKit.Hid ((X, Y, Z) = (0, 0, E)) := Lib.hid (by rw [HX.out]; unfold excS; rw [if_neg (by rw [← HEX.out]; exact hz), HEX.out])
    clear hz
    go_enter Tryz.func62, Tryz.ntmps62
    go_upto_region 1 with (fail)
    rw [← HW0.out]
    go_wp2_with fail
    refine (HV1.out _).mono ?_
    rintro e w1 ⟨rfl, hk1⟩
    have K1 := Lib.hid hk1
    clear s0 s1 ls hk1
    go_wp2_with fail
    refine (HAS.out _ K1.out).mono ?_
    rintro e w2 ⟨v, rfl, hk2⟩
    have RR := R0.out.kept (K1.out.trans hk2)
    have e0 := (RR 0 _ rfl).1
    have e1 := (RR 1 _ rfl).1
    have y0 := (RR 0 _ rfl).2
    have y1 := (RR 1 _ rfl).2
    have le := cell_lt e0
    have K2 := Lib.hid (K0.out.trans (K1.out.trans hk2))
    clear RR hk2
    have hv := HV.out
    simp only [Prod.mk.injEq] at hv
    obtain ⟨rfl, rfl, rfl⟩ := hv
    go_wp2
    refine bodyPost_ret (v := .tuple #[.agg #[.int .i64 0, .int .i64 0], .int .i64 Z]) (by simp [results, Tryz.results62, go_sem, e0, e1]) rfl ⟨rfl, ?_⟩
    exact (K2.out.setCell (by first | (simp; done) | (simp; omega)) _).setCell (by first | (simp; done) | (simp; omega)) _
  subst hz
  obtain ⟨hvt, hat⟩ := ask_true HEE.out.symm
  have hvs : vld sn sd = true := by rw [← HVB.out, hvt]
  have hee : eachE xs hs sn sd day known = 0 := HEX.out.symm
  obtain ⟨hge, _⟩ := zipE_good hee
  obtain ⟨⟨u0, u1, ue⟩, hu⟩ : ∃ r, r = excS xs hs 0 1 day known := ⟨_, rfl⟩
  have HU : RowKit.Hid (∀ W, Kept W0 W → Calls Tryz.prog 60 #[.slice A n c, .slice B hn hc, .int .i64 day, .int .i64 known] W fun e w' => e = .returned (.tuple #[.agg #[.int .i64 u0, .int .i64 u1], .int .i64 ue]) ∧ Kept W w') := Lib.hid (fun W hW => by
    have := ruses_any A n c xs B hn hc hs day known W (HT.out.kept hW) (HH.out.kept hW)
    rw [← hu] at this
    exact this)
  have HUS : RowKit.Hid ((u0, u1, ue) = okL (usesF (zipE xs hs day known))) := Lib.hid (by rw [hu]; exact excS_ask hat)
  have HXS : RowKit.Hid ((X, Y, Z) = okL (excF (zipE xs hs day known) sn sd)) := Lib.hid (by rw [HX.out]; unfold excS; rw [if_pos hee]; rfl)
  have HVS := Lib.hid hvs
  have HGE := Lib.hid hge
  have hsb := vld_bd hvs
  obtain ⟨⟨_, _⟩, hs1, hs2⟩ := hsb
  clear hvt hat hvs hee hge hu
  go_enter Tryz.func62, Tryz.ntmps62
  go_upto_region 1 with (fail)
  rw [← HW0.out]
  go_wp2_with fail
  refine (HV1.out _).mono ?_
  rintro e w1 ⟨rfl, hk1⟩
  have K1 := Lib.hid hk1
  clear s0 s1 ls hk1
  go_wp2_with fail
  refine (HAS.out _ K1.out).mono ?_
  rintro e w2 ⟨v, rfl, hk2⟩
  have K2 := Lib.hid (K1.out.trans hk2)
  clear hk2
  go_wp2_with fail
  refine (HU.out _ K2.out).mono ?_
  rintro e w3 ⟨rfl, hk3⟩
  obtain ⟨W4, hW4⟩ : ∃ W4, W4 = w3.alloc (.cells #[.int .i64 u0, .int .i64 u1] 23) := ⟨_, rfl⟩
  have k4 : Kept W0 W4 := by rw [hW4]; exact (K2.out.trans hk3).alloc _
  have K4 := Lib.hid k4
  have X4 : RowKit.Hid (RowC W4 w3.heap.size [.int .i64 u0, .int .i64 u1]) := Lib.hid (by rw [hW4]; exact RowC.new w3 _ 23)
  have HW4 := Lib.hid hW4
  have KW4 := Lib.hid (K0.out.trans k4)
  have hz4 := k4.size
  clear hk3 hW4 k4
  go_upto_region 6 with (fail)
  rw [← HW4.out]
  have RR := R0.out.kept K4.out
  have SS := RS.out.kept K4.out
  have e0 := (RR 0 _ rfl).1
  have e1 := (RR 1 _ rfl).1
  have y0 := (RR 0 _ rfl).2
  have y1 := (RR 1 _ rfl).2
  have le := cell_lt e0
  rcases huf : usesF (zipE xs hs day known) with _ | a
  · have hq := HUS.out
    rw [huf] at hq
    simp only [okL, Prod.mk.injEq] at hq
    obtain ⟨rfl, rfl, rfl⟩ := hq
    have hv := HXS.out
    unfold excF at hv
    rw [huf] at hv
    simp only [okL, Prod.mk.injEq] at hv
    obtain ⟨rfl, rfl, rfl⟩ := hv
    clear RR SS huf
    go_wp2
    refine bodyPost_ret (v := .tuple #[.agg #[.int .i64 0, .int .i64 0], .int .i64 2]) (by simp [results, Tryz.results62, go_sem, e0, e1]) rfl ⟨rfl, ?_⟩
    exact (KW4.out.setCell (by first | (simp; done) | (simp; omega)) _).setCell (by first | (simp; done) | (simp; omega)) _
  · have hq := HUS.out
    rw [huf] at hq
    obtain ⟨a0, a1⟩ := a
    simp only [okL, Prod.mk.injEq] at hq
    obtain ⟨rfl, rfl, rfl⟩ := hq
    have hav := (uses_val HGE.out huf).2
    have HSU : RowKit.Hid (subS u0 u1 sn sd = (X, Y, Z)) := Lib.hid (by
      rw [HXS.out]
      unfold excF subS
      rw [huf, if_pos (by have h9 : vld u0 u1 = true := hav; rw [h9, HVS.out]; rfl)])
    have HS : RowKit.Hid (∀ W, Calls Tryz.prog 30 #[.agg #[.int .i64 u0, .int .i64 u1], .agg #[.int .i64 sn, .int .i64 sd]] W fun e w' => e = .returned (.tuple #[.agg #[.int .i64 X, .int .i64 Y], .int .i64 Z]) ∧ Kept W w') := Lib.hid (fun W => by
      have := rsub_any u0 u1 sn sd (by omega) (by omega) W
      rw [HSU.out] at this
      exact this)
    have t0 := (X4.out 0 _ rfl).1
    have t1 := (X4.out 1 _ rfl).1
    have s0 := (SS 0 _ rfl).1
    have s1 := (SS 1 _ rfl).1
    have lt := cell_lt t0
    have ls := cell_lt s0
    have RRH := Lib.hid RR
    clear RR SS huf hav e0 e1 y0 y1 le
    go_wp2_with fail
    refine (HS.out _).mono ?_
    rintro e w5 ⟨rfl, hk5⟩
    have RR := RRH.out.kept hk5
    have e0 := (RR 0 _ rfl).1
    have e1 := (RR 1 _ rfl).1
    have y0 := (RR 0 _ rfl).2
    have y1 := (RR 1 _ rfl).2
    have le := cell_lt e0
    have K5 := Lib.hid (KW4.out.trans hk5)
    clear RR hk5 t0 t1 s0 s1 lt ls
    go_wp2
    refine bodyPost_ret (v := .tuple #[.agg #[.int .i64 X, .int .i64 Y], .int .i64 Z]) (by simp [results, Tryz.results62, go_sem, e0, e1]) rfl ⟨rfl, ?_⟩
    exact (K5.out.setCell (by first | (simp; done) | (simp; omega)) _).setCell (by first | (simp; done) | (simp; omega)) _

set_option maxRecDepth 100000 in
set_option maxHeartbeats 4000000 in
theorem sameHeads_any (A B : Option Addr) (n c d : Nat) (hs : List Hd) (w : World) (h1 : HeadsA w A n c hs) (h2 : HeadsA w B n d hs) :
    Calls Tryz.prog 65 #[.slice A n c, .slice B n d] w fun e w' => e = .returned (.bool true) ∧ Kept w w' := by
  have H1 := Lib.hid h1
  have H2 := Lib.hid h2
  have hnc := h1.2.1
  have hcm := h1.2.2.1
  have hnd := h2.2.1
  have hdm := h2.2.2.1
  clear h1 h2
  have hnn : ((n : Int) != (n : Int)) = false := by simp
  go_enter Tryz.func65, Tryz.ntmps65
  go_wp2_with fail
  go_loopw [5] (fun i wr => ∃ k : Nat, k ≤ n ∧ i = .int .i64 k ∧ Kept w wr) (fun i _ => n - (intOf i).toNat)
  case atStart => exact ⟨0, by omega, by first | rfl | go_num, Kept.refl _⟩
  case round =>
    obtain ⟨k, hk, rfl, hkr⟩ := hrel
    have HKR := Lib.hid hkr
    clear hkr
    by_cases hlt : k < n
    · obtain ⟨b, off, hA, hcc⟩ := H1.out.2.2.2.2 (by omega)
      obtain ⟨b2, off2, hB, hcc2⟩ := H2.out.2.2.2.2 (by omega)
      subst hA
      subst hB
      have hxl : k < hs.length := by rw [H1.out.1]; exact hlt
      obtain ⟨x, hx⟩ : ∃ x, hs[k]? = some x := ⟨hs[k]'hxl, List.getElem?_eq_getElem hxl⟩
      have q0 := (HKR.out.cells _ _ (cell_lt (hcc k x hx).1)).trans (hcc k x hx).1
      have q1 := (HKR.out.cells _ _ (cell_lt (hcc k x hx).2)).trans (hcc k x hx).2
      have p0 := (HKR.out.cells _ _ (cell_lt (hcc2 k x hx).1)).trans (hcc2 k x hx).1
      have p1 := (HKR.out.cells _ _ (cell_lt (hcc2 k x hx).2)).trans (hcc2 k x hx).2
      have i0 : (0 : Int) ≤ (k : Int) := by omega
      have i1 : (k : Int) < (n : Int) := by omega
      have it : (k : Int).toNat = k := by omega
      clear hcc hcc2 hx
      go_upto_region 6 with (fail)
      go_cut [25] (fun s25 wx => s25 = .bool false ∧ Kept wr wx)
      case first =>
        go_quiet (fail)
        go_wp2
        go_meet
        exact ⟨by first | rfl | (simp; done), by first | exact Kept.refl _ | exact (Kept.refl _).drewN _ | exact (Kept.refl _).drew⟩
      obtain ⟨rfl, kx⟩ := hcut
      have KX := Lib.hid (HKR.out.trans kx)
      clear kx q0 q1 p0 p1
      go_wp2
      go_roundw
      case rel => exact ⟨k + 1, by omega, by go_num, KX.out⟩
      case measure => simp [intOf]; omega
    · obtain rfl : k = n := by omega
      go_wp2
      go_ret
      exact ⟨rfl, HKR.out⟩
end Go.Proofs.YtcjpecdnenemaaaGreatDoor

namespace Go.Proofs.YtcjpecdnenemaaaGreatDoor
set_option linter.all false
open Go.RowKit Go.Shelf

/-- how many fit, as the reference says -/
def rfitS (en ed an ad most : Int) : Int := if an < 0 then 0 else min most (an * ed / (en * ad))
theorem rfit_eq {en ed an ad most : Int} (hm0 : 0 ≤ most) (hm : most ≤ 100000) : rfitS en ed an ad most = min most (fitS an ad en ed) := by
  unfold rfitS fitS ratS
  by_cases h : an < 0
  · rw [if_pos h, if_pos h]; omega
  · rw [if_neg h, if_neg h, Int.mul_comm en ad]
    omega
set_option maxRecDepth 100000 in
set_option maxHeartbeats 1600000 in
theorem rfits_any (en ed an ad most : Int) (he : Bd en ed) (ha : Bd an ad) (hp : 0 < en) (hm0 : 0 ≤ most) (hm : most ≤ 100000) (w : World) :
    Calls Tryz.prog 131 #[.agg #[.int .i64 en, .int .i64 ed], .agg #[.int .i64 an, .int .i64 ad], .int .i64 most] w fun e w' => e = .returned (.int .i64 (rfitS en ed an ad most)) ∧ Kept w w' := by
  obtain ⟨⟨a1, a2⟩, a3, a4⟩ := ha
  obtain ⟨⟨b1, b2⟩, b3, b4⟩ := he
  obtain ⟨W0, hW0⟩ : ∃ W0 : World, W0 = (w.alloc (.cells #[.int .i64 en, .int .i64 ed] 23)).alloc (.cells #[.int .i64 an, .int .i64 ad] 23) := ⟨_, rfl⟩
  have K0 : RowKit.Hid (Kept w W0) := Lib.hid (by rw [hW0]; exact ((Kept.refl _).alloc _).alloc _)
  have r0 : RowC W0 w.heap.size [.int .i64 en, .int .i64 ed] := by rw [hW0]; exact (RowC.new w _ 23).kept ((Kept.refl _).alloc _)
  have r1 : RowC W0 (w.heap.size + 1) [.int .i64 an, .int .i64 ad] := by
    have := RowC.new (w.alloc (.cells #[.int .i64 en, .int .i64 ed] 23)) [.int .i64 an, .int .i64 ad] 23
    rw [World.size_alloc] at this
    rw [hW0]; exact this
  have HW0 := Lib.hid hW0
  have p0 := (r0 0 _ rfl).1
  have p1 := (r0 1 _ rfl).1
  have q0 := (r1 0 _ rfl).1
  have q1 := (r1 1 _ rfl).1
  have lp := cell_lt p0
  have lq := cell_lt q0
  clear r0 r1 hW0
  by_cases h : an < 0
  · have HR := Lib.hid (show rfitS en ed an ad most = 0 by unfold rfitS; rw [if_pos h])
    have d : decide (an < 0) = true := decide_eq_true h
    go_enter Tryz.func131, Tryz.ntmps131
    go_upto_region 1 with (fail)
    rw [← HW0.out]
    go_wp2
    go_ret
    exact ⟨by rw [HR.out]; rfl, K0.out⟩
  · have d : decide (an < 0) = false := decide_eq_false h
    have n1 := (mul_bd (n := an) (d := ed) 1000000000000 1000000 (by omega) a4 (by omega) b2 (by omega))
    have n2 := (mul_bd (n := en) (d := ad) 1000000000000 1000000 (by omega) b4 (by omega) a2 (by omega))
    obtain ⟨p, hpq⟩ : ∃ p, p = an * ed := ⟨_, rfl⟩
    obtain ⟨q, hq⟩ : ∃ q, q = en * ad := ⟨_, rfl⟩
    have hp0 : 0 ≤ p := by rw [hpq]; exact Int.mul_nonneg (by omega) (by omega)
    have hq0 : 0 < q := by rw [hq]; exact Int.mul_pos hp (by omega)
    rw [← hpq] at n1
    rw [← hq] at n2
    have w1 : IntKind.i64.wrap (an * ed) = p := by rw [← hpq]; exact IntWalk.i64_in _ (by omega)
    have w2 : IntKind.i64.wrap (en * ad) = q := by rw [← hq]; exact IntWalk.i64_in _ (by omega)
    obtain ⟨r, hr⟩ : ∃ r, r = p / q := ⟨_, rfl⟩
    have hdv : p.tdiv q = r := by rw [hr]; exact Int.tdiv_eq_ediv_of_nonneg hp0
    have hr0 : 0 ≤ r := by rw [hr]; exact Int.ediv_nonneg hp0 (by omega)
    have hr1 : r ≤ p := by rw [hr]; exact Int.ediv_le_self _ hp0
    have w3 : IntKind.i64.wrap r = r := IntWalk.i64_in _ (by omega)
    have hqn : (q == 0) = false := by simp; omega
    have hqn2 : q ≠ 0 := by omega
    have HR := Lib.hid (show rfitS en ed an ad most = min most r by unfold rfitS; rw [if_neg h, ← hpq, ← hq, ← hr])
    clear hpq hq hr
    by_cases hlt : r < most
    · have dd : decide (r < most) = true := decide_eq_true hlt
      have HM := Lib.hid (show min most r = r by omega)
      go_enter Tryz.func131, Tryz.ntmps131
      go_upto_region 1 with (fail)
      rw [← HW0.out]
      go_wp2
      go_ret
      exact ⟨by rw [HR.out, HM.out]; first | rfl | (simp; omega) | (simp [HM.out]; done), K0.out⟩
    · have dd : decide (r < most) = false := decide_eq_false hlt
      have HM := Lib.hid (show min most r = most by omega)
      go_enter Tryz.func131, Tryz.ntmps131
      go_upto_region 1 with (fail)
      rw [← HW0.out]
      go_wp2
      go_ret
      exact ⟨by rw [HR.out, HM.out]; first | rfl | (simp; omega) | (simp [HM.out]; done), K0.out⟩
end Go.Proofs.YtcjpecdnenemaaaGreatDoor

namespace Go.Proofs.YtcjpecdnenemaaaGreatDoor
set_option linter.all false
open Go.RowKit Go.Shelf

theorem subS_val {a p : Int × Int} (ha : vld a.1 a.2 = true) (hp : vld p.1 p.2 = true) : subS a.1 a.2 p.1 p.2 = okL (lowF (a.1 * p.2 + -p.1 * a.2) (a.2 * p.2)) := by
  unfold subS
  rw [if_pos (by rw [ha, hp]; rfl)]
theorem zipH_at {xs : List Eqv} {hs : List Hd} {day known : Int} {k : Nat} {h : Hd} (hx : hs[k]? = some h) : (zipH xs hs day known)[k]? = some (stS (inForceS xs h.sort day known), h) := by
  rw [zipH_map, List.getElem?_map, hx]; rfl
theorem fillS_none_of {st : Int × Int} {es : List ((Int × Int) × Hd)} {k : Nat} (h : fillS st (es.take k) = none) : fillS st es = none := by
  have : fillS st es = (es.drop k).foldl stepF (fillS st (es.take k)) := by unfold fillS; rw [← List.foldl_append, List.take_append_drop]
  rw [this, h, stepF_none]
def RFillRes (w : World) (r : List Hd × Int) (e : Ending) (w' : World) : Prop :=
  ∃ v, e = .returned (.tuple #[v, .int .i64 r.2]) ∧ w'.ownsRow w.heap.size 84 2 v r.1.length (hdFlat r.1) ∧ Kept w w'
theorem own_zero (w : World) (b : Nat) : w.ownsRow b 84 2 (.slice none 0 0) ([] : List Hd).length (hdFlat []) := ⟨rfl, .inl ⟨rfl, rfl⟩⟩
set_option maxRecDepth 100000 in
set_option maxHeartbeats 8000000 in
theorem rfill_any (A : Option Addr) (n c : Nat) (xs : List Eqv) (B : Option Addr) (hn hc : Nat) (hs : List Hd) (sn sd day known : Int) (w : World) (hT : TabA w A n c xs) (hH : HeadsA w B hn hc hs) :
    Calls Tryz.prog 64 #[.slice A n c, .slice B hn hc, .agg #[.int .i64 sn, .int .i64 sd], .int .i64 day, .int .i64 known] w (RFillRes w (fillR xs hs sn sd day known)) := by
  obtain ⟨⟨out, Z⟩, hx⟩ : ∃ r, r = fillR xs hs sn sd day known := ⟨_, rfl⟩
  rw [← hx]
  unfold RFillRes
  dsimp only
  have HX := Lib.hid hx
  clear hx
  obtain ⟨W0, hW0⟩ : ∃ W0 : World, W0 = w.alloc (.cells #[.int .i64 sn, .int .i64 sd] 23) := ⟨_, rfl⟩
  have K0 : RowKit.Hid (Kept w W0) := Lib.hid (by rw [hW0]; exact (Kept.refl _).alloc _)
  have RS : RowKit.Hid (RowC W0 w.heap.size [.int .i64 sn, .int .i64 sd]) := Lib.hid (by rw [hW0]; exact RowC.new w _ 23)
  have Z0 : RowKit.Hid (W0.heap.size = w.heap.size + 1) := Lib.hid (by rw [hW0]; simp)
  have HW0 := Lib.hid hW0
  have HT := Lib.hid (hT.kept K0.out)
  have HH := Lib.hid (hH.kept K0.out)
  have hhc := hH.2.1
  have hhm := hH.2.2.1
  clear hT hH hW0
  obtain ⟨vb, hvb⟩ : ∃ vb, vb = vld sn sd := ⟨_, rfl⟩
  have HVB := Lib.hid hvb
  have HV1 : RowKit.Hid (∀ W, Calls Tryz.prog 91 #[.agg #[.int .i64 sn, .int .i64 sd]] W fun e w' => e = .returned (.bool vb) ∧ Kept W w') := Lib.hid (fun W => by rw [hvb]; exact rvalid_any sn sd W)
  obtain ⟨E, hE⟩ : ∃ E, E = askE xs hs vb day known := ⟨_, rfl⟩
  have HEE := Lib.hid hE
  have HAS : RowKit.Hid (∀ W, Kept W0 W → Calls Tryz.prog 126 #[.slice A n c, .slice B hn hc, .bool vb, .int .i64 day, .int .i64 known] W fun e w' => ∃ v, e = .returned (.tuple #[v, .int .i64 E]) ∧ (E = 0 → w'.ownsRow W.heap.size 23 2 v hs.length (fl2 (eachL xs hs day known))) ∧ Kept W w') := Lib.hid (fun W hW => by
    have := asked_any A n c xs B hn hc hs vb day known W (HT.out.kept hW) (HH.out.kept hW)
    unfold AskRes at this
    rw [← hE] at this
    exact this)
  have HEX : RowKit.Hid (E = eachE xs hs sn sd day known) := Lib.hid (by rw [hE, hvb]; exact askE_each xs hs sn sd day known)
  clear hvb hE
  have s0 := (RS.out 0 _ rfl).1
  have s1 := (RS.out 1 _ rfl).1
  have ls := cell_lt s0
  by_cases hz : E = 0
  rotate_left
  · have hzb : (E != 0) = true := by simpa using hz
    have HV : RowKit.Hid ((out, Z) = ([], E)) := Lib.hid (by rw [HX.out]; unfold fillR; rw [if_neg (by rw [← HEX.out]; exact hz), HEX.out])
    clear hz
    go_enter Tryz.func64, Tryz.ntmps64
    go_upto_region 1 with (fail)
    rw [← HW0.out]
    go_wp2_with fail
    refine (HV1.out _).mono ?_
    rintro e w1 ⟨rfl, hk1⟩
    have K1 := Lib.hid hk1
    clear s0 s1 ls hk1
    go_wp2_with fail
    refine (HAS.out _ K1.out).mono ?_
    rintro e w2 ⟨v, rfl, _, hk2⟩
    have K2 := Lib.hid (K0.out.trans (K1.out.trans hk2))
    clear hk2
    have hv := HV.out
    simp only [Prod.mk.injEq] at hv
    obtain ⟨rfl, rfl⟩ := hv
    go_wp2
    go_ret2
    exact ⟨_, rfl, own_zero _ _, K2.out⟩
  subst hz
  obtain ⟨hvt, hat⟩ := ask_true HEE.out.symm
  have hvs : vld sn sd = true := by rw [← HVB.out, hvt]
  have hee : eachE xs hs sn sd day known = 0 := HEX.out.symm
  have hgo := zipH_good hee
  have h12 := (areS_ok (each_ok hee).2.1).1
  rw [HH.out.1] at h12
  have HXF : RowKit.Hid ((out, Z) = match fillS (sn, sd) (zipH xs hs day known) with | some r => (r.2, 0) | none => ([], 2)) := Lib.hid (by rw [HX.out]; unfold fillR; rw [if_pos hee]; rfl)
  have hzl : (zipH xs hs day known).length = hn := by rw [zipH_map, List.length_map, HH.out.1]
  have HZL := Lib.hid hzl
  have HGO := Lib.hid hgo
  have HVS := Lib.hid hvs
  have hEL : (eachL xs hs day known).length = hs.length := by unfold eachL; rw [List.length_map]
  have hll : (eachL xs hs day known).length = hn := by rw [hEL, HH.out.1]
  have HLL := Lib.hid hll
  obtain ⟨i1', hj0, hy0, hy1, hy2⟩ := info_parts info84
  clear hvt hat hvs hee hgo hzl hll
  go_enter Tryz.func64, Tryz.ntmps64
  go_upto_region 1 with (fail)
  rw [← HW0.out]
  go_wp2_with fail
  refine (HV1.out _).mono ?_
  rintro e w1 ⟨rfl, hk1⟩
  have K1 := Lib.hid hk1
  clear s0 s1 ls hk1
  go_wp2_with fail
  refine (HAS.out _ K1.out).mono ?_
  rintro e w2 ⟨v, rfl, hown, hk2⟩
  have hown2 : w2.ownsRow w1.heap.size 23 2 v hs.length (fl2 (eachL xs hs day known)) := by first | exact hown rfl | exact hown trivial | exact hown
  obtain ⟨A7, c7, hv7, hf7⟩ := fracs_own (es := eachL xs hs day known) (by rw [hEL]; exact hown2)
  rw [HLL.out] at hv7 hf7
  subst hv7
  have HF7 := Lib.hid hf7
  have hc7 := hf7.2.1
  have hm7 := hf7.2.2.1
  have K2 := Lib.hid (K1.out.trans hk2)
  have KW2 := Lib.hid (K0.out.trans (K1.out.trans hk2))
  have RS2 := Lib.hid (RS.out.kept K2.out)
  have s0 := (RS2.out 0 _ rfl).1
  have s1 := (RS2.out 1 _ rfl).1
  have ls := cell_lt s0
  clear hown hown2 hf7 hk2 hEL
  obtain ⟨lb, hlb⟩ : ∃ lb, lb = w2.heap.size := ⟨_, rfl⟩
  have HLB := Lib.hid hlb
  obtain ⟨W3, hW3⟩ : ∃ W3, W3 = w2.alloc (.cells #[.int .i64 sn, .int .i64 sd] 23) := ⟨_, rfl⟩
  have K3 : RowKit.Hid (Kept w2 W3) := Lib.hid (by rw [hW3]; exact (Kept.refl _).alloc _)
  have R3 : RowKit.Hid (RowC W3 lb [.int .i64 sn, .int .i64 sd]) := Lib.hid (by rw [hW3, hlb]; exact RowC.new w2 _ 23)
  have Z3 : RowKit.Hid (W3.heap.size = lb + 1) := Lib.hid (by rw [hW3, hlb]; simp)
  have HW3 := Lib.hid hW3
  clear hW3 hlb
  go_upto_region 6 with (fail)
  rw [← HW3.out, ← HLB.out]
  go_wp2_with fail
  go_loopw [16, 17] (fun v i wr => ∃ (k : Nat) (a b : Int) (fo : List Hd), k ≤ hn ∧ i = .int .i64 k ∧ fillS (sn, sd) ((zipH xs hs day known).take k) = some ((a, b), fo) ∧ fo.length = k ∧ RowC wr lb [.int .i64 a, .int .i64 b] ∧ wr.ownsRow (lb + 1) 84 2 v k (hdFlat fo) ∧ Kept w2 wr ∧ lb < wr.heap.size) (fun _ i _ => hn - (intOf i).toNat)
  case atStart => exact ⟨0, sn, sd, [], by omega, by first | rfl | go_num, rfl, rfl, R3.out, by exact ⟨rfl, .inl ⟨rfl, rfl⟩⟩, K3.out, by have := Z3.out; omega⟩
  case round =>
    obtain ⟨k, a, b', fo, hk, rfl, hu, hfo, hr, hown, hkr, hzr⟩ := hrel
    have HUk := Lib.hid hu
    have HFo := Lib.hid hfo
    have HR := Lib.hid hr
    have HO := Lib.hid hown
    have HKR := Lib.hid hkr
    clear hu hfo hr hown hkr s0 s1 ls
    by_cases hlt : k < hn
    · obtain ⟨b, off, hB, hcc⟩ := HH.out.2.2.2.2 (by omega)
      subst hB
      obtain ⟨g, goff, hA7, hfc⟩ := HF7.out.2.2.2 (by omega)
      subst hA7
      have hxl : k < hs.length := by rw [HH.out.1]; exact hlt
      obtain ⟨hd, hhd⟩ : ∃ hd, hs[k]? = some hd := ⟨hs[k]'hxl, List.getElem?_eq_getElem hxl⟩
      have hze := zipH_at (xs := xs) (day := day) (known := known) hhd
      obtain ⟨⟨p0, p1⟩, hpp⟩ : ∃ p, p = stS (inForceS xs hd.sort day known) := ⟨_, rfl⟩
      rw [← hpp] at hze
      have hel : (eachL xs hs day known)[k]? = some (p0, p1) := by unfold eachL; rw [List.getElem?_map, hhd, hpp]; rfl
      obtain ⟨gv, gp, n0, n1⟩ := HGO.out _ (List.mem_of_getElem? hze)
      dsimp only at gv gp n0 n1
      have CS : RowKit.Hid (∀ W, Kept wr W → W.cell? ⟨b, off + k * 2, none⟩ = some (.string hd.sort) ∧ W.cell? ⟨b, off + k * 2 + 1, none⟩ = some (.int .i64 hd.num) ∧ W.cell? ⟨g, goff + k * 2, none⟩ = some (.int .i64 p0) ∧ W.cell? ⟨g, goff + k * 2 + 1, none⟩ = some (.int .i64 p1) ∧ W.cell? ⟨lb, 0, none⟩ = some (.int .i64 a) ∧ W.cell? ⟨lb, 1, none⟩ = some (.int .i64 b') ∧ Kept wr W) := Lib.hid (fun W hW => by
        have k1 := (K2.out.trans HKR.out).trans hW
        have k2 := HKR.out.trans hW
        exact ⟨(k1.cells _ _ (cell_lt (hcc k hd hhd).1)).trans (hcc k hd hhd).1, (k1.cells _ _ (cell_lt (hcc k hd hhd).2)).trans (hcc k hd hhd).2, (k2.cells _ _ (cell_lt (hfc k (p0, p1) hel).1)).trans (hfc k (p0, p1) hel).1, (k2.cells _ _ (cell_lt (hfc k (p0, p1) hel).2)).trans (hfc k (p0, p1) hel).2, (HR.out.kept hW 0 _ rfl).1, (HR.out.kept hW 1 _ rfl).1, hW⟩)
      have hav : vld a b' = true := fillS_vld _ ((sn, sd), []) ((a, b'), fo) HVS.out HUk.out
      obtain ⟨ft0, ft1⟩ := fitS_bd a b' p0 p1 (by have := vld_pos gv; omega) (Int.mul_nonneg (by have := vld_pos hav; omega) (by omega))
      obtain ⟨nn, hnn⟩ : ∃ nn, nn = min hd.num (fitS a b' p0 p1) := ⟨_, rfl⟩
      have nn0 : 0 ≤ nn := by omega
      have nn1 : nn ≤ 100000 := by omega
      have HF : RowKit.Hid (∀ W, Calls Tryz.prog 131 #[.agg #[.int .i64 p0, .int .i64 p1], .agg #[.int .i64 a, .int .i64 b'], .int .i64 hd.num] W fun e w' => e = .returned (.int .i64 nn) ∧ Kept W w') := Lib.hid (fun W => by
        have := rfits_any p0 p1 a b' hd.num (vld_bd gv) (vld_bd hav) gp n0 n1 W
        rw [rfit_eq n0 n1, ← hnn] at this
        exact this)
      have hst : fillS (sn, sd) ((zipH xs hs day known).take (k + 1)) = match mulF p0 p1 nn 1 with | some m => (match lowF (a * m.2 + -m.1 * b') (b' * m.2) with | some l => some (l, fo ++ [⟨hd.sort, nn⟩]) | none => none) | none => none := by
        rw [take_snoc' hze, fillS_snoc, HUk.out]
        unfold stepF
        dsimp only
        rw [← hnn]
        rfl
      have HST := Lib.hid hst
      obtain ⟨⟨m0, m1, me⟩, hm⟩ : ∃ m, m = mulS nn 1 p0 p1 := ⟨_, rfl⟩
      have HM : RowKit.Hid (∀ W, Calls Tryz.prog 32 #[.agg #[.int .i64 nn, .int .i64 1], .agg #[.int .i64 p0, .int .i64 p1]] W fun e w' => e = .returned (.tuple #[.agg #[.int .i64 m0, .int .i64 m1], .int .i64 me]) ∧ Kept W w') := Lib.hid (fun W => by
        have := rmul_any nn 1 p0 p1 W
        rw [← hm] at this
        exact this)
      have HMS : RowKit.Hid ((m0, m1, me) = okL (mulF p0 p1 nn 1)) := Lib.hid (by rw [hm]; exact mulS_one (p := (p0, p1)) gv nn0 nn1)
      have HAV := Lib.hid hav
      have HGV := Lib.hid (And.intro gv (And.intro nn0 nn1))
      have i0 : (0 : Int) ≤ (k : Int) := by omega
      have i1 : (k : Int) < (hn : Int) := by omega
      have it : (k : Int).toNat = k := by omega
      clear hcc hfc hhd hze hpp hel gv gp n0 n1 hnn hm hst hav ft0 ft1 nn0 nn1
      go_upto_region 10 with (fail)
      have SD := Lib.hid (CS.out _ ((Kept.refl wr).drew))
      go_cut [18] (fun s18 wx => s18 = .int .i64 nn ∧ Kept wr wx)
      case first =>
        go_region_held3 (fun W => W.cell? ⟨b, off + k * 2, none⟩ = some (.string hd.sort) ∧ W.cell? ⟨b, off + k * 2 + 1, none⟩ = some (.int .i64 hd.num) ∧ W.cell? ⟨g, goff + k * 2, none⟩ = some (.int .i64 p0) ∧ W.cell? ⟨g, goff + k * 2 + 1, none⟩ = some (.int .i64 p1) ∧ W.cell? ⟨lb, 0, none⟩ = some (.int .i64 a) ∧ W.cell? ⟨lb, 1, none⟩ = some (.int .i64 b') ∧ Kept wr W)
          (first
            | (with_reducible exact SD.out)
            | (with_reducible exact CS.out _ kk9)
            | fail)
          (first
            | (go_at_call 131; refine (HF.out _).mono ?_; rintro e w9 ⟨rfl, hk9⟩; have kk9 : Kept wr w9 := (by with_reducible exact ((Kept.refl wr).drew).trans hk9))
            | fail)
        all_goals go_wp2
        all_goals go_meet
        all_goals exact ⟨rfl, kk9⟩
      obtain ⟨rfl, kx⟩ := hcut
      obtain ⟨w4, rfl⟩ : ∃ w4, w4 = wc := ⟨_, rfl⟩
      have KX := Lib.hid kx
      obtain ⟨_, _, u0, u1, _, _, _⟩ := CS.out _ kx
      have lu := cell_lt u0
      clear kx
      go_wp2_with fail
      refine (HM.out _).mono ?_
      rintro e w5 ⟨rfl, hk5⟩
      obtain ⟨W6, hW6⟩ : ∃ W6, W6 = w5.alloc (.cells #[.int .i64 m0, .int .i64 m1] 23) := ⟨_, rfl⟩
      have k6 : Kept wr W6 := by rw [hW6]; exact (KX.out.trans hk5).alloc _
      have K6 := Lib.hid k6
      have X6 : RowKit.Hid (RowC W6 w5.heap.size [.int .i64 m0, .int .i64 m1]) := Lib.hid (by rw [hW6]; exact RowC.new w5 _ 23)
      have HW6 := Lib.hid hW6
      clear u0 u1 lu hk5 hW6 k6
      go_upto_region 12 with (fail)
      rw [← HW6.out]
      rcases hmm : mulF p0 p1 nn 1 with _ | m
      · have hq := HMS.out
        rw [hmm] at hq
        simp only [okL, Prod.mk.injEq] at hq
        obtain ⟨rfl, rfl, rfl⟩ := hq
        have HV : RowKit.Hid ((out, Z) = ([], 2)) := Lib.hid (by
          rw [HXF.out, fillS_none_of (k := k + 1) (by rw [HST.out, hmm])])
        have hv := HV.out
        simp only [Prod.mk.injEq] at hv
        obtain ⟨rfl, rfl⟩ := hv
        clear hmm
        go_wp2
        go_ret2
        exact ⟨_, rfl, own_zero _ _, KW2.out.trans (HKR.out.trans K6.out)⟩
      have hq := HMS.out
      rw [hmm] at hq
      obtain ⟨m0', m1'⟩ := m
      simp only [okL, Prod.mk.injEq] at hq
      obtain ⟨rfl, rfl, rfl⟩ := hq
      have hmv := (mulF_val (p := (p0, p1)) HGV.out.1 (by have := HGV.out.2; omega) (by have := HGV.out.2; omega) hmm).2
      obtain ⟨⟨s0, s1, se⟩, hs'⟩ : ∃ m, m = subS a b' m0 m1 := ⟨_, rfl⟩
      have hmb := vld_bd hmv
      have HA : RowKit.Hid (∀ W, Calls Tryz.prog 30 #[.agg #[.int .i64 a, .int .i64 b'], .agg #[.int .i64 m0, .int .i64 m1]] W fun e w' => e = .returned (.tuple #[.agg #[.int .i64 s0, .int .i64 s1], .int .i64 se]) ∧ Kept W w') := Lib.hid (fun W => by
        have := rsub_any a b' m0 m1 (by have := hmb.2.1; dsimp only at this; omega) (by have := hmb.2.2; dsimp only at this; omega) W
        rw [← hs'] at this
        exact this)
      have HAS' : RowKit.Hid ((s0, s1, se) = okL (lowF (a * m1 + -m0 * b') (b' * m1))) := Lib.hid (by rw [hs']; exact subS_val (a := (a, b')) (p := (m0, m1)) HAV.out hmv)
      have HST2 : RowKit.Hid (fillS (sn, sd) ((zipH xs hs day known).take (k + 1)) = match lowF (a * m1 + -m0 * b') (b' * m1) with | some l => some (l, fo ++ [⟨hd.sort, nn⟩]) | none => none) := Lib.hid (by rw [HST.out, hmm])
      obtain ⟨_, _, _, _, t0, t1, _⟩ := CS.out _ K6.out
      have v0 := (X6.out 0 _ rfl).1
      have v1 := (X6.out 1 _ rfl).1
      have lt := cell_lt t0
      have lv := cell_lt v0
      clear hmm hmv hs' hmb
      go_wp2_with fail
      refine (HA.out _).mono ?_
      rintro e w7 ⟨rfl, hk7⟩
      obtain ⟨W8, hW8⟩ : ∃ W8, W8 = w7.alloc (.cells #[.int .i64 s0, .int .i64 s1] 23) := ⟨_, rfl⟩
      have k8 : Kept wr W8 := by rw [hW8]; exact (K6.out.trans hk7).alloc _
      have K8 := Lib.hid k8
      have X8 : RowKit.Hid (RowC W8 w7.heap.size [.int .i64 s0, .int .i64 s1]) := Lib.hid (by rw [hW8]; exact RowC.new w7 _ 23)
      have hz8 : lb < w7.heap.size := by have := (K6.out.trans hk7).size; omega
      have hz8' : lb < W8.heap.size := by have := k8.size; omega
      have HW8 := Lib.hid hW8
      clear t0 t1 v0 v1 lt lv hk7 hW8 k8
      go_upto_region 15 with (fail)
      rw [← HW8.out]
      rcases hadd : lowF (a * m1 + -m0 * b') (b' * m1) with _ | r2
      · have hq := HAS'.out
        rw [hadd] at hq
        simp only [okL, Prod.mk.injEq] at hq
        obtain ⟨rfl, rfl, rfl⟩ := hq
        have HV : RowKit.Hid ((out, Z) = ([], 2)) := Lib.hid (by
          rw [HXF.out, fillS_none_of (k := k + 1) (by rw [HST2.out, hadd])])
        have hv := HV.out
        simp only [Prod.mk.injEq] at hv
        obtain ⟨rfl, rfl⟩ := hv
        clear hadd
        go_wp2
        go_ret2
        exact ⟨_, rfl, own_zero _ _, KW2.out.trans (HKR.out.trans K8.out)⟩
      · have hq := HAS'.out
        rw [hadd] at hq
        obtain ⟨r0', r1'⟩ := r2
        simp only [okL, Prod.mk.injEq] at hq
        obtain ⟨rfl, rfl, rfl⟩ := hq
        have HUN : RowKit.Hid (fillS (sn, sd) ((zipH xs hs day known).take (k + 1)) = some ((s0, s1), fo ++ [⟨hd.sort, nn⟩])) := Lib.hid (by rw [HST2.out, hadd])
        have R8 := HR.out.kept K8.out
        have e0 := (X8.out 0 _ rfl).1
        have e1 := (X8.out 1 _ rfl).1
        have t0 := (R8 0 _ rfl).1
        have t1 := (R8 1 _ rfl).1
        have y0 := (R8 0 _ rfl).2
        have y1 := (R8 1 _ rfl).2
        have le := cell_lt e0
        have lt := cell_lt t0
        have hne : w7.heap.size ≠ lb := by omega
        clear hadd
        go_upto_region 18 with (fail)
        obtain ⟨W9, hW9⟩ : ∃ W9, W9 = (W8.setCell ⟨lb, 0, none⟩ (.int .i64 s0)).setCell ⟨lb, 1, none⟩ (.int .i64 s1) := ⟨_, rfl⟩
        have R9 : RowKit.Hid (RowC W9 lb [.int .i64 s0, .int .i64 s1]) := Lib.hid (by rw [hW9]; simpa using ((R8.put (j := 0) (by simp) (.int .i64 s0)).put (j := 1) (by simp) (.int .i64 s1)))
        have hlbw : w2.heap.size ≤ lb := by rw [HLB.out]; exact Nat.le_refl _
        have K9 : RowKit.Hid (Kept w2 W9) := Lib.hid (by rw [hW9]; exact ((HKR.out.trans K8.out).setCell hlbw _).setCell hlbw _)
        have O9 : RowKit.Hid (W9.ownsRow (lb + 1) 84 2 _ k (hdFlat fo)) := Lib.hid (own_blocks (own_kept HO.out K8.out) (fun q hq => by
          rw [hW9]
          rw [Below.heap_setCell _ ⟨lb, 1, none⟩ _ q (by simp; omega), Below.heap_setCell _ ⟨lb, 0, none⟩ _ q (by simp; omega)]))
        have c0 : W9.cell? ⟨b, off + k * 2, none⟩ = some (.string hd.sort) := by
          obtain ⟨x0, _⟩ := CS.out _ K8.out
          have hbl : b ≠ lb := by
            intro e9
            obtain ⟨z0, _⟩ := CS.out _ (Kept.refl wr)
            obtain ⟨b9, off9, e8, hc9⟩ := HH.out.2.2.2.2 (by omega)
            cases e8
            have hxl9 : k < hs.length := by rw [HH.out.1]; exact hlt
            have h7 := cell_lt (hc9 k _ (List.getElem?_eq_getElem hxl9)).1
            have h8 := K2.out.size
            have h9 := HLB.out
            omega
          rw [hW9, World.cell?_setCell_far _ _ _ _ (by simpa using Ne.symm hbl), World.cell?_setCell_far _ _ _ _ (by simpa using Ne.symm hbl)]
          exact x0
        have lc := cell_lt c0
        have hz9 : lb < W9.heap.size := by rw [hW9]; simpa using hz8'
        have HW9 := Lib.hid hW9
        clear hW9 e0 e1 t0 t1 y0 y1 le lt R8
        rw [← HW9.out]
        have HN := Lib.hid (news_of (W := W9) (cs := hdCells ⟨hd.sort, nn⟩) (t := 84) (m := W9.heap.size) rfl)
        have H1 := Lib.hid (one2h ⟨hd.sort, nn⟩)
        have HOA := Lib.hid (own_kept O9.out ((Kept.refl W9).alloc (.cells #[.string hd.sort, .int .i64 nn] 84)))
        have HA3 : RowKit.Hid (k + 1 ≤ maxLen) := Lib.hid (by unfold maxLen; omega)
        have HA4 : RowKit.Hid ((k + 1) * 24 ≤ 140737488355328) := Lib.hid (by omega)
        have HZ : RowKit.Hid (lb + 1 ≤ (W9.alloc (.cells #[.string hd.sort, .int .i64 nn] 84)).heap.size) := Lib.hid (by simp; omega)
        go_wp2_with (at_builtin; refine wpList_append_lies _ rfl (.tmp 78) (.tmp 86) 61 rfl (lb + 1) 84 i1' _ 2 24 Tryz.underlying61 hj0 hy0 hy1 hy2 rfl (by decide) _ k _ rfl HOA.out ⟨W9.heap.size, 0, none⟩ 1 1 (hdCells ⟨hd.sort, nn⟩) rfl rfl HN.out H1.out (by decide) HA3.out HA4.out HZ.out _ rfl ?_; intro g10 cap10 w10 hown10 hgrow10 hat10 hlt10)
        have HO10 := Lib.hid hown10
        have hnb : ∀ r, _ = some r → lb + 1 ≤ r := fun r hr => (O9.out.lt r hr).1
        have HK10 := Lib.hid ((K9.out.alloc (.cells #[.string hd.sort, .int .i64 nn] 84)).grown hgrow10 (fun r hr => by have := hnb r hr; have := HLB.out; omega))
        have HR10 := Lib.hid ((R9.out.kept ((Kept.refl W9).alloc (.cells #[.string hd.sort, .int .i64 nn] 84))).grown hgrow10 (fun e9 => by have := hnb lb e9.symm; omega))
        have hz10 := cell_lt (HR10.out 0 _ rfl).1
        clear hown10 hgrow10 hat10 hlt10 hnb c0 lc
        go_roundw
        case rel =>
          refine ⟨k + 1, s0, s1, fo ++ [⟨hd.sort, nn⟩], by omega, by go_num, HUN.out, by rw [List.length_append, HFo.out]; rfl, HR10.out, ?_, HK10.out, hz10⟩
          rw [hdFlat_snoc]
          exact HO10.out
        case measure => simp [intOf]; omega
    · obtain rfl : k = hn := by omega
      have HUX : RowKit.Hid ((out, Z) = (fo, 0)) := Lib.hid (by
        have h := HUk.out
        rw [List.take_of_length_le (by rw [HZL.out]; exact Nat.le_refl _)] at h
        rw [HXF.out, h])
      have hv := HUX.out
      simp only [Prod.mk.injEq] at hv
      obtain ⟨rfl, rfl⟩ := hv
      go_wp2
      go_ret2
      refine ⟨_, rfl, ?_, KW2.out.trans HKR.out⟩
      rw [HFo.out]
      exact own_base HO.out (by have := KW2.out.size; have := HLB.out; omega)
end Go.Proofs.YtcjpecdnenemaaaGreatDoor

namespace Go.Proofs.YtcjpecdnenemaaaGreatDoor
set_option linter.all false
open Go.RowKit Go.Shelf

theorem heads_own8 {w : World} {base : Nat} {t : TypeId} {v : Value} {hs : List Hd} (h : w.ownsRow base t 2 v hs.length (hdFlat hs)) (hb : ∀ x ∈ hs, x.sort.size ≤ 9223372036854775807 ∧ -9223372036854775808 ≤ x.num ∧ x.num ≤ 9223372036854775807) : ∃ A c, v = .slice A hs.length c ∧ HeadsA w A hs.length c hs := by
  rcases own_form h with ⟨rfl, h0⟩ | ⟨g, c, rfl, h1, h2, h3, h4⟩
  · exact ⟨none, 0, by rw [h0], rfl, by omega, by omega, hb, fun hn => by omega⟩
  · refine ⟨some ⟨g, 0, none⟩, c, rfl, rfl, h1, by simpa [maxLen] using h2, hb, fun _ => ⟨g, 0, rfl, fun i x hx => ?_⟩⟩
    have hr := own_rowC h
    have := flH_at hs i x hx
    rw [Nat.zero_add]
    exact ⟨(hr _ _ this.1).1, (hr _ _ this.2).1⟩
theorem fillR_bd {xs : List Eqv} {hs out : List Hd} {sn sd day known z : Int} (h : fillR xs hs sn sd day known = (out, z)) (hsz : ∀ x ∈ hs, x.sort.size ≤ 100) : ∀ x ∈ out, x.sort.size ≤ 9223372036854775807 ∧ -9223372036854775808 ≤ x.num ∧ x.num ≤ 9223372036854775807 := by
  by_cases hz : z = 0
  · subst hz
    obtain ⟨l, he0, hv, hok, _⟩ := fillR_ok h
    obtain ⟨hol, heach⟩ := fill_each hok
    have hare := (areS_ok (each_ok he0).2.1).2
    intro x hx
    obtain ⟨i, hi⟩ := List.getElem?_of_mem hx
    have hil := (List.getElem?_eq_some_iff.1 hi).1
    have hxx : hs[i]? = some (hs[i]'(by omega)) := List.getElem?_eq_getElem (by omega)
    obtain ⟨s1, s2, s3, _⟩ := heach i _ x hxx hi
    have := hare _ (List.mem_of_getElem? hxx)
    have h9 := hsz _ (List.mem_of_getElem? hxx)
    rw [s1]
    omega
  · obtain rfl := fillR_bad h hz
    intro x hx
    cases hx

set_option maxRecDepth 100000 in
set_option maxHeartbeats 8000000 in
theorem uses8_any (A : Option Addr) (n c : Nat) (xs : List Eqv) (B : Option Addr) (hn hc : Nat) (hs : List Hd) (sn sd day known : Int) (w : World) (hT : TabA w A n c xs) (hH : HeadsA w B hn hc hs) (hE : Env w) :
    Calls Tryz.prog 8 #[.slice A n c, .slice B hn hc, .agg #[.int .i64 sn, .int .i64 sd], .int .i64 day, .int .i64 known] w fun e w' => e = .returned (.bool true) ∧ Kept w w' := by
  have hnc := hT.2.1
  have hcm := hT.2.2.1
  have hhc := hH.2.1
  have hhm := hH.2.2.1
  obtain ⟨W0, hW0⟩ : ∃ W0, W0 = w.alloc (.cells #[.int .i64 sn, .int .i64 sd] 23) := ⟨_, rfl⟩
  have K0 : RowKit.Hid (Kept w W0) := Lib.hid (by rw [hW0]; exact (Kept.refl _).alloc _)
  have R0 : RowKit.Hid (RowC W0 w.heap.size [.int .i64 sn, .int .i64 sd]) := Lib.hid (by rw [hW0]; exact RowC.new w _ 23)
  have HW0 := Lib.hid hW0
  have HT := Lib.hid (hT.kept K0.out)
  have HH := Lib.hid (hH.kept K0.out)
  have HE := Lib.hid (hE.kept K0.out)
  clear hT hH hE hW0
  obtain ⟨fb, hfb⟩ : ∃ fb, fb = fewB n := ⟨_, rfl⟩
  have HFB := Lib.hid hfb
  have HF : RowKit.Hid (∀ W, Calls Tryz.prog 47 #[.slice A n c] W fun e w' => e = .returned (.bool fb) ∧ W = w') := Lib.hid (fun W => by rw [hfb]; exact few_any A n c (by omega) W)
  clear hfb
  cases fb
  · go_enter Tryz.func8, Tryz.ntmps8
    go_upto_region 1 with (fail)
    rw [← HW0.out]
    go_wp2_with fail
    refine (HF.out _).mono ?_
    rintro e w1 ⟨rfl, rfl⟩
    go_wp2_with fail
    refine (alive_any _ HE.out).mono ?_
    rintro e w2 ⟨rfl, hk2⟩
    go_wp2
    go_ret
    exact ⟨rfl, K0.out.trans hk2⟩
  have hlt : n ≤ 1000000 := by have := few_le HFB.out.symm; omega
  obtain ⟨sb, hsb⟩ : ∃ sb, sb = shB hs := ⟨_, rfl⟩
  have HSB := Lib.hid hsb
  have HSH : RowKit.Hid (∀ W, Kept W0 W → Calls Tryz.prog 58 #[.slice B hn hc] W fun e w' => e = .returned (.bool sb) ∧ Kept W w') := Lib.hid (fun W hW => by rw [hsb]; exact short_any B hn hc hs W (HH.out.kept hW))
  clear hsb
  cases sb
  · go_enter Tryz.func8, Tryz.ntmps8
    go_upto_region 1 with (fail)
    rw [← HW0.out]
    go_wp2_with fail
    refine (HF.out _).mono ?_
    rintro e w1 ⟨rfl, rfl⟩
    go_wp2_with fail
    refine (HSH.out _ (Kept.refl _)).mono ?_
    rintro e w2 ⟨rfl, hk2⟩
    go_wp2_with fail
    refine (alive_any _ (HE.out.kept hk2)).mono ?_
    rintro e w3 ⟨rfl, hk3⟩
    go_wp2
    go_ret
    exact ⟨rfl, K0.out.trans (hk2.trans hk3)⟩
  obtain ⟨h15, hsz⟩ := shB_ok HSB.out.symm
  have HSZ := Lib.hid hsz
  rw [HH.out.1] at h15
  clear hsz
  obtain ⟨⟨x0, x1, x2⟩, hx⟩ : ∃ r, r = excS xs hs 0 1 day known := ⟨_, rfl⟩
  obtain ⟨⟨y0, y1, y2⟩, hy⟩ : ∃ r, r = excS xs hs sn sd day known := ⟨_, rfl⟩
  obtain ⟨⟨out, z⟩, hz⟩ : ∃ r, r = fillR xs hs sn sd day known := ⟨_, rfl⟩
  have HBD := Lib.hid (fillR_bd hz.symm HSZ.out)
  have C59 : RowKit.Hid (∀ W, Kept W0 W → Calls Tryz.prog 59 #[.slice A n c, .slice B hn hc, .int .i64 day, .int .i64 known] W fun e w' => e = .returned (.tuple #[.agg #[.int .i64 x0, .int .i64 x1], .int .i64 x2]) ∧ Kept W w') := Lib.hid (fun W hW => by
    have := uses_any A n c xs B hn hc hs day known W (HT.out.kept hW) hlt (HH.out.kept hW)
    rw [← hx] at this
    exact this)
  have C60 : RowKit.Hid (∀ W, Kept W0 W → Calls Tryz.prog 60 #[.slice A n c, .slice B hn hc, .int .i64 day, .int .i64 known] W fun e w' => e = .returned (.tuple #[.agg #[.int .i64 x0, .int .i64 x1], .int .i64 x2]) ∧ Kept W w') := Lib.hid (fun W hW => by
    have := ruses_any A n c xs B hn hc hs day known W (HT.out.kept hW) (HH.out.kept hW)
    rw [← hx] at this
    exact this)
  have C61 : RowKit.Hid (∀ W, Kept W0 W → Calls Tryz.prog 61 #[.slice A n c, .slice B hn hc, .agg #[.int .i64 sn, .int .i64 sd], .int .i64 day, .int .i64 known] W fun e w' => e = .returned (.tuple #[.agg #[.int .i64 y0, .int .i64 y1], .int .i64 y2]) ∧ Kept W w') := Lib.hid (fun W hW => by
    have := excess_any A n c xs B hn hc hs sn sd day known W (HT.out.kept hW) hlt (HH.out.kept hW)
    rw [← hy] at this
    exact this)
  have C62 : RowKit.Hid (∀ W, Kept W0 W → Calls Tryz.prog 62 #[.slice A n c, .slice B hn hc, .agg #[.int .i64 sn, .int .i64 sd], .int .i64 day, .int .i64 known] W fun e w' => e = .returned (.tuple #[.agg #[.int .i64 y0, .int .i64 y1], .int .i64 y2]) ∧ Kept W w') := Lib.hid (fun W hW => by
    have := rexcess_any A n c xs B hn hc hs sn sd day known W (HT.out.kept hW) (HH.out.kept hW)
    rw [← hy] at this
    exact this)
  have C63 : RowKit.Hid (∀ W, Kept W0 W → Calls Tryz.prog 63 #[.slice A n c, .slice B hn hc, .agg #[.int .i64 sn, .int .i64 sd], .int .i64 day, .int .i64 known] W fun e w' => ∃ v, e = .returned (.tuple #[v, .int .i64 z]) ∧ w'.ownsRow W.heap.size 84 2 v out.length (hdFlat out) ∧ Kept W w') := Lib.hid (fun W hW => by
    have := fill_any A n c xs B hn hc hs sn sd day known W (HT.out.kept hW) hlt (HH.out.kept hW)
    rw [← hz] at this
    exact this)
  have C64 : RowKit.Hid (∀ W, Kept W0 W → Calls Tryz.prog 64 #[.slice A n c, .slice B hn hc, .agg #[.int .i64 sn, .int .i64 sd], .int .i64 day, .int .i64 known] W fun e w' => ∃ v, e = .returned (.tuple #[v, .int .i64 z]) ∧ w'.ownsRow W.heap.size 84 2 v out.length (hdFlat out) ∧ Kept W w') := Lib.hid (fun W hW => by
    have := rfill_any A n c xs B hn hc hs sn sd day known W (HT.out.kept hW) (HH.out.kept hW)
    rw [← hz] at this
    exact this)
  clear hx hy hz
  go_enter Tryz.func8, Tryz.ntmps8
  go_upto_region 1 with (fail)
  rw [← HW0.out]
  go_wp2_with fail
  refine (HF.out _).mono ?_
  rintro e w1 ⟨rfl, rfl⟩
  go_wp2_with fail
  refine (HSH.out _ (Kept.refl _)).mono ?_
  rintro e w2 ⟨rfl, hk2⟩
  have K2 := Lib.hid hk2
  clear hk2
  go_wp2_with fail
  refine (C59.out _ K2.out).mono ?_
  rintro e w3 ⟨rfl, hk3⟩
  obtain ⟨W3, hW3⟩ : ∃ W, W = w3.alloc (.cells #[.int .i64 x0, .int .i64 x1] 23) := ⟨_, rfl⟩
  have RA : RowKit.Hid (RowC W3 w3.heap.size [.int .i64 x0, .int .i64 x1]) := Lib.hid (by rw [hW3]; exact RowC.new w3 [.int .i64 x0, .int .i64 x1] 23)
  have K3 : RowKit.Hid (Kept W0 W3) := Lib.hid ((K2.out.trans hk3).trans (show Kept w3 W3 by rw [hW3]; exact (Kept.refl _).alloc _))
  have KSW3 : RowKit.Hid (Kept w3 W3) := Lib.hid (by rw [hW3]; exact (Kept.refl _).alloc _)
  have HW3 := Lib.hid hW3
  clear hW3
  clear hk3
  go_upto_region 4 with (fail)
  rw [← HW3.out]
  go_wp2_with fail
  refine (C60.out _ K3.out).mono ?_
  rintro e w4 ⟨rfl, hk4⟩
  have RA4 := Lib.hid (RA.out.kept hk4)
  obtain ⟨W5, hW5⟩ : ∃ W, W = w4.alloc (.cells #[.int .i64 x0, .int .i64 x1] 23) := ⟨_, rfl⟩
  have RB : RowKit.Hid (RowC W5 w4.heap.size [.int .i64 x0, .int .i64 x1]) := Lib.hid (by rw [hW5]; exact RowC.new w4 [.int .i64 x0, .int .i64 x1] 23)
  have K5 : RowKit.Hid (Kept W0 W5) := Lib.hid ((K3.out.trans hk4).trans (show Kept w4 W5 by rw [hW5]; exact (Kept.refl _).alloc _))
  have KSW5 : RowKit.Hid (Kept w4 W5) := Lib.hid (by rw [hW5]; exact (Kept.refl _).alloc _)
  have HW5 := Lib.hid hW5
  clear hW5
  have RA5 := Lib.hid (RA4.out.kept KSW5.out)
  clear hk4
  go_upto_region 5 with (fail)
  rw [← HW5.out]
  have rr := R0.out.kept K5.out
  have r0 := (rr 0 _ rfl).1
  have r1 := (rr 1 _ rfl).1
  have lr := cell_lt r0
  clear rr
  go_wp2_with fail
  refine (C61.out _ K5.out).mono ?_
  rintro e w6 ⟨rfl, hk6⟩
  have RA6 := Lib.hid (RA5.out.kept hk6)
  have RB6 := Lib.hid (RB.out.kept hk6)
  obtain ⟨W7, hW7⟩ : ∃ W, W = w6.alloc (.cells #[.int .i64 y0, .int .i64 y1] 23) := ⟨_, rfl⟩
  have RC : RowKit.Hid (RowC W7 w6.heap.size [.int .i64 y0, .int .i64 y1]) := Lib.hid (by rw [hW7]; exact RowC.new w6 [.int .i64 y0, .int .i64 y1] 23)
  have K7 : RowKit.Hid (Kept W0 W7) := Lib.hid ((K5.out.trans hk6).trans (show Kept w6 W7 by rw [hW7]; exact (Kept.refl _).alloc _))
  have KSW7 : RowKit.Hid (Kept w6 W7) := Lib.hid (by rw [hW7]; exact (Kept.refl _).alloc _)
  have HW7 := Lib.hid hW7
  clear hW7
  have RA7 := Lib.hid (RA6.out.kept KSW7.out)
  have RB7 := Lib.hid (RB6.out.kept KSW7.out)
  clear hk6 r0 r1 lr
  go_upto_region 6 with (fail)
  rw [← HW7.out]
  have rr := R0.out.kept K7.out
  have r0 := (rr 0 _ rfl).1
  have r1 := (rr 1 _ rfl).1
  have lr := cell_lt r0
  clear rr
  go_wp2_with fail
  refine (C62.out _ K7.out).mono ?_
  rintro e w8 ⟨rfl, hk8⟩
  have RA8 := Lib.hid (RA7.out.kept hk8)
  have RB8 := Lib.hid (RB7.out.kept hk8)
  have RC8 := Lib.hid (RC.out.kept hk8)
  obtain ⟨W9, hW9⟩ : ∃ W, W = w8.alloc (.cells #[.int .i64 y0, .int .i64 y1] 23) := ⟨_, rfl⟩
  have RD : RowKit.Hid (RowC W9 w8.heap.size [.int .i64 y0, .int .i64 y1]) := Lib.hid (by rw [hW9]; exact RowC.new w8 [.int .i64 y0, .int .i64 y1] 23)
  have K9 : RowKit.Hid (Kept W0 W9) := Lib.hid ((K7.out.trans hk8).trans (show Kept w8 W9 by rw [hW9]; exact (Kept.refl _).alloc _))
  have KSW9 : RowKit.Hid (Kept w8 W9) := Lib.hid (by rw [hW9]; exact (Kept.refl _).alloc _)
  have HW9 := Lib.hid hW9
  clear hW9
  have RA9 := Lib.hid (RA8.out.kept KSW9.out)
  have RB9 := Lib.hid (RB8.out.kept KSW9.out)
  have RC9 := Lib.hid (RC8.out.kept KSW9.out)
  clear hk8 r0 r1 lr
  go_upto_region 7 with (fail)
  rw [← HW9.out]
  have rr := R0.out.kept K9.out
  have r0 := (rr 0 _ rfl).1
  have r1 := (rr 1 _ rfl).1
  have lr := cell_lt r0
  clear rr
  go_wp2_with fail
  refine (C63.out _ K9.out).mono ?_
  rintro e w10 ⟨v, rfl, hown, hk10⟩
  obtain ⟨A3, c3, hv3, hh3⟩ := heads_own8 hown HBD.out
  subst hv3
  have H3 := Lib.hid hh3
  have K10 := Lib.hid (K9.out.trans hk10)
  have S10 := Lib.hid hk10
  clear hk10 hown hh3 r0 r1 lr
  have rr := R0.out.kept K10.out
  have r0 := (rr 0 _ rfl).1
  have r1 := (rr 1 _ rfl).1
  have lr := cell_lt r0
  clear rr
  go_wp2_with fail
  refine (C64.out _ K10.out).mono ?_
  rintro e w11 ⟨v, rfl, hown, hk11⟩
  obtain ⟨A4, c4, hv4, hh4⟩ := heads_own8 hown HBD.out
  subst hv4
  have H4 := Lib.hid hh4
  have K11 := Lib.hid (K10.out.trans hk11)
  have S11 := Lib.hid (S10.out.trans hk11)
  have H3b := Lib.hid (H3.out.kept hk11)
  clear hk11 hown hh4 r0 r1 lr
  go_wp2_with fail
  refine (alive_any _ (HE.out.kept K11.out)).mono ?_
  rintro e w12 ⟨rfl, hk12⟩
  have K12 := Lib.hid (K11.out.trans hk12)
  have kk := S11.out.trans hk12
  have ra := RA9.out.kept kk
  have rb := RB9.out.kept kk
  have rc := RC9.out.kept kk
  have rd := RD.out.kept kk
  have a0 := (ra 0 _ rfl).1
  have a1 := (ra 1 _ rfl).1
  have b0 := (rb 0 _ rfl).1
  have b1 := (rb 1 _ rfl).1
  have c0 := (rc 0 _ rfl).1
  have c1 := (rc 1 _ rfl).1
  have d0 := (rd 0 _ rfl).1
  have d1 := (rd 1 _ rfl).1
  have la := cell_lt a0
  have lb := cell_lt b0
  have lc := cell_lt c0
  have ld := cell_lt d0
  have C65 : RowKit.Hid (∀ W, Kept w11 W → Calls Tryz.prog 65 #[.slice A3 out.length c3, .slice A4 out.length c4] W fun e w' => e = .returned (.bool true) ∧ Kept W w') := Lib.hid (fun W hW => sameHeads_any A3 A4 out.length c3 c4 out W (H3b.out.kept hW) (H4.out.kept hW))
  have K12b := Lib.hid hk12
  clear kk ra rb rc rd hk12
  go_wp2_with fail
  refine (C65.out _ K12b.out).mono ?_
  rintro e w13 ⟨rfl, hk13⟩
  go_wp2
  go_ret
  exact ⟨by first | rfl | (simp; done), K0.out.trans (K12.out.trans hk13)⟩
end Go.Proofs.YtcjpecdnenemaaaGreatDoor

namespace Go.Proofs.YtcjpecdnenemaaaGreatDoor
set_option linter.all false
open Go.RowKit Go.Shelf

set_option maxRecDepth 100000 in
set_option maxHeartbeats 8000000 in
theorem insertion_any (g n c bc nn : Nat) (cf : Nat → Nat → Int) (lt : Nat → Nat → Prop) (tr : ∀ x y z, lt x y → lt y z → lt x z) (P X S : List Nat) (a b : Nat) (ha : P.length = a) (hb : a + X.length = b) (hn : b + S.length = n) (hX : 0 < X.length) (hnc : n ≤ c) (hc : c ≤ 1000)
    (hx : ∀ x ∈ X, x < nn) (hcf : ∀ (i j u v : Nat), X[i]? = some v → X[j]? = some u → i < j → ((cf u v < 0 ↔ lt u v) ∧ (¬ lt u v → lt v u)))
    (w : World) (hC : CmpG g bc nn cf w) (hr : RowC w g (natV (P ++ X ++ S))) :
    Calls Tryz.prog 200 #[.slice (some ⟨g, 0, none⟩) n c, .int .i64 a, .int .i64 b, (.func (.func 139) #[] #[.pointer (some ⟨bc, 0, none⟩)])] w fun e w' => e = .returned (.tuple #[]) ∧ ∃ Z, Z.Pairwise lt ∧ Z.Perm X ∧ Stp g w (P ++ Z ++ S) w' := by
  have HR := Lib.hid hr
  have HC := Lib.hid hC
  have HCF := Lib.hid hcf
  have HTR := Lib.hid tr
  have HX := Lib.hid hx
  have HPA := Lib.hid ha
  obtain ⟨lx, hlx⟩ : ∃ lx, lx = X.length := ⟨_, rfl⟩
  rw [← hlx] at hb hX
  have HLX := Lib.hid hlx
  clear hr hC hcf tr hx hlx ha
  have g139 := e139
  go_enter Tryz.func200, Tryz.ntmps200
  go_wp2_with fail
  go_loopw [8] (fun i wr => ∃ (k : Nat) (Z : List Nat), 1 ≤ k ∧ k ≤ lx ∧ i = .int .i64 ((a + k : Nat) : Int) ∧ Z.Pairwise lt ∧ Z.Perm (X.take k) ∧ Stp g w (P ++ Z ++ X.drop k ++ S) wr) (fun i _ => b - (intOf i).toNat)
  case atStart => exact ⟨1, X.take 1, by omega, by omega, by first | rfl | (congr 1; done) | (congr 1; omega), by
      rcases X with _ | ⟨x, X⟩
      · simp
      · simp, List.Perm.refl _, But.of_kept (Kept.refl _), by
      have h := HR.out
      rw [List.append_assoc P, List.take_append_drop]; exact h⟩
  case round =>
    obtain ⟨k, Z, hk1, hk2, rfl, hpw, hpm, hst⟩ := hrel
    have HPW := Lib.hid hpw
    have HPM := Lib.hid hpm
    have HST := Lib.hid hst
    clear hpw hpm hst
    by_cases hlt : k < lx
    · have d1 : decide (((a + k : Nat) : Int) < (b : Int)) = true := decide_eq_true (by omega)
      have hlx := HLX.out
      have hpa := HPA.out
      obtain ⟨u, hu⟩ : ∃ u, X[k]? = some u := ⟨X[k]'(by omega), List.getElem?_eq_getElem (by omega)⟩
      have HU := Lib.hid hu
      have hun := HX.out u (List.mem_of_getElem? hu)
      have hzl : Z.length = k := by rw [HPM.out.length_eq, List.length_take]; omega
      have HZL := Lib.hid hzl
      have HZ : RowKit.Hid (∀ z ∈ Z, z < nn ∧ (cf u z < 0 ↔ lt u z) ∧ (¬ lt u z → lt z u)) := Lib.hid (fun z hz => by
        have hm := HPM.out.mem_iff.1 hz
        obtain ⟨i, hi, rfl⟩ := List.mem_iff_getElem.1 hm
        rw [List.length_take] at hi
        rw [List.getElem_take]
        have h1 : X[i]? = some (X[i]'(by omega)) := List.getElem?_eq_getElem _
        exact ⟨HX.out _ (List.getElem_mem _), (HCF.out i k u _ h1 hu (by omega)).1, (HCF.out i k u _ h1 hu (by omega)).2⟩)
      have HST1 : RowKit.Hid (Stp g w (P ++ (Z.take k ++ [u] ++ Z.drop k) ++ X.drop (k + 1) ++ S) wr) := Lib.hid (by
        have h := HST.out
        have e1 : Z.take k = Z := List.take_of_length_le (by omega)
        have e2 : Z.drop k = [] := List.drop_eq_nil_of_le (by omega)
        rw [e1, e2]
        rw [List.drop_eq_getElem_cons (show k < X.length by omega)] at h
        rw [List.getElem?_eq_getElem (show k < X.length by omega)] at hu
        injection hu with hu
        rw [hu] at h
        simpa using h)
      clear hu hzl hlx hpa
      go_wp2_with fail
      go_loopw [9] (fun j wx => ∃ t : Nat, t ≤ k ∧ j = .int .i64 ((a + t : Nat) : Int) ∧ (∀ (i z : Nat), Z[i]? = some z → t ≤ i → lt u z) ∧ Stp g w (P ++ (Z.take t ++ [u] ++ Z.drop t) ++ X.drop (k + 1) ++ S) wx) (fun j _ => (intOf j).toNat)
      case atStart => exact ⟨k, by omega, by first | rfl | trivial, fun i z hz hi => by have := (List.getElem?_eq_some_iff.1 hz).1; have := HZL.out; omega, HST1.out⟩
      case round =>
        obtain ⟨t, ht, rfl, hgt, hst⟩ := hrel
        have HGT := Lib.hid hgt
        have HS2 := Lib.hid hst
        clear hgt hst
        have hdone : RowKit.Hid ((∀ (i z : Nat), Z[i]? = some z → i < t → lt z u) → (Z.take t ++ [u] ++ Z.drop t).Pairwise lt ∧ (Z.take t ++ [u] ++ Z.drop t).Perm (X.take (k + 1))) := Lib.hid (fun hlow => by
          have hzp : (Z.take t ++ Z.drop t).Pairwise lt := by rw [List.take_append_drop]; exact HPW.out
          obtain ⟨q1, q2, q3⟩ := List.pairwise_append.1 hzp
          constructor
          · rw [List.append_assoc, List.singleton_append]
            refine List.pairwise_append.2 ⟨q1, List.pairwise_cons.2 ⟨fun z hz => ?_, q2⟩, fun z hz z2 hz2 => ?_⟩
            · obtain ⟨i, hi, rfl⟩ := List.mem_iff_getElem.1 hz
              rw [List.getElem_drop]
              exact HGT.out (t + i) _ (List.getElem?_eq_getElem (by rw [List.length_drop] at hi; omega)) (by omega)
            · rcases List.mem_cons.1 hz2 with rfl | hz2
              · obtain ⟨i, hi, rfl⟩ := List.mem_iff_getElem.1 hz
                rw [List.length_take] at hi
                rw [List.getElem_take]
                exact hlow i _ (List.getElem?_eq_getElem (by omega)) (by omega)
              · exact q3 z hz z2 hz2
          · rw [List.take_succ, HU.out]
            have e1 : (Z.take t ++ [u] ++ Z.drop t).Perm ((Z.take t ++ Z.drop t) ++ [u]) := by
              rw [List.append_assoc, List.append_assoc]
              exact List.Perm.append_left _ List.perm_append_comm
            rw [List.take_append_drop] at e1
            exact e1.trans (HPM.out.append_right _))
        by_cases ht0 : t = 0
        · subst ht0
          have d2 : decide ((a : Int) < ((a + 0 : Nat) : Int)) = false := decide_eq_false (by omega)
          have HD := Lib.hid (hdone.out (fun i z _ h => by omega))
          clear hdone
          have w1 : IntKind.i64.wrap ((a : Int) + (k : Int) + 1) = (a : Int) + (k : Int) + 1 := IntWalk.i64_in _ (by omega)
          go_upto_region 4 with (fail)
          go_cut [34] (fun v wx => v = .bool false ∧ ∃ r, wx = wr.drewN r)
          case first =>
            go_quiet (fail)
            go_wp2
            go_meet
            exact ⟨by first | rfl | (simp; done), _, rfl⟩
          obtain ⟨rfl, r, rfl⟩ := hcut
          go_wp2
          go_roundw
          case rel => exact ⟨k + 1, _, by omega, by omega, by first | rfl | trivial | (congr 1; done) | (congr 1; omega), HD.out.1, HD.out.2, HS2.out.drewN r⟩
          case measure => simp [intOf]; omega
        · obtain ⟨s, rfl⟩ : ∃ s, t = s + 1 := ⟨t - 1, by omega⟩
          have hzl := HZL.out
          have hpa := HPA.out
          obtain ⟨z, hz⟩ : ∃ z, Z[s]? = some z := ⟨Z[s]'(by omega), List.getElem?_eq_getElem (by omega)⟩
          obtain ⟨hzn, hzc, hzt⟩ := HZ.out z (List.mem_of_getElem? hz)
          have e1 : P ++ (Z.take (s + 1) ++ [u] ++ Z.drop (s + 1)) ++ X.drop (k + 1) ++ S = (P ++ Z.take s) ++ z :: ([] ++ u :: (Z.drop (s + 1) ++ X.drop (k + 1) ++ S)) := by
            rw [List.take_succ, hz]
            simp
          have e2 : (P ++ Z.take s) ++ u :: ([] ++ z :: (Z.drop (s + 1) ++ X.drop (k + 1) ++ S)) = P ++ (Z.take s ++ [u] ++ Z.drop s) ++ X.drop (k + 1) ++ S := by
            rw [List.drop_eq_getElem_cons (show s < Z.length by omega)]
            have hz2 := hz
            rw [List.getElem?_eq_getElem (show s < Z.length by omega)] at hz2
            injection hz2 with hz2
            rw [hz2]
            simp
          have hst := HS2.out
          rw [e1] at hst
          have hx' : (P ++ Z.take s).length = a + s := by rw [List.length_append, List.length_take]; omega
          obtain ⟨c1, f1⟩ := hst.at (j := a + s) (o := z) (by rw [List.getElem?_append_right (by omega), hx', Nat.sub_self]; rfl)
          obtain ⟨c2, f2⟩ := hst.at (j := a + s + 1) (o := u) (by rw [List.getElem?_append_right (by omega), hx', show a + s + 1 - (a + s) = 1 by omega]; rfl)
          have lc := cell_lt c1
          have HCq : RowKit.Hid (∀ r : Nat, Calls Tryz.prog 139 #[.int .i64 (u : Int), .int .i64 (z : Int), .pointer (some ⟨bc, 0, none⟩)] (wr.drewN r) fun e W' => e = .returned (.int .i64 (cf u z)) ∧ ∃ q', W' = (wr.drewN r).drewN q') := Lib.hid (fun r => HC.out _ (hst.drewB r) u z hun hzn)
          have hS := fun (r : Nat) => Stp.swap2 (g := g) (w := w) (W := wr.drewN r) (L := P ++ Z.take s) (M := []) (R := Z.drop (s + 1) ++ X.drop (k + 1) ++ S) (u := z) (v := u) (hst.drewN r) (a + s) (a + s + 1) hx' (by simp)
          rw [e2] at hS
          have HS := Lib.hid hS
          have HZC := Lib.hid hzc
          have HZT := Lib.hid hzt
          have HZZ := Lib.hid hz
          have d2 : decide ((a : Int) < ((a + (s + 1) : Nat) : Int)) = true := decide_eq_true (by omega)
          have d3 : decide ((a : Int) < (a : Int) + ((s : Int) + 1)) = true := decide_eq_true (by omega)
          have w1 : IntKind.i64.wrap ((a : Int) + ((s : Int) + 1) - 1) = (a : Int) + (s : Int) := by rw [show (a : Int) + ((s : Int) + 1) - 1 = (a : Int) + (s : Int) by omega]; exact IntWalk.i64_in _ (by omega)
          have w2 : (a : Int) + ((s : Int) + 1) - 1 = (a : Int) + (s : Int) := by omega
          have i1 : (0 : Int) ≤ (a : Int) + (s : Int) := by omega
          have i2 : (a : Int) + (s : Int) < (n : Int) := by omega
          have i3 : (0 : Int) ≤ (a : Int) + ((s : Int) + 1) := by omega
          have i4 : (a : Int) + ((s : Int) + 1) < (n : Int) := by omega
          have t1 : ((a : Int) + (s : Int)).toNat = a + s := by omega
          have t2 : ((a : Int) + ((s : Int) + 1)).toNat = a + s + 1 := by omega
          have hne : a + s ≠ a + s + 1 := by omega
          clear hst hS e1 e2 hx' hz hzc hzt hzl hpa
          go_upto_region 4 with (fail)
          go_cut [34] (fun v wx => v = .bool (decide (cf u z < 0)) ∧ ∃ r, wx = wr.drewN r)
          case first =>
            go_quiet ((go_at_call 139; with_reducible exact Calls.quiet_of (HCq.out _)))
            go_wp2
            go_meet
            exact ⟨by first | rfl | (simp; done), _, rfl⟩
          obtain ⟨rfl, r, rfl⟩ := hcut
          obtain ⟨bv, hbv⟩ : ∃ bv, bv = decide (cf u z < 0) := ⟨_, rfl⟩
          rw [← hbv]
          cases bv
          · have hcmp : ¬ cf u z < 0 := of_decide_eq_false hbv.symm
            have HD := Lib.hid (hdone.out (fun i z' hz' hi => by
              have hzu : lt z u := HZT.out (fun h => hcmp (HZC.out.2 h))
              rcases Nat.lt_or_ge i s with hl | hl
              · obtain ⟨h1, rfl⟩ := List.getElem?_eq_some_iff.1 hz'
                obtain ⟨h2, e⟩ := List.getElem?_eq_some_iff.1 HZZ.out
                have := List.pairwise_iff_getElem.1 HPW.out i s h1 h2 hl
                rw [e] at this
                exact HTR.out _ _ _ this hzu
              · obtain rfl : i = s := by omega
                rw [HZZ.out] at hz'
                cases hz'
                exact hzu))
            clear hcmp hbv hdone
            have w3 : IntKind.i64.wrap ((a : Int) + (k : Int) + 1) = (a : Int) + (k : Int) + 1 := IntWalk.i64_in _ (by omega)
            go_wp2
            go_roundw
            case rel => exact ⟨k + 1, _, by omega, by omega, by first | rfl | trivial | (congr 1; done) | (congr 1; omega), HD.out.1, HD.out.2, HS2.out.drewN r⟩
            case measure => simp [intOf]; omega
          · have hcmp : cf u z < 0 := of_decide_eq_true hbv.symm
            have HLT := Lib.hid (HZC.out.1 hcmp)
            clear hcmp hbv hdone
            go_upto_region 6 with (fail)
            go_region
            all_goals
              go_wp2
              go_roundw
              case rel =>
                refine ⟨s, by omega, by first | rfl | trivial | (congr 1; done) | (congr 1; omega), fun i z' hz' hi => ?_, (HS.out r).drew⟩
                rcases Nat.lt_or_ge s i with hl | hl
                · exact HGT.out i z' hz' (by omega)
                · obtain rfl : i = s := by omega
                  rw [HZZ.out] at hz'
                  cases hz'
                  exact HLT.out
              case measure => simp [intOf]; omega
    · obtain rfl : k = lx := by omega
      have d1 : decide (((a + k : Nat) : Int) < (b : Int)) = false := decide_eq_false (by omega)
      have hlx := HLX.out
      have HPM2 : RowKit.Hid (Z.Perm X) := Lib.hid (by have h := HPM.out; rwa [List.take_of_length_le (by omega)] at h)
      have HS3 : RowKit.Hid (Stp g w (P ++ Z ++ S) wr) := Lib.hid (by have h := HST.out; rwa [List.drop_eq_nil_of_le (by omega), List.append_nil] at h)
      clear hlx
      go_wp2
      go_end0
      exact ⟨by first | rfl | trivial, Z, HPW.out, HPM2.out, HS3.out⟩
end Go.Proofs.YtcjpecdnenemaaaGreatDoor

namespace Go.Proofs.YtcjpecdnenemaaaGreatDoor
set_option linter.all false
open Go.RowKit Go.Shelf

theorem MIH.but {g n c bc nn N : Nat} {cf : Nat → Nat → Int} {lt : Nat → Nat → Prop} {w W : World} (h : MIH g n c bc nn N cf lt w) (hb : But g w W) : MIH g n c bc nn N cf lt W :=
  fun P X Y S a m b H h1 h2 h3 e1 e2 e3 e4 W' hW hr => h P X Y S a m b H h1 h2 h3 e1 e2 e3 e4 W' (hb.trans hW) hr
theorem CmpG.but {g bc nn : Nat} {cf : Nat → Nat → Int} {w W : World} (h : CmpG g bc nn cf w) (hb : But g w W) : CmpG g bc nn cf W := fun W' hW i j hi hj => h W' (hb.trans hW) i j hi hj
theorem pw_split {lt : Nat → Nat → Prop} {l : List Nat} {u t : Nat} (h : l.Pairwise lt) (h1 : ∀ (k x : Nat), l[k]? = some x → k < t → lt x u) (h2 : ∀ (k x : Nat), l[k]? = some x → t ≤ k → lt u x) : (l.take t ++ [u] ++ l.drop t).Pairwise lt := by
  have hp : (l.take t ++ l.drop t).Pairwise lt := by rw [List.take_append_drop]; exact h
  obtain ⟨q1, q2, q3⟩ := List.pairwise_append.1 hp
  rw [List.append_assoc, List.singleton_append]
  refine List.pairwise_append.2 ⟨q1, List.pairwise_cons.2 ⟨fun z hz => ?_, q2⟩, fun z hz z2 hz2 => ?_⟩
  · obtain ⟨i, hi, rfl⟩ := List.mem_iff_getElem.1 hz
    rw [List.getElem_drop]
    exact h2 (t + i) _ (List.getElem?_eq_getElem (by rw [List.length_drop] at hi; omega)) (by omega)
  · rcases List.mem_cons.1 hz2 with rfl | hz2
    · obtain ⟨i, hi, rfl⟩ := List.mem_iff_getElem.1 hz
      rw [List.length_take] at hi
      rw [List.getElem_take]
      exact h1 i _ (List.getElem?_eq_getElem (by omega)) (by omega)
    · exact q3 z hz z2 hz2
theorem perm_split (l : List Nat) (u t : Nat) : (l.take t ++ [u] ++ l.drop t).Perm ([u] ++ l) := by
  have e1 : (l.take t ++ [u] ++ l.drop t).Perm ([u] ++ l.take t ++ l.drop t) := List.Perm.append_right _ List.perm_append_comm
  rw [List.append_assoc [u], List.take_append_drop] at e1
  exact e1
/-- **merges are right** -/
theorem symMerge_any (g n c bc nn : Nat) (cf : Nat → Nat → Int) (lt : Nat → Nat → Prop) (tr : ∀ x y z, lt x y → lt y z → lt x z) (hnc : n ≤ c) (hc : c ≤ 1000) (w : World) (hC : CmpG g bc nn cf w) : ∀ N, MIH g n c bc nn N cf lt w
  | 0 => fun P X Y S a m b H h1 => by omega
  | N + 1 => fun P X Y S a m b H h1 h2 h3 e1 e2 e3 e4 W hW hr => by
    have ih := symMerge_any g n c bc nn cf lt tr hnc hc w hC N
    by_cases hlt : X.length + Y.length < N
    · exact ih P X Y S a m b H hlt h2 h3 e1 e2 e3 e4 W hW hr
    have hN : X.length + Y.length = N := by omega
    have hCW := hC.but hW
    by_cases hx1 : X.length = 1
    · obtain ⟨x, rfl⟩ : ∃ x, X = [x] := List.length_eq_one_iff.1 hx1
      refine (merge_left g n c bc nn cf lt P Y S x a m b e1 (by simpa using e2) e3 e4 h3 hnc hc (H.bx x (by simp)) H.bw (fun y hy => H.cfh x (by simp) y hy) (fun i j y z hy hz hij hl => ?_) W hCW hr).mono ?_
      · rcases Nat.lt_or_ge i j with h | h
        · exact tr _ _ _ (pw_at H.sy hy hz h) hl
        · obtain rfl : i = j := by omega
          rw [hy] at hz; cases hz; exact hl
      · rintro e w' ⟨rfl, t, ht, k1, k2, hst⟩
        refine ⟨rfl, Y.take t ++ [x] ++ Y.drop t, ?_, perm_split Y x t, by simpa using hst⟩
        exact pw_split H.sy k1 (fun k y hy hk => H.tot x (by simp) y (List.mem_of_getElem? hy) (k2 k y hy hk))
    by_cases hy1 : Y.length = 1
    · obtain ⟨y, rfl⟩ : ∃ y, Y = [y] := List.length_eq_one_iff.1 hy1
      refine (merge_right g n c bc nn cf lt P X S y a m b e1 e2 (by simpa using e3) e4 (by omega) hnc hc (H.bw y (by simp)) H.bx (fun x hx => H.cfh x hx y (by simp)) (fun i j u v hu hv hij hl => ?_) W hCW hr).mono ?_
      · rcases Nat.lt_or_ge i j with h | h
        · exact tr _ _ _ hl (pw_at H.sx hu hv h)
        · obtain rfl : i = j := by omega
          rw [hu] at hv; cases hv; exact hl
      · rintro e w' ⟨rfl, t, ht, k1, k2, hst⟩
        refine ⟨rfl, X.take t ++ [y] ++ X.drop t, ?_, (perm_split X y t).trans List.perm_append_comm, by simpa using hst⟩
        exact pw_split H.sx (fun k x hx hk => H.tot x (List.mem_of_getElem? hx) y (by simp) (k1 k x hx hk)) k2
    have ih2 : MIH g n c bc nn (X.length + Y.length) cf lt W := by rw [hN]; exact ih.but hW
    by_cases hmm : (X.length + Y.length) / 2 < X.length
    · exact merge_big g n c bc nn cf lt tr P X Y S a m b _ _ _ rfl rfl rfl e1 e2 e3 e4 (by omega) (by omega) hmm hnc hc H W hCW ih2 hr
    · exact merge_small g n c bc nn cf lt tr P X Y S a m b _ _ _ rfl rfl rfl e1 e2 e3 e4 (by omega) (by omega) hmm hnc hc H W hCW ih2 hr
end Go.Proofs.YtcjpecdnenemaaaGreatDoor

namespace Go.Proofs.YtcjpecdnenemaaaGreatDoor
set_option linter.all false
open Go.RowKit Go.Shelf

set_option maxRecDepth 100000 in
theorem insertion_none (g n c bc a : Nat) (ha : a ≤ 1000) (w : World) : Calls Tryz.prog 200 #[.slice (some ⟨g, 0, none⟩) n c, .int .i64 (a : Int), .int .i64 (a : Int), (.func (.func 139) #[] #[.pointer (some ⟨bc, 0, none⟩)])] w fun e w' => e = .returned (.tuple #[]) ∧ w' = w := by
  have d1 : decide ((a : Int) + 1 < (a : Int)) = false := decide_eq_false (by omega)
  go_enter Tryz.func200, Tryz.ntmps200
  go_wp2_with fail
  refine wp_loop_rounds 1 ?_
  rw [rounds_succ]
  go_wp2
  go_end0
  exact ⟨rfl, rfl⟩
/-- what is asked of a list that is to be sorted -/
def OH (nn : Nat) (cf : Nat → Nat → Int) (lt : Nat → Nat → Prop) (X : List Nat) : Prop := (∀ x ∈ X, x < nn) ∧ (∀ (i j u v : Nat), X[i]? = some v → X[j]? = some u → i < j → ((cf u v < 0 ↔ lt u v) ∧ (¬ lt u v → lt v u)))
theorem OH.take {nn : Nat} {cf : Nat → Nat → Int} {lt : Nat → Nat → Prop} {X : List Nat} (h : OH nn cf lt X) (k : Nat) : OH nn cf lt (X.take k) :=
  ⟨fun x hx => h.1 x (List.mem_of_mem_take hx), fun i j u v hi hj hij => h.2 i j u v (by rw [List.getElem?_take] at hi; split at hi; exact hi; cases hi) (by rw [List.getElem?_take] at hj; split at hj; exact hj; cases hj) hij⟩
theorem OH.drop {nn : Nat} {cf : Nat → Nat → Int} {lt : Nat → Nat → Prop} {X : List Nat} (h : OH nn cf lt X) (k : Nat) : OH nn cf lt (X.drop k) :=
  ⟨fun x hx => h.1 x (List.mem_of_mem_drop hx), fun i j u v hi hj hij => h.2 (k + i) (k + j) u v (by rw [List.getElem?_drop] at hi; exact hi) (by rw [List.getElem?_drop] at hj; exact hj) (by omega)⟩
theorem OH.mh {nn : Nat} {cf : Nat → Nat → Int} {lt : Nat → Nat → Prop} {X Z1 Z2 : List Nat} (h : OH nn cf lt X) (k : Nat) (p1 : Z1.Pairwise lt) (q1 : Z1.Perm (X.take k)) (p2 : Z2.Pairwise lt) (q2 : Z2.Perm (X.drop k)) : MH nn cf lt Z1 Z2 := by
  have key : ∀ x ∈ Z1, ∀ y ∈ Z2, (cf y x < 0 ↔ lt y x) ∧ (¬ lt y x → lt x y) := fun x hx y hy => by
    obtain ⟨i, hi, rfl⟩ := List.mem_iff_getElem.1 (q1.mem_iff.1 hx)
    obtain ⟨j, hj, rfl⟩ := List.mem_iff_getElem.1 (q2.mem_iff.1 hy)
    rw [List.length_take] at hi
    rw [List.length_drop] at hj
    rw [List.getElem_take, List.getElem_drop]
    exact h.2 i (k + j) _ _ (List.getElem?_eq_getElem _) (List.getElem?_eq_getElem _) (by omega)
  exact ⟨p1, p2, fun x hx => h.1 x (List.mem_of_mem_take (q1.mem_iff.1 hx)), fun y hy => h.1 y (List.mem_of_mem_drop (q2.mem_iff.1 hy)), fun x hx y hy => (key x hx y hy).1, fun x hx y hy => (key x hx y hy).2⟩
set_option maxRecDepth 100000 in
set_option maxHeartbeats 6400000 in
theorem stable_mid (g n c bc nn : Nat) (cf : Nat → Nat → Int) (lt : Nat → Nat → Prop) (tr : ∀ x y z, lt x y → lt y z → lt x z) (X : List Nat) (hX : X.length = n) (h1 : 20 < n) (h2 : n < 40) (hnc : n ≤ c) (hc : c ≤ 1000) (H : OH nn cf lt X)
    (w : World) (hC : CmpG g bc nn cf w) (hr : RowC w g (natV X)) :
    Calls Tryz.prog 174 #[.slice (some ⟨g, 0, none⟩) n c, .int .i64 (n : Int), (.func (.func 139) #[] #[.pointer (some ⟨bc, 0, none⟩)])] w fun e w' => e = .returned (.tuple #[]) ∧ ∃ Z, Z.Pairwise lt ∧ Z.Perm X ∧ Stp g w Z w' := by
  have HR := Lib.hid hr
  have HC := Lib.hid hC
  have HH := Lib.hid H
  have HXL := Lib.hid hX
  clear hr hC H hX
  have d1 : ¬ ((40 : Int) ≤ (n : Int)) := by omega
  have d2 : (20 : Int) ≤ (n : Int) := by omega
  have d3 : (20 : Int) < (n : Int) := by omega
  have d4 : ¬ ((40 : Int) < (n : Int)) := by omega
  have I1 : RowKit.Hid (Calls Tryz.prog 200 #[.slice (some ⟨g, 0, none⟩) n c, .int .i64 0, .int .i64 20, (.func (.func 139) #[] #[.pointer (some ⟨bc, 0, none⟩)])] w fun e w' => e = .returned (.tuple #[]) ∧ ∃ Z, Z.Pairwise lt ∧ Z.Perm (X.take 20) ∧ Stp g w (Z ++ X.drop 20) w') := Lib.hid (by
    have hxl := HXL.out
    have h := insertion_any g n c bc nn cf lt tr [] (X.take 20) (X.drop 20) 0 20 rfl (by simp; omega) (by simp; omega) (by simp; omega) hnc hc (HH.out.take 20).1 (HH.out.take 20).2 w HC.out (by have h := HR.out; simpa using h)
    simpa using h)
  go_enter Tryz.func174, Tryz.ntmps174
  go_wp2_with fail
  refine wp_loop_rounds 2 ?_
  rw [rounds_succ]
  go_wp2_with fail
  with_reducible refine I1.out.mono ?_
  rintro e w1 ⟨rfl, Z1, hp1, hq1, hs1⟩
  have HP1 := Lib.hid hp1
  have HQ1 := Lib.hid hq1
  have HS1 := Lib.hid hs1
  clear hp1 hq1 hs1
  have I2 : RowKit.Hid (Calls Tryz.prog 200 #[.slice (some ⟨g, 0, none⟩) n c, .int .i64 20, .int .i64 (n : Int), (.func (.func 139) #[] #[.pointer (some ⟨bc, 0, none⟩)])] w1 fun e w' => e = .returned (.tuple #[]) ∧ ∃ Z, Z.Pairwise lt ∧ Z.Perm (X.drop 20) ∧ Stp g w1 (Z1 ++ Z) w') := Lib.hid (by
    have hxl := HXL.out
    have hl := HQ1.out.length_eq
    have h := insertion_any g n c bc nn cf lt tr Z1 (X.drop 20) [] 20 n (by rw [hl]; simp; omega) (by simp; omega) (by simp) (by simp; omega) hnc hc (HH.out.drop 20).1 (HH.out.drop 20).2 w1 (HC.out.but HS1.out.1) (by have h := HS1.out.2; simpa using h)
    simpa using h)
  go_wp2_with fail
  rw [rounds_succ]
  go_wp2_with fail
  with_reducible refine I2.out.mono ?_
  rintro e w2 ⟨rfl, Z2, hp2, hq2, hs2⟩
  have HP2 := Lib.hid hp2
  have HQ2 := Lib.hid hq2
  have HS2 := Lib.hid (HS1.out.trans hs2)
  clear hp2 hq2 hs2
  have CM : RowKit.Hid (Calls Tryz.prog 201 #[.slice (some ⟨g, 0, none⟩) n c, .int .i64 0, .int .i64 20, .int .i64 (n : Int), (.func (.func 139) #[] #[.pointer (some ⟨bc, 0, none⟩)])] w2 (MRes g lt [] Z1 Z2 [] w2)) := Lib.hid (by
    have hxl := HXL.out
    have l1 := HQ1.out.length_eq
    have l2 := HQ2.out.length_eq
    rw [List.length_take] at l1
    rw [List.length_drop] at l2
    have h := symMerge_any g n c bc nn cf lt tr hnc hc w HC.out (Z1.length + Z2.length + 1) [] Z1 Z2 [] 0 20 n (HH.out.mh 20 HP1.out HQ1.out HP2.out HQ2.out) (by omega) (by omega) (by omega) rfl (by omega) (by omega) (by simp) w2 HS2.out.1 (by have h := HS2.out.2; simpa using h)
    exact h)
  go_wp2_with fail
  refine wp_loop_rounds 2 ?_
  rw [rounds_succ]
  go_wp2_with fail
  refine wp_loop_rounds 1 ?_
  rw [rounds_succ]
  go_wp2_with fail
  with_reducible refine CM.out.mono ?_
  rintro e w3 ⟨rfl, Z, hp3, hq3, hs3⟩
  have HP3 := Lib.hid hp3
  have HQ3 := Lib.hid hq3
  have HS3 := Lib.hid (HS2.out.trans hs3)
  clear hp3 hq3 hs3
  go_wp2_with fail
  rw [rounds_succ]
  go_wp2
  go_end0
  refine ⟨by first | rfl | trivial, Z, HP3.out, ?_, by have h := HS3.out; simpa using h⟩
  have h := HQ3.out.trans (HQ1.out.append HQ2.out)
  rwa [List.take_append_drop] at h
set_option maxRecDepth 100000 in
set_option maxHeartbeats 6400000 in
theorem stable_few2 (g n c bc nn : Nat) (cf : Nat → Nat → Int) (lt : Nat → Nat → Prop) (tr : ∀ x y z, lt x y → lt y z → lt x z) (X : List Nat) (hX : X.length = n) (h1 : 0 < n) (h2 : n < 20) (hnc : n ≤ c) (hc : c ≤ 1000) (H : OH nn cf lt X)
    (w : World) (hC : CmpG g bc nn cf w) (hr : RowC w g (natV X)) :
    Calls Tryz.prog 174 #[.slice (some ⟨g, 0, none⟩) n c, .int .i64 (n : Int), (.func (.func 139) #[] #[.pointer (some ⟨bc, 0, none⟩)])] w fun e w' => e = .returned (.tuple #[]) ∧ ∃ Z, Z.Pairwise lt ∧ Z.Perm X ∧ Stp g w Z w' := by
  have HR := Lib.hid hr
  have HC := Lib.hid hC
  have HH := Lib.hid H
  have HXL := Lib.hid hX
  clear hr hC H hX
  have d2 : ¬ ((20 : Int) ≤ (n : Int)) := by omega
  have d3 : ¬ ((20 : Int) < (n : Int)) := by omega
  have I1 : RowKit.Hid (Calls Tryz.prog 200 #[.slice (some ⟨g, 0, none⟩) n c, .int .i64 0, .int .i64 (n : Int), (.func (.func 139) #[] #[.pointer (some ⟨bc, 0, none⟩)])] w fun e w' => e = .returned (.tuple #[]) ∧ ∃ Z, Z.Pairwise lt ∧ Z.Perm X ∧ Stp g w Z w') := Lib.hid (by
    have hxl := HXL.out
    have h := insertion_any g n c bc nn cf lt tr [] X [] 0 n rfl (by omega) (by simp) (by omega) hnc hc HH.out.1 HH.out.2 w HC.out (by have h := HR.out; simpa using h)
    simpa using h)
  go_enter Tryz.func174, Tryz.ntmps174
  go_wp2_with fail
  refine wp_loop_rounds 1 ?_
  rw [rounds_succ]
  go_wp2_with fail
  with_reducible refine I1.out.mono ?_
  rintro e w1 ⟨rfl, Z, hp1, hq1, hs1⟩
  have HS1 := Lib.hid hs1
  clear hs1
  go_wp2_with fail
  refine wp_loop_rounds 1 ?_
  rw [rounds_succ]
  go_wp2
  go_end0
  exact ⟨by first | rfl | trivial, Z, hp1, hq1, HS1.out⟩
set_option maxRecDepth 100000 in
set_option maxHeartbeats 6400000 in
theorem stable_20 (g n c bc nn : Nat) (cf : Nat → Nat → Int) (lt : Nat → Nat → Prop) (tr : ∀ x y z, lt x y → lt y z → lt x z) (X : List Nat) (hX : X.length = n) (h1 : n = 20) (hnc : n ≤ c) (hc : c ≤ 1000) (H : OH nn cf lt X)
    (w : World) (hC : CmpG g bc nn cf w) (hr : RowC w g (natV X)) :
    Calls Tryz.prog 174 #[.slice (some ⟨g, 0, none⟩) n c, .int .i64 (n : Int), (.func (.func 139) #[] #[.pointer (some ⟨bc, 0, none⟩)])] w fun e w' => e = .returned (.tuple #[]) ∧ ∃ Z, Z.Pairwise lt ∧ Z.Perm X ∧ Stp g w Z w' := by
  have HR := Lib.hid hr
  have HC := Lib.hid hC
  have HH := Lib.hid H
  have HXL := Lib.hid hX
  clear hr hC H hX
  subst h1
  have hX20 : X.take 20 = X := List.take_of_length_le (by have := HXL.out; omega)
  have hD20 : X.drop 20 = [] := List.drop_eq_nil_of_le (by have := HXL.out; omega)
  have HX20 := Lib.hid hX20
  have HD20 := Lib.hid hD20
  clear hX20 hD20
  have I1 : RowKit.Hid (Calls Tryz.prog 200 #[.slice (some ⟨g, 0, none⟩) 20 c, .int .i64 0, .int .i64 20, (.func (.func 139) #[] #[.pointer (some ⟨bc, 0, none⟩)])] w fun e w' => e = .returned (.tuple #[]) ∧ ∃ Z, Z.Pairwise lt ∧ Z.Perm (X.take 20) ∧ Stp g w (Z ++ X.drop 20) w') := Lib.hid (by
    have hxl := HXL.out
    have h := insertion_any g 20 c bc nn cf lt tr [] (X.take 20) (X.drop 20) 0 20 rfl (by simp; omega) (by simp; omega) (by simp; omega) hnc hc (HH.out.take 20).1 (HH.out.take 20).2 w HC.out (by have h := HR.out; simpa using h)
    simpa using h)
  go_enter Tryz.func174, Tryz.ntmps174
  go_wp2_with fail
  refine wp_loop_rounds 2 ?_
  rw [rounds_succ]
  go_wp2_with fail
  with_reducible refine I1.out.mono ?_
  rintro e w1 ⟨rfl, Z1, hp1, hq1, hs1⟩
  have HP1 := Lib.hid hp1
  have HQ1 := Lib.hid hq1
  have HS1 := Lib.hid hs1
  clear hp1 hq1 hs1
  go_wp2_with fail
  rw [rounds_succ]
  go_wp2_with fail
  refine (insertion_none g 20 c bc 20 (by omega) w1).mono ?_
  rintro e w2 ⟨rfl, rfl⟩
  go_wp2_with fail
  refine wp_loop_rounds 1 ?_
  rw [rounds_succ]
  go_wp2
  go_end0
  refine ⟨by first | rfl | trivial, Z1, HP1.out, by have h := HQ1.out; rwa [HX20.out] at h, by have h := HS1.out; rw [HD20.out] at h; simpa using h⟩
set_option maxRecDepth 100000 in
set_option maxHeartbeats 6400000 in
theorem stable_40 (g n c bc nn : Nat) (cf : Nat → Nat → Int) (lt : Nat → Nat → Prop) (tr : ∀ x y z, lt x y → lt y z → lt x z) (X : List Nat) (hX : X.length = n) (h1 : n = 40) (hnc : n ≤ c) (hc : c ≤ 1000) (H : OH nn cf lt X)
    (w : World) (hC : CmpG g bc nn cf w) (hr : RowC w g (natV X)) :
    Calls Tryz.prog 174 #[.slice (some ⟨g, 0, none⟩) n c, .int .i64 (n : Int), (.func (.func 139) #[] #[.pointer (some ⟨bc, 0, none⟩)])] w fun e w' => e = .returned (.tuple #[]) ∧ ∃ Z, Z.Pairwise lt ∧ Z.Perm X ∧ Stp g w Z w' := by
  have HR := Lib.hid hr
  have HC := Lib.hid hC
  have HH := Lib.hid H
  have HXL := Lib.hid hX
  clear hr hC H hX
  subst h1
  have I1 : RowKit.Hid (Calls Tryz.prog 200 #[.slice (some ⟨g, 0, none⟩) 40 c, .int .i64 0, .int .i64 20, (.func (.func 139) #[] #[.pointer (some ⟨bc, 0, none⟩)])] w fun e w' => e = .returned (.tuple #[]) ∧ ∃ Z, Z.Pairwise lt ∧ Z.Perm (X.take 20) ∧ Stp g w (Z ++ X.drop 20) w') := Lib.hid (by
    have hxl := HXL.out
    have h := insertion_any g 40 c bc nn cf lt tr [] (X.take 20) (X.drop 20) 0 20 rfl (by simp; omega) (by simp; omega) (by simp; omega) hnc hc (HH.out.take 20).1 (HH.out.take 20).2 w HC.out (by have h := HR.out; simpa using h)
    simpa using h)
  go_enter Tryz.func174, Tryz.ntmps174
  go_wp2_with fail
  refine wp_loop_rounds 3 ?_
  rw [rounds_succ]
  go_wp2_with fail
  with_reducible refine I1.out.mono ?_
  rintro e w1 ⟨rfl, Z1, hp1, hq1, hs1⟩
  have HP1 := Lib.hid hp1
  have HQ1 := Lib.hid hq1
  have HS1 := Lib.hid hs1
  clear hp1 hq1 hs1
  have I2 : RowKit.Hid (Calls Tryz.prog 200 #[.slice (some ⟨g, 0, none⟩) 40 c, .int .i64 20, .int .i64 40, (.func (.func 139) #[] #[.pointer (some ⟨bc, 0, none⟩)])] w1 fun e w' => e = .returned (.tuple #[]) ∧ ∃ Z, Z.Pairwise lt ∧ Z.Perm (X.drop 20) ∧ Stp g w1 (Z1 ++ Z) w') := Lib.hid (by
    have hxl := HXL.out
    have hl := HQ1.out.length_eq
    have h := insertion_any g 40 c bc nn cf lt tr Z1 (X.drop 20) [] 20 40 (by rw [hl]; simp; omega) (by simp; omega) (by simp) (by simp; omega) hnc hc (HH.out.drop 20).1 (HH.out.drop 20).2 w1 (HC.out.but HS1.out.1) (by have h := HS1.out.2; simpa using h)
    simpa using h)
  go_wp2_with fail
  rw [rounds_succ]
  go_wp2_with fail
  with_reducible refine I2.out.mono ?_
  rintro e w2 ⟨rfl, Z2, hp2, hq2, hs2⟩
  have HP2 := Lib.hid hp2
  have HQ2 := Lib.hid hq2
  have HS2 := Lib.hid (HS1.out.trans hs2)
  clear hp2 hq2 hs2
  have CM : RowKit.Hid (Calls Tryz.prog 201 #[.slice (some ⟨g, 0, none⟩) 40 c, .int .i64 0, .int .i64 20, .int .i64 40, (.func (.func 139) #[] #[.pointer (some ⟨bc, 0, none⟩)])] w2 (MRes g lt [] Z1 Z2 [] w2)) := Lib.hid (by
    have hxl := HXL.out
    have l1 := HQ1.out.length_eq
    have l2 := HQ2.out.length_eq
    rw [List.length_take] at l1
    rw [List.length_drop] at l2
    have h := symMerge_any g 40 c bc nn cf lt tr hnc hc w HC.out (Z1.length + Z2.length + 1) [] Z1 Z2 [] 0 20 40 (HH.out.mh 20 HP1.out HQ1.out HP2.out HQ2.out) (by omega) (by omega) (by omega) rfl (by omega) (by omega) (by simp) w2 HS2.out.1 (by have h := HS2.out.2; simpa using h)
    exact h)
  go_wp2_with fail
  rw [rounds_succ]
  go_wp2_with fail
  refine (insertion_none g 40 c bc 40 (by omega) w2).mono ?_
  rintro e w2' ⟨rfl, rfl⟩
  go_wp2_with fail
  refine wp_loop_rounds 2 ?_
  rw [rounds_succ]
  go_wp2_with fail
  refine wp_loop_rounds 2 ?_
  rw [rounds_succ]
  go_wp2_with fail
  with_reducible refine CM.out.mono ?_
  rintro e w3 ⟨rfl, Z, hp3, hq3, hs3⟩
  have HP3 := Lib.hid hp3
  have HQ3 := Lib.hid hq3
  have HS3 := Lib.hid (HS2.out.trans hs3)
  clear hp3 hq3 hs3
  go_wp2_with fail
  rw [rounds_succ]
  go_wp2_with fail
  rw [rounds_succ]
  go_wp2
  go_end0
  refine ⟨by first | rfl | trivial, Z, HP3.out, ?_, by have h := HS3.out; simpa using h⟩
  have h := HQ3.out.trans (HQ1.out.append HQ2.out)
  rwa [List.take_append_drop] at h
end Go.Proofs.YtcjpecdnenemaaaGreatDoor

namespace Go.Proofs.YtcjpecdnenemaaaGreatDoor
set_option linter.all false
open Go.RowKit Go.Shelf Go.Sort
attribute [local go_sem] run_store_func

set_option maxRecDepth 100000 in
theorem sortStable_any (g n c bc nn : Nat) (cf : Nat → Nat → Int) (lt : Nat → Nat → Prop) (tr : ∀ x y z, lt x y → lt y z → lt x z) (X : List Nat) (hX : X.length = n) (h0 : 0 < n) (h40 : n ≤ 40) (hnc : n ≤ c) (hc : c ≤ 1000) (H : OH nn cf lt X)
    (w : World) (hC : CmpG g bc nn cf w) (hr : RowC w g (natV X)) :
    Calls Tryz.prog 138 #[.slice (some ⟨g, 0, none⟩) n c, (.func (.func 139) #[] #[.pointer (some ⟨bc, 0, none⟩)])] w fun e w' => e = .returned (.tuple #[]) ∧ ∃ Z, Z.Pairwise lt ∧ Z.Perm X ∧ Stp g w Z w' := by
  have HI : RowKit.Hid (Calls Tryz.prog 174 #[.slice (some ⟨g, 0, none⟩) n c, .int .i64 (n : Int), (.func (.func 139) #[] #[.pointer (some ⟨bc, 0, none⟩)])] w fun e w' => e = .returned (.tuple #[]) ∧ ∃ Z, Z.Pairwise lt ∧ Z.Perm X ∧ Stp g w Z w') := Lib.hid (by
    by_cases q1 : n < 20
    · exact stable_few2 g n c bc nn cf lt tr X hX h0 q1 hnc hc H w hC hr
    by_cases q2 : n = 20
    · exact stable_20 g n c bc nn cf lt tr X hX q2 hnc hc H w hC hr
    by_cases q3 : n = 40
    · exact stable_40 g n c bc nn cf lt tr X hX q3 hnc hc H w hC hr
    exact stable_mid g n c bc nn cf lt tr X hX (by omega) (by omega) hnc hc H w hC hr)
  clear hX H hC hr
  go_enter Tryz.func138, Tryz.ntmps138
  go_wp2_with fail
  refine HI.out.mono ?_
  rintro e w1 ⟨rfl, Z, h1, h2, h3⟩
  have HS := Lib.hid h3
  clear h3
  go_wp2
  go_end0
  exact ⟨rfl, Z, h1, h2, HS.out⟩
/-- what is cut off of an heir's part -/
def cutN (total s : Int) (zs : List Int) (i : Nat) : Int := cutZ total s (zs.getD i 0)
/-- who comes first when what is left over is given -/
def ltC (total s : Int) (zs : List Int) (i j : Nat) : Prop := cutN total s zs j < cutN total s zs i ∨ (cutN total s zs i = cutN total s zs j ∧ i < j)
theorem ltC_tr (total s : Int) (zs : List Int) : ∀ x y z, ltC total s zs x y → ltC total s zs y z → ltC total s zs x z := by
  intro x y z h1 h2
  unfold ltC at *
  omega
def cfC (total s : Int) (zs : List Int) (i j : Nat) : Int := cmpZ (cutN total s zs j) (cutN total s zs i)
theorem cfC_neg (total s : Int) (zs : List Int) (i j : Nat) : cfC total s zs i j < 0 ↔ cutN total s zs j < cutN total s zs i := by
  unfold cfC cmpZ
  split
  · rename_i h; simp [h]
  · split
    · rename_i h1 h2; simp; omega
    · rename_i h1 h2; simp; omega
theorem range_OH (total s : Int) (zs : List Int) (n : Nat) : OH n (cfC total s zs) (ltC total s zs) (List.range n) := by
  refine ⟨fun x hx => List.mem_range.1 hx, fun i j u v hi hj hij => ?_⟩
  obtain ⟨h1, e1⟩ := List.getElem?_eq_some_iff.1 hi
  obtain ⟨h2, e2⟩ := List.getElem?_eq_some_iff.1 hj
  rw [List.getElem_range] at e1 e2
  subst e1; subst e2
  rw [cfC_neg]
  unfold ltC
  constructor
  · constructor
    · exact .inl
    · rintro (h | h)
      · exact h
      · omega
  · intro h
    omega
theorem cmpG_of (bc bt bp bs b off n c g : Nat) (total s : Int) (zs : List Int) (w : World) (hc : w.cell? ⟨bc, 0, none⟩ = some (.func (.func 137) #[] #[.pointer (some ⟨bt, 0, none⟩), .pointer (some ⟨bp, 0, none⟩), .pointer (some ⟨bs, 0, none⟩)])) (ht : w.cell? ⟨bt, 0, none⟩ = some (.int .i64 total)) (hp : w.cell? ⟨bp, 0, none⟩ = some (.slice (some ⟨b, off, none⟩) n c)) (hs : w.cell? ⟨bs, 0, none⟩ = some (.int .i64 s))
    (hz : ∀ j z, zs[j]? = some z → w.cell? ⟨b, off + j, none⟩ = some (.int .i64 z)) (hlen : zs.length = n) (hpart : partsB zs = true) (h0 : 0 ≤ total) (h1 : total ≤ 1000000000) (s0 : 0 < s) (s1 : s ≤ 40000)
    (n1 : bc ≠ g) (n2 : bt ≠ g) (n3 : bp ≠ g) (n4 : bs ≠ g) (n5 : b ≠ g) : CmpG g bc n (cfC total s zs) w := by
  intro W hW i j hi hj
  have gx : zs[i]? = some (zs.getD i 0) := by rw [List.getD_eq_getElem?_getD, List.getElem?_eq_getElem (by omega)]; rfl
  have gy : zs[j]? = some (zs.getD j 0) := by rw [List.getD_eq_getElem?_getD, List.getElem?_eq_getElem (by omega)]; rfl
  have px := getD_part hpart i
  have py := getD_part hpart j
  exact cmp139 bc bt bp bs b off n c i j total s _ _ _ (hW.cell hc n1) (hW.cell ht n2) (hW.cell hp n3) (hW.cell hs n4) (hW.cell (hz _ _ gx) n5) (hW.cell (hz _ _ gy) n5) hi hj h0 h1 px.1 px.2 py.1 py.2 s0 s1
/-- what Whole returns -/
def WholeAll (w : World) (total : Int) (zs : List Int) (e : Ending) (w' : World) : Prop :=
  (((sumOfS zs (inB total 0 1000000000)).2 ≠ 0 ∧ e = .returned (.tuple #[.slice none 0 0, .int .i64 (sumOfS zs (inB total 0 1000000000)).2])) ∨
   ((sumOfS zs (inB total 0 1000000000)).2 = 0 ∧ ∃ (g : Nat) (Z : List Nat), e = .returned (.tuple #[.slice (some ⟨g, 0, none⟩) zs.length zs.length, .int .i64 0]) ∧ w.heap.size ≤ g ∧ Z.Pairwise (ltC total zs.sum zs) ∧ Z.Perm (List.range zs.length) ∧ RowC w' g (intsV (bump (flS total zs.sum zs) (Z.take (total - (flS total zs.sum zs).sum).toNat))))) ∧ Kept w w'
set_option maxRecDepth 100000 in
set_option maxHeartbeats 3200000 in
theorem whole_all (A : Option Addr) (n c : Nat) (zs : List Int) (total : Int) (w : World) (h : IntsA w A n c zs) :
    Calls Tryz.prog 72 #[.int .i64 total, .slice A n c] w (WholeAll w total zs) := by
  have H := Lib.hid h
  clear h
  obtain ⟨r, hr⟩ : ∃ r, sumOfS zs (inB total 0 1000000000) = r := ⟨_, rfl⟩
  have HR := Lib.hid hr
  clear hr
  obtain ⟨W2, hW2⟩ : ∃ W2 : World, W2 = (w.alloc (.cells #[.int .i64 total] 3)).alloc (.cells #[.slice A n c] 55) := ⟨_, rfl⟩
  have K2 : Kept w W2 := by rw [hW2]; exact ((Kept.refl w).alloc _).alloc _
  have b1 : W2.cell? ⟨w.heap.size, 0, none⟩ = some (.int .i64 total) := by rw [hW2]; exact ((RowC.new w [.int .i64 total] 3).kept ((Kept.refl _).alloc _) 0 _ rfl).1
  have b2 : W2.cell? ⟨w.heap.size + 1, 0, none⟩ = some (.slice A n c) := by
    have := RowC.new (w.alloc (.cells #[.int .i64 total] 3)) [.slice A n c] 55
    rw [World.size_alloc] at this
    rw [hW2]; exact (this 0 _ rfl).1
  have HW2 := Lib.hid hW2
  have B1 := Lib.hid b1
  have B2 := Lib.hid b2
  have Z2 : W2.heap.size = w.heap.size + 1 + 1 := by rw [hW2]; simp
  have HZ2 := Lib.hid Z2
  clear hW2 b1 b2 Z2
  have HT : RowKit.Hid (∀ W : World, Kept w W → Calls Tryz.prog 134 #[.slice A n c, .bool (inB total 0 1000000000)] W fun e w' => e = .returned (i2V r) ∧ Kept W w') := Lib.hid (fun W hW => by
    have := sumOf_any A n c zs (inB total 0 1000000000) W (H.out.kept hW)
    rw [HR.out] at this
    exact this)
  have hmf : ∀ (fn : Fn) (first cap : Array Value) (w : World), (Instr.makeFunc fn first cap).run Tryz.prog w = .ok (.func fn first cap) w := fun _ _ _ _ => rfl
  go_enter Tryz.func72, Tryz.ntmps72
  go_upto_region 1 with (fail)
  rw [← HW2.out]
  go_cut [6, 7] (fun p e wx => ∃ b6, p = .pointer (some ⟨b6, 0, none⟩) ∧ e = .int .i64 r.2 ∧ w.heap.size + 1 < b6 ∧ RowC wx b6 [.int .i64 r.1] ∧ Kept W2 wx)
  case first =>
    go_region_held3 (fun w' => w'.cell? ⟨w.heap.size, 0, none⟩ = some (.int .i64 total) ∧ w'.cell? ⟨w.heap.size + 1, 0, none⟩ = some (.slice A n c) ∧ Kept W2 w')
      (first
        | exact S3_of B1.out B2.out ((Kept.refl _).drew)
        | exact S3_of B1.out B2.out (((Kept.refl _).drew).alloc _)
        | exact S3_of B1.out B2.out (((Kept.refl _).drew).trans hkk)
        | exact S3_of B1.out B2.out ((((Kept.refl _).drew).alloc _).trans hkk)
        | exact S3_of B1.out B2.out ((((Kept.refl _).drew).trans hkk).alloc _)
        | exact S3_of B1.out B2.out (((((Kept.refl _).drew).alloc _).trans hkk).setCell (Nat.le_refl _) _)
        | exact S3_of B1.out B2.out (((((Kept.refl _).drew).trans hkk).alloc _).setCell (by have := hkk.size; simp at this ⊢; omega) _)
        | fail)
      (first
        | (go_at_call 82; refine (within_any _ _ _ _).mono ?_; rintro e w' ⟨rfl, rfl⟩)
        | (go_at_call 134; refine (HT.out _ (by first | exact K2.drew | exact K2.drew.alloc _)).mono ?_; rintro e w1 ⟨rfl, hkk⟩; obtain ⟨hcc, hff, hzz⟩ := hkk.facts; unfold i2V)
        | fail)
    all_goals go_wp2
    all_goals go_meet
    all_goals
      have hzW := HZ2.out
      first
        | exact ⟨w1.heap.size, rfl, rfl, by have := hkk.size; simp at this; omega, RowC.new w1 [.int .i64 r.1] 3, (((Kept.refl W2).drew).trans hkk).alloc _⟩
        | exact ⟨W2.heap.size, rfl, rfl, by omega, ((RowC.new W2 [.int .i64 0] 3).drew.kept hkk).put (j := 0) (by simp) (.int .i64 r.1), ((((Kept.refl W2).alloc _).drew).trans hkk).setCell (Nat.le_refl _) _⟩
  case rest =>
    obtain ⟨b6, rfl, rfl, hb6, R6, K6⟩ := hcut
    have hkw := K2.trans K6
    have c1 := (K6.cells _ _ (cell_lt B1.out)).trans B1.out
    have c2 := (K6.cells _ _ (cell_lt B2.out)).trans B2.out
    have H6 := Lib.hid R6
    clear R6
    by_cases he : r.2 = 0
    · have he' : (r.2 != 0) = false := by simp [he]
      have HE := Lib.hid he
      clear he
      obtain ⟨htot, hpart, h40, hs1, hpos, hsb⟩ := sumOf_ok (zs := zs) (d := inB total 0 1000000000) (by rw [HR.out]; exact HE.out)
      obtain ⟨ht0, ht1⟩ := inB_iff.1 htot
      rw [HR.out] at hs1
      have HP := Lib.hid hpart
      have hn1 : zs ≠ [] := by intro h; rw [h] at hpos; simp at hpos
      have hn40 : n ≤ 40 := by rw [← H.out.1]; exact h40
      have hnpos : 0 < n := by rw [← H.out.1]; exact List.length_pos_iff.2 hn1
      have hlb := left_bd (total := total) hpos
      rw [hs1] at H6
      obtain ⟨s, hs⟩ : ∃ s, zs.sum = s := ⟨_, rfl⟩
      rw [hs] at H6 hpos hsb hlb
      rw [H.out.1] at hlb
      have HS := Lib.hid hs
      have HLB := Lib.hid hlb
      have hmk := make55 n (by omega)
      have hl6 := cell_lt (H6.out 0 _ rfl).1
      have H40 := Lib.hid h40
      clear htot hpart h40 hs1 hn1 hs hlb
      go_upto_region 4 with (fail)
      go_cut [8, 9] (fun p q wx => ∃ g8 g9, p = .slice (some ⟨g8, 0, none⟩) n n ∧ q = .slice (some ⟨g9, 0, none⟩) n n ∧ g8 ≠ g9 ∧ wc.heap.size ≤ g8 ∧ wc.heap.size ≤ g9 ∧ RowC wx g8 (zer n) ∧ RowC wx g9 (zer n) ∧ Kept wc wx)
      case first =>
        have hz1 := cell_lt c2
        go_region
        all_goals go_wp2
        all_goals go_meet
        all_goals
          have ra : RowC ((wc.alloc (.cells (zer n).toArray 3)).alloc (.cells (zer n).toArray 3)).drew wc.heap.size (zer n) := ((RowC.new wc (zer n) 3).kept ((Kept.refl _).alloc _)).drew
          have rb : RowC ((wc.alloc (.cells (zer n).toArray 3)).alloc (.cells (zer n).toArray 3)).drew (wc.heap.size + 1) (zer n) := by
            have := (RowC.new (wc.alloc (.cells (zer n).toArray 3)) (zer n) 3).drew
            rw [World.size_alloc] at this
            exact this
          have hk : Kept wc ((wc.alloc (.cells (zer n).toArray 3)).alloc (.cells (zer n).toArray 3)).drew := (((Kept.refl wc).alloc _).alloc _).drew
          first
            | exact ⟨wc.heap.size, wc.heap.size + 1, rfl, rfl, by omega, by omega, by omega, ra, rb, hk⟩
            | exact ⟨wc.heap.size + 1, wc.heap.size, rfl, rfl, by omega, by omega, by omega, rb, ra, hk⟩
      case rest =>
        obtain ⟨g8, g9, rfl, rfl, hg, hg8, hg9, R8, R9, K7⟩ := hcut
        have hwc := hkw.size
        have k7 := K6.trans K7
        have d1 := (k7.cells _ _ (cell_lt B1.out)).trans B1.out
        have d2 := (k7.cells _ _ (cell_lt B2.out)).trans B2.out
        have H8 := Lib.hid R8
        have H9 := Lib.hid R9
        have H6' := Lib.hid (H6.out.kept K7)
        have hkw7 := hkw.trans K7
        have hl6' := cell_lt (H6'.out 0 _ rfl).1
        have hl2 : w.heap.size + 1 < wc.heap.size := by omega
        clear c1 c2 R8 R9
        go_wp2
        go_loopw [10, 35] (fun lv i wr => ∃ k : Nat, k ≤ n ∧ i = .int .i64 k ∧ lv = .int .i64 (total - (flS total s (zs.take k)).sum) ∧ 0 ≤ (flS total s (zs.take k)).sum ∧ (flS total s (zs.take k)).sum ≤ k * 1000000000000 ∧
          RowC wr g8 (intsV (flS total s (zs.take k)) ++ zer (n - k)) ∧ RowC wr g9 (rngV k ++ zer (n - k)) ∧ RowC wr b6 [.int .i64 s] ∧ Kept W2 wr ∧ wc.heap.size ≤ wr.heap.size) (fun _ i _ => n - (intOf i).toNat)
        case atStart => exact ⟨0, by omega, by first | rfl | go_num, by simp [flS], by simp [flS], by simp [flS], by simpa [flS, intsV] using H8.out, by simpa [rngV] using H9.out, H6'.out, k7, Nat.le_refl _⟩
        case round =>
          obtain ⟨k, hk, rfl, rfl, hs0, hs1, r8, r9, r6, kr, hzr⟩ := hrel
          have q1 := (kr.cells _ _ (cell_lt B1.out)).trans B1.out
          have q2 := (kr.cells _ _ (cell_lt B2.out)).trans B2.out
          have q6 := (r6 0 _ rfl).1
          have hl6r := cell_lt q6
          have hl2r : w.heap.size + 1 < wr.heap.size := by omega
          have G8 := Lib.hid r8
          have G9 := Lib.hid r9
          have G6 := Lib.hid r6
          clear r8 r9 r6
          obtain ⟨sk, hsk⟩ : ∃ sk, (flS total s (zs.take k)).sum = sk := ⟨_, rfl⟩
          rw [hsk] at hs0 hs1
          rw [hsk]
          have HSK := Lib.hid hsk
          clear hsk
          by_cases hlt : k < n
          · obtain ⟨b, off, hA, hc⟩ := H.out.2.2.2.2 (by omega)
            subst hA
            have hxl : k < zs.length := by rw [H.out.1]; exact hlt
            obtain ⟨z, hz⟩ : ∃ z, zs[k]? = some z := ⟨zs[k]'hxl, List.getElem?_eq_getElem hxl⟩
            obtain ⟨z0, z1⟩ := part_in HP.out hz
            have hf := fl_one ht0 ht1 z0 z1 hpos
            have m1 := mul_bd (n := total) (d := z) 1000000000 1000 (by omega) ht1 z0 z1 (by omega)
            have m0 := Int.mul_nonneg ht0 z0
            obtain ⟨m11, m12⟩ := m1
            obtain ⟨f0, f1⟩ := hf
            have c0 := ((K2.trans kr).cells _ _ (cell_lt (hc k z hz))).trans (hc k z hz)
            have e8 : (intsV (flS total s (zs.take k))).length = k := by rw [intsV_len]; unfold flS; rw [List.length_map, List.length_take]; omega
            have e9 : (rngV k).length = k := rngV_len k
            obtain ⟨m, hm⟩ : ∃ m, n - k = m + 1 := ⟨n - k - 1, by omega⟩
            have r8 := G8.out
            have r9 := G9.out
            rw [hm] at r8 r9
            have l8 : (intsV (flS total s (zs.take k)) ++ zer (m + 1)).length = n := by rw [List.length_append, e8]; unfold zer; rw [List.length_replicate]; omega
            have l9 : (rngV k ++ zer (m + 1)).length = n := by rw [List.length_append, e9]; unfold zer; rw [List.length_replicate]; omega
            have t8 := r8 k _ (List.getElem?_eq_getElem (by rw [l8]; omega))
            have t9 := r9 k _ (List.getElem?_eq_getElem (by rw [l9]; omega))
            obtain ⟨v8, hv8, hw8⟩ : ∃ v8, wr.cell? ⟨g8, k, none⟩ = some v8 ∧ wr.frozen? ⟨g8, k, none⟩ = false := ⟨_, t8.1, t8.2⟩
            obtain ⟨v9, hv9, hw9⟩ : ∃ v9, wr.cell? ⟨g9, k, none⟩ = some v9 ∧ wr.frozen? ⟨g9, k, none⟩ = false := ⟨_, t9.1, t9.2⟩
            have HZ := Lib.hid hz
            have HE8 := Lib.hid e8
            have HE9 := Lib.hid e9
            have HM := Lib.hid hm
            have L8 := Lib.hid l8
            have L9 := Lib.hid l9
            have R8 := Lib.hid r8
            have R9 := Lib.hid r9
            have hl8 := cell_lt hv8
            have hl9 := cell_lt hv9
            clear hz hc e8 e9 hm l8 l9 r8 r9 t8 t9
            go_wp2
            go_roundw
            case rel =>
              have hsum : (flS total s (zs.take (k + 1))).sum = sk + total * z / s := by rw [take_snoc' HZ.out, flS_snoc, List.sum_append, HSK.out]; simp
              refine ⟨k + 1, by omega, by go_num, by rw [hsum, Int.sub_sub], by rw [hsum]; omega, by rw [hsum]; push_cast; omega, ?_, ?_, ?_, ?_, ?_⟩
              · have hx := ((R8.out.put (j := k) (by rw [L8.out]; omega) (.int .i64 (total * z / s))).far hg (.int .i64 (k : Int)) : RowC ((wr.setCell ⟨g8, k, none⟩ (.int .i64 (total * z / s))).setCell ⟨g9, k, none⟩ (.int .i64 (k : Int))) g8 _)
                rw [set1 _ m k _ HE8.out] at hx
                rw [take_snoc' HZ.out, flS_snoc, intsV_snoc, show n - (k + 1) = m by have := HM.out; omega]
                exact hx
              · have hx := ((R9.out.far (Ne.symm hg) (.int .i64 (total * z / s))).put (j := k) (by rw [L9.out]; omega) (.int .i64 (k : Int)) : RowC ((wr.setCell ⟨g8, k, none⟩ (.int .i64 (total * z / s))).setCell ⟨g9, k, none⟩ (.int .i64 (k : Int))) g9 _)
                rw [set1 _ m k _ HE9.out] at hx
                rw [rngV_succ, show n - (k + 1) = m by have := HM.out; omega]
                exact hx
              · exact (G6.out.far (by omega) _).far (by omega) _
              · have := HZ2.out
                exact (kr.setCell (by simp; omega) _).setCell (by simp; omega) _
              · simp; exact hzr
            case measure => simp [intOf]; omega
          · obtain rfl : k = n := by omega
            have ht : zs.take k = zs := List.take_of_length_le (by rw [H.out.1]; exact Nat.le_refl _)
            rw [ht] at HSK G8
            have G8' := Lib.hid (show RowC wr g8 (intsV (flS total s zs)) by have := G8.out; rw [Nat.sub_self] at this; simpa [zer] using this)
            have G9' := Lib.hid (show RowC wr g9 (rngV k) by have := G9.out; rw [Nat.sub_self] at this; simpa [zer] using this)
            have hlb := HLB.out
            rw [HSK.out] at hlb
            obtain ⟨L, hL⟩ := Int.eq_ofNat_of_zero_le hlb.1
            have hLk : L ≤ k := by have := hlb.2; omega
            have HL := Lib.hid hL
            clear G8 G9 ht hlb hL
            obtain ⟨m, hm⟩ : ∃ m, k = m + 1 := ⟨k - 1, by omega⟩
            have HMK := Lib.hid hm
            clear hm
            have h13 := RowC.new wr [.func (.func 137) #[] #[.pointer (some ⟨w.heap.size, 0, none⟩), .pointer (some ⟨w.heap.size + 1, 0, none⟩), .pointer (some ⟨b6, 0, none⟩)]] 136
            have k13 : Kept wr (wr.alloc (.cells #[.func (.func 137) #[] #[.pointer (some ⟨w.heap.size, 0, none⟩), .pointer (some ⟨w.heap.size + 1, 0, none⟩), .pointer (some ⟨b6, 0, none⟩)]] 136)) := (Kept.refl _).alloc _
            have H13 := Lib.hid h13
            have HK13 := Lib.hid k13
            clear h13 k13
            obtain ⟨b, off, hA, hc⟩ := H.out.2.2.2.2 hnpos
            subst hA
            have HC := Lib.hid hc
            clear hc
            have h40k : k ≤ 40 := by have := H40.out; have := H.out.1; omega
            have HSt : RowKit.Hid (Calls Tryz.prog 138 #[.slice (some ⟨g9, 0, none⟩) k k, .func (.func 139) #[] #[.pointer (some ⟨wr.heap.size, 0, none⟩)]] (wr.alloc (.cells #[.func (.func 137) #[] #[.pointer (some ⟨w.heap.size, 0, none⟩), .pointer (some ⟨w.heap.size + 1, 0, none⟩), .pointer (some ⟨b6, 0, none⟩)]] 136)) fun e w' => e = .returned (.tuple #[]) ∧ ∃ Z, Z.Pairwise (ltC total s zs) ∧ Z.Perm (List.range k) ∧ RowC w' g9 (natV Z) ∧ RowC w' g8 (intsV (flS total s zs)) ∧ Kept w w' ∧ wr.heap.size < w'.heap.size) := Lib.hid (by
              have hrow := G9'.out
              have hr8 := G8'.out
              have hcz : ∀ j z, zs[j]? = some z → wr.cell? ⟨b, off + j, none⟩ = some (.int .i64 z) := fun j z hj => ((K2.trans kr).cells _ _ (cell_lt (HC.out j z hj))).trans (HC.out j z hj)
              have hzl := H.out.1
              have hb9 : b ≠ g9 := by
                obtain ⟨z, hz⟩ : ∃ z, zs[0]? = some z := ⟨_, List.getElem?_eq_getElem (by omega)⟩
                have := cell_lt (HC.out 0 z hz)
                omega
              have hk1 := HK13.out
              have hz2 := HZ2.out
              have hl9 : g9 < wr.heap.size := by
                have := (hrow 0 _ (by rw [List.getElem?_eq_getElem (by rw [rngV_len]; exact hnpos)])).1
                exact cell_lt this
              have hr13 := (H13.out 0 _ rfl).1
              have hlk : ∀ (a : Addr) v, wr.cell? a = some v → (wr.alloc (.cells #[.func (.func 137) #[] #[.pointer (some ⟨w.heap.size, 0, none⟩), .pointer (some ⟨w.heap.size + 1, 0, none⟩), .pointer (some ⟨b6, 0, none⟩)]] 136)).cell? a = some v := fun a v hv => by
                rw [← hv]
                have hlt : a.block < wr.heap.size := by
                  rcases Nat.lt_or_ge a.block wr.heap.size with h | h
                  · exact h
                  · simp [World.cell?, Array.getElem?_eq_none h] at hv
                exact World.cell?_of_block (hk1.block _ hlt)
              have hrow2 : RowC (wr.alloc (.cells #[.func (.func 137) #[] #[.pointer (some ⟨w.heap.size, 0, none⟩), .pointer (some ⟨w.heap.size + 1, 0, none⟩), .pointer (some ⟨b6, 0, none⟩)]] 136)) g9 (natV (List.range k)) := hrow.kept hk1
              refine (sortStable_any g9 k k wr.heap.size k (cfC total s zs) (ltC total s zs) (ltC_tr total s zs) (List.range k) (by simp) hnpos h40k (Nat.le_refl _) (by omega) (range_OH total s zs k) _ (cmpG_of wr.heap.size w.heap.size (w.heap.size + 1) b6 b off k c g9 total s zs _ hr13 (hlk _ _ q1) (hlk _ _ q2) (hlk _ _ q6) (fun j z hj => hlk _ _ (hcz j z hj)) hzl HP.out ht0 ht1 hpos hsb (by omega) (by omega) (by omega) (by omega) hb9) hrow2).mono ?_
              rintro e w' ⟨rfl, Z, z1, z2, hst⟩
              refine ⟨rfl, Z, z1, z2, hst.2, hst.1.row (hr8.kept hk1) hg, ?_, ?_⟩
              · exact Below.grown ((K2.trans kr).trans hk1).below hst.1 ((K2.trans kr).trans hk1).size (fun r hr => by cases hr; omega)
              · have := hst.1.size; simp at this; omega)
            rw [HL.out]
            go_wp2_with fail
            refine HSt.out.mono ?_
            rintro e w1 ⟨rfl, Z, z1, z2, o9, o8, kw1, hz1⟩
            have O8 := Lib.hid o8
            have O9 := Lib.hid o9
            clear o8 o9
            have hL0 : (0 : Int) ≤ (L : Int) := by omega
            have hLi : (L : Int) ≤ (k : Int) := by omega
            have hLt : ((L : Nat) : Int).toNat = L := by omega
            have hol : Z.length = k := by rw [z2.length_eq, List.length_range]
            have HZ1 := Lib.hid z1
            have HZ2' := Lib.hid z2
            clear z1 z2
            have HOL := Lib.hid hol
            have hfb : ∀ v ∈ flS total s zs, 0 ≤ v ∧ v ≤ 1000000000000 := by
              intro v hv
              unfold flS at hv
              rw [List.mem_map] at hv
              obtain ⟨z, hz, rfl⟩ := hv
              obtain ⟨q, hq⟩ := List.getElem?_of_mem hz
              obtain ⟨z0, z1⟩ := part_in HP.out hq
              exact fl_one ht0 ht1 z0 z1 hpos
            have HFB := Lib.hid hfb
            have hfl : (flS total s zs).length = k := by unfold flS; rw [List.length_map, H.out.1]
            have HFL := Lib.hid hfl
            clear hol hfb hfl
            go_wp2_with fail
            go_loopw [67] (fun i wx => ∃ j : Nat, j ≤ L ∧ i = .int .i64 j ∧ RowC wx g8 (intsV (bump (flS total s zs) (Z.take j))) ∧ RowC wx g9 (natV Z) ∧ Kept w wx) (fun i _ => L - (intOf i).toNat)
            case atStart => exact ⟨0, by omega, by first | rfl | go_num, by simpa [bump] using O8.out, O9.out, kw1⟩
            case round =>
              obtain ⟨j, hj, rfl, x8, x9, kx⟩ := hrel
              by_cases hlt2 : j < L
              · obtain ⟨o, ho⟩ : ∃ o, Z[j]? = some o := ⟨_, List.getElem?_eq_getElem (by rw [HOL.out]; omega)⟩
                have hok : o < k := List.mem_range.1 (HZ2'.out.mem_iff.1 (List.mem_of_getElem? ho))
                have hlen : (bump (flS total s zs) (Z.take j)).length = k := by rw [bump_len, HFL.out]
                obtain ⟨v, hv⟩ : ∃ v, (bump (flS total s zs) (Z.take j))[o]? = some v := ⟨_, List.getElem?_eq_getElem (by rw [hlen]; exact hok)⟩
                have hvb := bump_bd HFB.out _ v (List.mem_of_getElem? hv)
                have htl : (Z.take j).length = j := by rw [List.length_take, HOL.out]; omega
                rw [htl] at hvb
                obtain ⟨v0, v1⟩ := hvb
                have y9 := (x9 j _ (natV_at ho)).1
                have y8 := x8 o _ (intsV_at hv)
                obtain ⟨y81, y82⟩ := y8
                have hx8 := cell_lt y81
                have ho0 : (0 : Int) ≤ (o : Int) := by omega
                have ho1 : (o : Int) < (k : Int) := by omega
                have HO := Lib.hid ho
                have HV := Lib.hid hv
                have X8 := Lib.hid x8
                have X9 := Lib.hid x9
                have HLn := Lib.hid hlen
                clear ho hv x8 x9 hlen htl
                go_wp2
                go_roundw
                case rel =>
                  refine ⟨j + 1, by omega, by go_num, ?_, X9.out.far (Ne.symm hg) _, kx.setCell (by simp; omega) _⟩
                  rw [take_snoc' HO.out, bump_snoc, intsV_modify HV.out]
                  exact X8.out.put (by rw [intsV_len, HLn.out]; exact hok) _
                case measure => simp [intOf]; omega
              · obtain rfl : j = L := by omega
                go_wp2
                go_ret2
                refine ⟨.inr ⟨by rw [HR.out]; exact HE.out, g8, Z, (by rw [H.out.1]; rfl), by omega, by rw [HS.out]; exact HZ1.out, by rw [H.out.1]; exact HZ2'.out, ?_⟩, kx⟩
                rw [HS.out, HSK.out, HL.out, hLt]
                exact x8
    · have he' : (r.2 != 0) = true := by simp [he]
      have HE := Lib.hid he
      clear he
      go_wp2
      go_ret2
      exact ⟨.inl ⟨by rw [HR.out]; exact HE.out, by rw [HR.out]; rfl⟩, hkw⟩
end Go.Proofs.YtcjpecdnenemaaaGreatDoor

namespace Go.Proofs.YtcjpecdnenemaaaGreatDoor
set_option linter.all false
open Go.RowKit Go.Shelf

theorem own00 (W : World) (B : Nat) (t : TypeId) (s : Nat) (hB : W.heap.size = B) : (W.alloc (.cells #[] t)).ownsRow B t s (.slice (some ⟨B, 0, none⟩) 0 0) 0 [] := by
  subst hB
  exact ⟨by simp, .inr ⟨W.heap.size, 0, #[], rfl, Nat.le_refl _, heap_alloc_new _ _, by omega, by simp [maxLen], by simp, by simp⟩⟩
/-- 'append([]T{}, l...)' in a plain region -/
theorem wpList_copy {ops : Array Oper} {rest : List Oper} {o : Oper} {a : Act} {Q : Exit → Act → World → Prop} (W w : World) (hgd : o.guard = none) (s x : Operand) (t : TypeId)
    (ho : o.op = .call { callee := .builtin .append, args := #[s, x], argTypes := #[t, t] })
    (e : TypeId) (i : TypeInfo) (z : Value) (size bytes : Nat) (ht : Tryz.prog.underlying t = some (.slice e)) (hi : Tryz.prog.info? e = some i) (hz : i.zero = some z)
    (hsize : i.size = size) (hby : i.bytes = bytes) (hzs : z.cells.size = size) (hsz : 0 < size)
    (hw : w = W.alloc (.cells #[] e)) (hs : a.eval s = .slice (some ⟨W.heap.size, 0, none⟩) 0 0)
    (A : Option Addr) (n c : Nat) (news : List Value) (hx : a.eval x = .slice A n c) (hl : news.length = n * size)
    (hnews : 0 < n → ∃ ad, A = some ad ∧ ∀ j u, news[j]? = some u → w.cell? (ad.add j) = some u) (h1 : ∀ u ∈ news, u.oneCell' = true)
    (h63 : n ≤ maxLen) (hbytes : n * bytes ≤ 140737488355328)
    (h : ∀ B d w', w'.ownsRow W.heap.size e size (.slice B n d) n news → Kept W w' → wpList Tryz.prog ops Q rest (a.put o.dst (.slice B n d)) w') : wpList Tryz.prog ops Q (o :: rest) a w := by
  have hown : w.ownsRow W.heap.size e size (.slice (some ⟨W.heap.size, 0, none⟩) 0 0) 0 [] := by rw [hw]; exact own00 W _ e size rfl
  have hk : Kept W w := by rw [hw]; exact (Kept.refl W).alloc _
  by_cases hn : 0 < n
  · obtain ⟨ad, rfl, hne⟩ := hnews hn
    refine wpList_append_lies w hgd s x t ho W.heap.size e i z size bytes ht hi hz hsize hby hzs hsz _ 0 [] hs hown ad n c news hx hl hne h1 hn (by omega) (by rw [Nat.zero_add]; exact hbytes) hk.size _ rfl ?_
    intro g cap w' h2 h3 h4 h5
    rw [Nat.zero_add] at h2 ⊢
    rw [List.nil_append] at h2
    exact h _ _ _ h2 (hk.grown h3 (fun k hk => by simp [Value.ownBlock] at hk; omega))
  · obtain rfl : n = 0 := by omega
    obtain rfl : news = [] := List.eq_nil_of_length_eq_zero (by omega)
    refine wpList_plain hgd fun K hK => ?_
    have hr := run_append_zero (P := Tryz.prog) w W.heap.size t o.type e i size ht hi _ 0 [] hown A c
    unfold Oper.wp execOp
    simp only [ho, resolve, invoke, builtin, Sem.run_bind, Sem.run_pure, Result.andThen_ok, List.map_toArray, List.map_cons, List.map_nil, hs, hx, hr]
    exact hK _ _ (h _ _ _ hown hk)
theorem ints_news {w : World} {A : Option Addr} {n c : Nat} {zs : List Int} (h : IntsA w A n c zs) (hn : 0 < n) : ∃ ad, A = some ad ∧ ∀ j u, (intsV zs)[j]? = some u → w.cell? (ad.add j) = some u := by
  obtain ⟨b, off, rfl, hc⟩ := h.2.2.2.2 hn
  refine ⟨_, rfl, fun j u hu => ?_⟩
  unfold intsV at hu
  rw [List.getElem?_map] at hu
  cases hz : zs[j]? with
  | none => rw [hz] at hu; cases hu
  | some z =>
    rw [hz] at hu
    cases hu
    have := hc j z hz
    have e : (⟨b, off, none⟩ : Addr).add j = ⟨b, off + j, none⟩ := by
      unfold Addr.add
      split <;> simp_all
    rw [e]
    exact this
theorem ints_one (zs : List Int) : ∀ u ∈ intsV zs, u.oneCell' = true := by
  intro u hu
  unfold intsV at hu
  rw [List.mem_map] at hu
  obtain ⟨z, _, rfl⟩ := hu
  rfl
theorem own_intsA {w : World} {base n c : Nat} {A : Option Addr} {zs : List Int} (h : w.ownsRow base 3 1 (.slice A n c) n (intsV zs)) (hn : zs.length = n) (hb : ∀ z ∈ zs, -9223372036854775808 ≤ z ∧ z ≤ 9223372036854775807) : IntsA w A n c zs := by
  rcases own_form h with ⟨hv, h0⟩ | ⟨g, c', hv, h1, h2, h3, h4⟩
  · injection hv with e1 e2 e3
    subst e1 e2 e3
    exact ⟨hn, by omega, by omega, hb, fun h => by omega⟩
  · injection hv with e1 e2 e3
    subst e1 e3
    refine ⟨hn, h1, by simpa [maxLen] using h2, hb, fun _ => ⟨g, 0, rfl, fun j z hz => ?_⟩⟩
    have hr := own_rowC h j (.int .i64 z) (by simp [intsV, hz])
    rw [Nat.zero_add]
    exact hr.1
theorem own_headsA {w : World} {base n c : Nat} {A : Option Addr} {hs : List Hd} (h : w.ownsRow base 84 2 (.slice A n c) n (hdFlat hs)) (hn : hs.length = n) (hb : ∀ x ∈ hs, x.sort.size ≤ 9223372036854775807 ∧ -9223372036854775808 ≤ x.num ∧ x.num ≤ 9223372036854775807) : HeadsA w A n c hs := by
  subst hn
  obtain ⟨A', c', hv, hh⟩ := heads_own8 h hb
  injection hv with e1 e2 e3
  subst e1 e3
  exact hh
/-- a row that can be written over -/
def Wr (W w' : World) (B : Option Addr) (m : Nat) : Prop := 0 < m → ∃ g vs, B = some ⟨g, 0, none⟩ ∧ W.heap.size ≤ g ∧ vs.length = m ∧ RowC w' g vs
theorem wr_own {W w' : World} {t : TypeId} {s n c : Nat} {B : Option Addr} {ys : List Value} (h : w'.ownsRow W.heap.size t s (.slice B n c) n ys) : Wr W w' B (n * s) := by
  intro hm
  have hn : 0 < n := Nat.pos_of_mul_pos_right hm |> fun _ => by
    rcases Nat.eq_zero_or_pos n with h0 | h0
    · rw [h0, Nat.zero_mul] at hm; omega
    · exact h0
  rcases own_form h with ⟨hv, h0⟩ | ⟨g, c', hv, h1, h2, h3, h4⟩
  · omega
  · injection hv with e1 e2 e3
    subst e1 e3
    exact ⟨g, ys, rfl, h3, h.1, own_rowC h⟩

set_option maxRecDepth 100000 in
set_option maxHeartbeats 3200000 in
theorem sameInts_any (A B : Option Addr) (n c d : Nat) (zs : List Int) (w : World) (h1 : IntsA w A n c zs) (h2 : IntsA w B n d zs) :
    Calls Tryz.prog 81 #[.slice A n c, .slice B n d] w fun e w' => e = .returned (.bool true) ∧ Kept w w' := by
  have H1 := Lib.hid h1
  have H2 := Lib.hid h2
  have hnc := h1.2.1
  have hcm := h1.2.2.1
  have hnd := h2.2.1
  have hdm := h2.2.2.1
  clear h1 h2
  have hnn : ((n : Int) != (n : Int)) = false := by simp
  go_enter Tryz.func81, Tryz.ntmps81
  go_wp2_with fail
  go_loopw [5] (fun i wr => ∃ k : Nat, k ≤ n ∧ i = .int .i64 k ∧ Kept w wr) (fun i _ => n - (intOf i).toNat)
  case atStart => exact ⟨0, by omega, by first | rfl | go_num, Kept.refl _⟩
  case round =>
    obtain ⟨k, hk, rfl, hkr⟩ := hrel
    have HKR := Lib.hid hkr
    clear hkr
    by_cases hlt : k < n
    · obtain ⟨b, off, hA, hcc⟩ := H1.out.2.2.2.2 (by omega)
      obtain ⟨b2, off2, hB, hcc2⟩ := H2.out.2.2.2.2 (by omega)
      subst hA
      subst hB
      have hxl : k < zs.length := by rw [H1.out.1]; exact hlt
      obtain ⟨x, hx⟩ : ∃ x, zs[k]? = some x := ⟨zs[k]'hxl, List.getElem?_eq_getElem hxl⟩
      have q0 := (HKR.out.cells _ _ (cell_lt (hcc k x hx))).trans (hcc k x hx)
      have p0 := (HKR.out.cells _ _ (cell_lt (hcc2 k x hx))).trans (hcc2 k x hx)
      have i0 : (0 : Int) ≤ (k : Int) := by omega
      have i1 : (k : Int) < (n : Int) := by omega
      have it : (k : Int).toNat = k := by omega
      clear hcc hcc2 hx
      go_upto_region 6 with (fail)
      go_cut [25] (fun s25 wx => s25 = .bool false ∧ Kept wr wx)
      case first =>
        go_quiet (fail)
        go_wp2
        go_meet
        exact ⟨by first | rfl | (simp; done), by first | exact Kept.refl _ | exact (Kept.refl _).drewN _ | exact (Kept.refl _).drew⟩
      obtain ⟨rfl, kx⟩ := hcut
      have KX := Lib.hid (HKR.out.trans kx)
      clear kx q0 p0
      go_wp2
      go_roundw
      case rel => exact ⟨k + 1, by omega, by go_num, KX.out⟩
      case measure => simp [intOf]; omega
    · obtain rfl : k = n := by omega
      go_wp2
      go_ret
      exact ⟨rfl, HKR.out⟩
end Go.Proofs.YtcjpecdnenemaaaGreatDoor

namespace Go.Proofs.YtcjpecdnenemaaaGreatDoor
set_option linter.all false
open Go.RowKit Go.Shelf

theorem app_wr (A : Option Addr) (n c : Nat) (xs : List Eqv) (x : Eqv) (hn : n ≤ 205) (hs : x.sort.size ≤ 100) (ny : Nat) (ys : List Eqv) (E : Int) (hy : ys = appL xs x) (hl : ys.length = ny) (hE : E = (chkS (xs ++ [x])).2) (w : World) (h : TabA w A n c xs) :
    Calls Tryz.prog 38 #[.slice A n c, eqV x] w fun e w' => ∃ B d, e = .returned (.tuple #[.slice B ny d, .int .i64 E]) ∧ TabA w' B ny d ys ∧ Wr w w' B (ny * 7) ∧ Kept w w' := by
  subst hl hE hy
  have hss : ∀ y ∈ xs ++ [x], y.sort.size ≤ 9223372036854775807 := fun y hy => by
    rcases List.mem_append.1 hy with hy | hy
    · exact h.2.2.2.1 y hy
    · simp at hy; subst hy; omega
  unfold appL
  by_cases h0 : (chkS (xs ++ [x])).2 = 0
  · rw [if_pos h0, h0]
    refine (append_ok A n c xs x (by omega) (by omega) h0 w h).mono (fun e w' hh => ?_)
    obtain ⟨v, rfl, hown, hk⟩ := hh
    obtain ⟨A', c', hv⟩ : ∃ A' c', v = .slice A' (xs ++ [x]).length c' := by
      rcases own_form hown with ⟨rfl, h0⟩ | ⟨g, c', rfl, _⟩
      · exact ⟨none, 0, by rw [h0]⟩
      · exact ⟨_, _, rfl⟩
    subst hv
    exact ⟨_, _, rfl, own_tabA hown rfl hss, wr_own hown, hk⟩
  · rw [if_neg h0]
    refine (append_err A n c xs x (by omega) (by omega) _ rfl (by simpa using h0) w h).mono (fun e w' hh => ?_)
    obtain ⟨B, d, h1, h2, h3⟩ := app_nil hh
    have h1' := h1.symm.trans hh.1
    injection h1' with h1'
    injection h1' with h1'
    exact ⟨none, 0, hh.1, ⟨rfl, Nat.le_refl _, by simp, fun x hx => (by cases hx), fun h => by simp at h⟩, fun hm => by simp at hm, hh.2⟩
theorem rapp_out (A : Option Addr) (n c : Nat) (xs : List Eqv) (x : Eqv) (hn : n ≤ 205) (hs : x.sort.size ≤ 100) (ny : Nat) (ys : List Eqv) (E : Int) (hy : ys = appL xs x) (hl : ys.length = ny) (hE : E = (chkS (xs ++ [x])).2) (w : World) (h : TabA w A n c xs) :
    Calls Tryz.prog 39 #[.slice A n c, eqV x] w fun e w' => ∃ B d, e = .returned (.tuple #[.slice B ny d, .int .i64 E]) ∧ TabA w' B ny d ys ∧ Kept w w' := by
  subst hl hE hy
  refine (rapp_any A n c xs x hn hs w h).mono fun e w' ⟨B, d, h1, h2, h3⟩ => ⟨B, d, h1, h2, h3⟩
theorem whole_wr (C : Option Addr) (np cp : Nat) (zs : List Int) (zp : Int) (hz : zp = (sumOfS zs (inB 100 0 1000000000)).2) (hp : np ≤ 60) (w : World) (h : IntsA w C np cp zs) :
    Calls Tryz.prog 72 #[.int .i64 100, .slice C np cp] w fun e w' => ∃ B m d, e = .returned (.tuple #[.slice B m d, .int .i64 zp]) ∧ m ≤ 60 ∧ Wr w w' B m ∧ Kept w w' := by
  subst hz
  refine (whole_all C np cp zs 100 w h).mono fun e w' hh => ?_
  obtain ⟨hh, hk⟩ := hh
  rcases hh with ⟨_, he⟩ | ⟨h0, g, Z, he, hg, _, hp2, hr⟩
  · exact ⟨none, 0, 0, he, by omega, fun hm => by omega, hk⟩
  · refine ⟨some ⟨g, 0, none⟩, zs.length, zs.length, by rw [h0]; exact he, by rw [h.1]; exact hp, fun _ => ⟨g, _, rfl, hg, ?_, hr⟩, hk⟩
    rw [intsV_len, bump_len]
    unfold flS
    rw [List.length_map]
theorem fill_wr (A : Option Addr) (n c : Nat) (xs : List Eqv) (B : Option Addr) (hn hc : Nat) (hs : List Hd) (out : List Hd) (z : Int) (no : Nat) (hz : (out, z) = fillR xs hs 9 1 0 0) (hl : out.length = no) (hsz : ∀ x ∈ hs, x.sort.size ≤ 100) (hlt : n ≤ 1000000) (w : World) (hT : TabA w A n c xs) (hH : HeadsA w B hn hc hs) :
    Calls Tryz.prog 63 #[.slice A n c, .slice B hn hc, .agg #[.int .i64 9, .int .i64 1], .int .i64 0, .int .i64 0] w fun e w' => ∃ D d, e = .returned (.tuple #[.slice D no d, .int .i64 z]) ∧ HeadsA w' D no d out ∧ Wr w w' D (no * 2) ∧ Kept w w' := by
  subst hl
  refine (fill_any A n c xs B hn hc hs 9 1 0 0 w hT hlt hH).mono fun e w' hh => ?_
  obtain ⟨v, he, hown, hk⟩ := hh
  rw [← hz] at he hown
  obtain ⟨D, d, hv, hh⟩ := heads_own8 hown (fillR_bd hz.symm hsz)
  subst hv
  exact ⟨D, d, he, hh, wr_own hown, hk⟩
theorem rfill_out (A : Option Addr) (n c : Nat) (xs : List Eqv) (B : Option Addr) (hn hc : Nat) (hs : List Hd) (out : List Hd) (z : Int) (no : Nat) (hz : (out, z) = fillR xs hs 9 1 0 0) (hl : out.length = no) (hsz : ∀ x ∈ hs, x.sort.size ≤ 100) (w : World) (hT : TabA w A n c xs) (hH : HeadsA w B hn hc hs) :
    Calls Tryz.prog 64 #[.slice A n c, .slice B hn hc, .agg #[.int .i64 9, .int .i64 1], .int .i64 0, .int .i64 0] w fun e w' => ∃ D d, e = .returned (.tuple #[.slice D no d, .int .i64 z]) ∧ HeadsA w' D no d out ∧ Kept w w' := by
  subst hl
  refine (rfill_any A n c xs B hn hc hs 9 1 0 0 w hT hH).mono fun e w' hh => ?_
  obtain ⟨v, he, hown, hk⟩ := hh
  rw [← hz] at he hown
  obtain ⟨D, d, hv, hh⟩ := heads_own8 hown (fillR_bd hz.symm hsz)
  subst hv
  exact ⟨D, d, he, hh, hk⟩

set_option maxRecDepth 100000 in
set_option maxHeartbeats 16000000 in
theorem memory_any (A : Option Addr) (n c : Nat) (xs : List Eqv) (id frm kno num den off : Int) (sort : ByteArray) (hs0 : sort.size ≤ 9223372036854775807) (B : Option Addr) (hn hc : Nat) (hs : List Hd) (C : Option Addr) (np cp : Nat) (zs : List Int) (w : World) (hE : Env w) (hT : TabA w A n c xs) (hH : HeadsA w B hn hc hs) (hI : IntsA w C np cp zs) :
    Calls Tryz.prog 18 #[.slice A n c, eqV ⟨id, frm, kno, sort, num, den, off⟩, .slice B hn hc, .slice C np cp] w fun e w' => e = .returned (.bool true) ∧ Kept w w' := by
  obtain ⟨i7, hi7, hy70, hy71, hy72⟩ := info_parts info37
  obtain ⟨i8, hi8, hy80, hy81, hy82⟩ := info_parts info84
  obtain ⟨i3, hi3, hy30, hy31, hy32⟩ := info_parts info3
  obtain ⟨W0, hW0⟩ : ∃ W0, W0 = w.alloc (.cells #[.int .i64 id, .int .i64 frm, .int .i64 kno, .string sort, .int .i64 num, .int .i64 den, .int .i64 off] 37) := ⟨_, rfl⟩
  have K0 : RowKit.Hid (Kept w W0) := Lib.hid (by rw [hW0]; exact (Kept.refl _).alloc _)
  have R0 : RowKit.Hid (RowC W0 w.heap.size [.int .i64 id, .int .i64 frm, .int .i64 kno, .string sort, .int .i64 num, .int .i64 den, .int .i64 off]) := Lib.hid (by rw [hW0]; exact RowC.new w [.int .i64 id, .int .i64 frm, .int .i64 kno, .string sort, .int .i64 num, .int .i64 den, .int .i64 off] 37)
  have HW := Lib.hid hW0
  have HT := Lib.hid (hT.kept K0.out)
  have HH := Lib.hid (hH.kept K0.out)
  have HI := Lib.hid (hI.kept K0.out)
  have HE := Lib.hid (hE.kept K0.out)
  have hnc := hT.2.1
  have hcm := hT.2.2.1
  have hhc := hH.2.1
  have hhm := hH.2.2.1
  have hpc := hI.2.1
  have hpm := hI.2.2.1
  clear hW0 hE hT hH hI
  obtain ⟨fb, hfb⟩ : ∃ fb, fb = fewB n := ⟨_, rfl⟩
  have HFB := Lib.hid hfb
  have HF : RowKit.Hid (∀ W, Calls Tryz.prog 47 #[.slice A n c] W fun e w' => e = .returned (.bool fb) ∧ W = w') := Lib.hid (fun W => by rw [hfb]; exact few_any A n c (by omega) W)
  clear hfb
  unfold eqV
  dsimp only
  cases fb
  · go_enter Tryz.func18, Tryz.ntmps18
    go_upto_region 1 with (fail)
    rw [← HW.out]
    go_wp2_with fail
    refine (HF.out _).mono ?_
    rintro e w1 ⟨rfl, rfl⟩
    go_wp2_with fail
    refine (alive_any _ HE.out).mono ?_
    rintro e wz ⟨rfl, hkz⟩
    go_wp2
    go_ret
    exact ⟨rfl, K0.out.trans hkz⟩
  have hlt : n ≤ 205 := few_le HFB.out.symm
  obtain ⟨sb, hsb⟩ : ∃ sb, sb = shB hs := ⟨_, rfl⟩
  have HSB := Lib.hid hsb
  have HSH : RowKit.Hid (∀ W, Kept W0 W → Calls Tryz.prog 58 #[.slice B hn hc] W fun e w' => e = .returned (.bool sb) ∧ Kept W w') := Lib.hid (fun W hW => by rw [hsb]; exact short_any B hn hc hs W (HH.out.kept hW))
  clear hsb
  cases sb
  · go_enter Tryz.func18, Tryz.ntmps18
    go_upto_region 1 with (fail)
    rw [← HW.out]
    go_wp2_with fail
    refine (HF.out _).mono ?_
    rintro e w1 ⟨rfl, rfl⟩
    go_wp2_with fail
    refine (HSH.out _ (Kept.refl _)).mono ?_
    rintro e w2 ⟨rfl, hk2⟩
    have K2 := Lib.hid hk2
    clear hk2
    have rr := R0.out.kept K2.out
    have a3 := (rr 3 _ rfl).1
    have la := cell_lt a3
    clear rr
    go_wp2_with fail
    refine (alive_any _ (HE.out.kept K2.out)).mono ?_
    rintro e wz ⟨rfl, hkz⟩
    go_wp2
    go_ret
    exact ⟨rfl, K0.out.trans (K2.out.trans hkz)⟩
  obtain ⟨h15, hsz⟩ := shB_ok HSB.out.symm
  have HSZ := Lib.hid hsz
  rw [HH.out.1] at h15
  clear hsz
  by_cases h3 : 60 < np
  · have d3 : decide ((60 : Int) < (np : Int)) = true := decide_eq_true (by omega)
    go_enter Tryz.func18, Tryz.ntmps18
    go_upto_region 1 with (fail)
    rw [← HW.out]
    go_wp2_with fail
    refine (HF.out _).mono ?_
    rintro e w1 ⟨rfl, rfl⟩
    go_wp2_with fail
    refine (HSH.out _ (Kept.refl _)).mono ?_
    rintro e w2 ⟨rfl, hk2⟩
    have K2 := Lib.hid hk2
    clear hk2
    have rr := R0.out.kept K2.out
    have a3 := (rr 3 _ rfl).1
    have la := cell_lt a3
    clear rr
    go_wp2_with fail
    refine (alive_any _ (HE.out.kept K2.out)).mono ?_
    rintro e wz ⟨rfl, hkz⟩
    go_wp2
    go_ret
    exact ⟨rfl, K0.out.trans (K2.out.trans hkz)⟩
  have d3 : decide ((60 : Int) < (np : Int)) = false := decide_eq_false (by omega)
  by_cases h4 : 100 < sort.size
  · have d4 : decide ((100 : Int) < (sort.size : Int)) = true := decide_eq_true (by omega)
    go_enter Tryz.func18, Tryz.ntmps18
    go_upto_region 1 with (fail)
    rw [← HW.out]
    go_wp2_with fail
    refine (HF.out _).mono ?_
    rintro e w1 ⟨rfl, rfl⟩
    go_wp2_with fail
    refine (HSH.out _ (Kept.refl _)).mono ?_
    rintro e w2 ⟨rfl, hk2⟩
    have K2 := Lib.hid hk2
    clear hk2
    have rr := R0.out.kept K2.out
    have a3 := (rr 3 _ rfl).1
    have la := cell_lt a3
    clear rr
    go_wp2_with fail
    refine (alive_any _ (HE.out.kept K2.out)).mono ?_
    rintro e wz ⟨rfl, hkz⟩
    go_wp2
    go_ret
    exact ⟨rfl, K0.out.trans (K2.out.trans hkz)⟩
  have d4 : decide ((100 : Int) < (sort.size : Int)) = false := decide_eq_false (by omega)
  obtain ⟨ys, hys⟩ : ∃ ys, ys = appL xs ⟨id, frm, kno, sort, num, den, off⟩ := ⟨_, rfl⟩
  obtain ⟨ny, hny⟩ : ∃ ny, ys.length = ny := ⟨_, rfl⟩
  obtain ⟨E, hEe⟩ : ∃ E, E = (chkS (xs ++ [⟨id, frm, kno, sort, num, den, off⟩])).2 := ⟨_, rfl⟩
  obtain ⟨⟨out, z⟩, hz⟩ : ∃ r, r = fillR xs hs 9 1 0 0 := ⟨_, rfl⟩
  obtain ⟨no, hno⟩ : ∃ no, out.length = no := ⟨_, rfl⟩
  obtain ⟨zp, hzp⟩ : ∃ zp, zp = (sumOfS zs (inB 100 0 1000000000)).2 := ⟨_, rfl⟩
  have hnp : np ≤ 60 := by omega
  have hso : sort.size ≤ 100 := by omega
  have C38 : RowKit.Hid (∀ W, Kept W0 W → Calls Tryz.prog 38 #[.slice A n c, .agg #[.int .i64 id, .int .i64 frm, .int .i64 kno, .string sort, .int .i64 num, .int .i64 den, .int .i64 off]] W fun e w' => ∃ B d, e = .returned (.tuple #[.slice B ny d, .int .i64 E]) ∧ TabA w' B ny d ys ∧ Wr W w' B (ny * 7) ∧ Kept W w') := Lib.hid (fun W hW => app_wr A n c xs ⟨id, frm, kno, sort, num, den, off⟩ hlt hso ny ys E hys hny hEe W (HT.out.kept hW))
  have C63 : RowKit.Hid (∀ W, Kept W0 W → Calls Tryz.prog 63 #[.slice A n c, .slice B hn hc, .agg #[.int .i64 9, .int .i64 1], .int .i64 0, .int .i64 0] W fun e w' => ∃ D d, e = .returned (.tuple #[.slice D no d, .int .i64 z]) ∧ HeadsA w' D no d out ∧ Wr W w' D (no * 2) ∧ Kept W w') := Lib.hid (fun W hW => fill_wr A n c xs B hn hc hs out z no hz hno HSZ.out (by omega) W (HT.out.kept hW) (HH.out.kept hW))
  have C72 : RowKit.Hid (∀ W, Kept W0 W → Calls Tryz.prog 72 #[.int .i64 100, .slice C np cp] W fun e w' => ∃ B m d, e = .returned (.tuple #[.slice B m d, .int .i64 zp]) ∧ m ≤ 60 ∧ Wr W w' B m ∧ Kept W w') := Lib.hid (fun W hW => whole_wr C np cp zs zp hzp hnp W (HI.out.kept hW))
  have C39 : RowKit.Hid (∀ D d W, TabA W D n d xs → Calls Tryz.prog 39 #[.slice D n d, .agg #[.int .i64 id, .int .i64 frm, .int .i64 kno, .string sort, .int .i64 num, .int .i64 den, .int .i64 off]] W fun e w' => ∃ B d, e = .returned (.tuple #[.slice B ny d, .int .i64 E]) ∧ TabA w' B ny d ys ∧ Kept W w') := Lib.hid (fun D d W hW => rapp_out D n d xs ⟨id, frm, kno, sort, num, den, off⟩ hlt hso ny ys E hys hny hEe W hW)
  have C64 : RowKit.Hid (∀ D d D' d' W, TabA W D n d xs → HeadsA W D' hn d' hs → Calls Tryz.prog 64 #[.slice D n d, .slice D' hn d', .agg #[.int .i64 9, .int .i64 1], .int .i64 0, .int .i64 0] W fun e w' => ∃ D d, e = .returned (.tuple #[.slice D no d, .int .i64 z]) ∧ HeadsA w' D no d out ∧ Kept W w') := Lib.hid (fun D d D' d' W hW hW' => rfill_out D n d xs D' hn d' hs out z no hz hno HSZ.out W hW hW')
  clear hys hny hEe hz hno hzp
  go_enter Tryz.func18, Tryz.ntmps18
  go_upto_region 1 with (fail)
  rw [← HW.out]
  go_wp2_with fail
  refine (HF.out _).mono ?_
  rintro e w1 ⟨rfl, rfl⟩
  go_wp2_with fail
  refine (HSH.out _ (Kept.refl _)).mono ?_
  rintro e w2 ⟨rfl, hk2⟩
  have K2 := Lib.hid hk2
  clear hk2
  have rr := R0.out.kept K2.out
  have a3 := (rr 3 _ rfl).1
  have la := cell_lt a3
  clear rr
  have HN7 : RowKit.Hid (0 < n → ∃ ad, A = some ad ∧ ∀ j u, (flat7 xs)[j]? = some u → (w2.alloc (.cells #[] 37)).cell? (ad.add j) = some u) := Lib.hid (fun hn => by
    obtain ⟨b, of, e, ht⟩ := HT.out.2.2.2.2 hn
    exact ⟨⟨b, of, none⟩, e, (ht.kept (K2.out.alloc _)).news⟩)
  have HL7 : RowKit.Hid ((flat7 xs).length = n * 7) := Lib.hid (by rw [flat_len, HT.out.1])
  have HM7 : RowKit.Hid (n ≤ maxLen ∧ n * 64 ≤ 140737488355328) := Lib.hid (by simp only [maxLen]; omega)
  have HN8 : RowKit.Hid (∀ W, Kept W0 W → 0 < hn → ∃ ad, B = some ad ∧ ∀ j u, (hdFlat hs)[j]? = some u → (W.alloc (.cells #[] 84)).cell? (ad.add j) = some u) := Lib.hid (fun W hW h0 => by
    have h := HH.out.kept (hW.alloc (.cells #[] 84))
    obtain ⟨b, of, e, _⟩ := h.2.2.2.2 h0
    rw [e] at h
    exact ⟨⟨b, of, none⟩, e, heads_news h h0⟩)
  have HL8 : RowKit.Hid ((hdFlat hs).length = hn * 2) := Lib.hid (by rw [hdFlat_len, HH.out.1])
  have HM8 : RowKit.Hid (hn ≤ maxLen ∧ hn * 24 ≤ 140737488355328) := Lib.hid (by simp only [maxLen]; omega)
  have HN3 : RowKit.Hid (∀ W, Kept W0 W → 0 < np → ∃ ad, C = some ad ∧ ∀ j u, (intsV zs)[j]? = some u → (W.alloc (.cells #[] 3)).cell? (ad.add j) = some u) := Lib.hid (fun W hW h0 => ints_news (HI.out.kept (hW.alloc _)) h0)
  have HL3 : RowKit.Hid ((intsV zs).length = np * 1) := Lib.hid (by rw [intsV_len, HI.out.1, Nat.mul_one])
  have HM3 : RowKit.Hid (np ≤ maxLen ∧ np * 8 ≤ 140737488355328) := Lib.hid (by simp only [maxLen]; omega)
  go_wp2_with (first
    | (at_builtin; refine wpList_copy w2 _ (by rfl) (.tmp 51) (.tmp 52) 35 (by rfl) 37 i7 _ 7 64 Tryz.underlying35 hi7 hy70 hy71 hy72 rfl (by decide) (by rfl) (by rfl) A n c (flat7 xs) (by rfl) HL7.out HN7.out (flat_one xs) HM7.out.1 HM7.out.2 ?_; intro B9 d9 w3 hown3 hk3; have T9 := Lib.hid (own_tabA hown3 HT.out.1 HT.out.2.2.2.1); have K3 := Lib.hid (K2.out.trans hk3); clear hown3 hk3 a3 la)
    | (at_builtin; refine wpList_copy w3 _ (by rfl) (.tmp 54) (.tmp 55) 61 (by rfl) 84 i8 _ 2 24 Tryz.underlying61 hi8 hy80 hy81 hy82 rfl (by decide) (by rfl) (by rfl) B hn hc (hdFlat hs) (by rfl) HL8.out (HN8.out _ K3.out) (flH_one hs) HM8.out.1 HM8.out.2 ?_; intro B10 d10 w4 hown4 hk4; have H10 := Lib.hid (own_headsA hown4 HH.out.1 HH.out.2.2.2.1); have K4 := Lib.hid (K3.out.trans hk4); have T9b := Lib.hid (T9.out.kept hk4); clear hown4 hk4)
    | (at_builtin; refine wpList_copy w4 _ (by rfl) (.tmp 57) (.tmp 58) 55 (by rfl) 3 i3 _ 1 8 Tryz.underlying55 hi3 hy30 hy31 hy32 rfl (by decide) (by rfl) (by rfl) C np cp (intsV zs) (by rfl) HL3.out (HN3.out _ K4.out) (ints_one zs) HM3.out.1 HM3.out.2 ?_; intro B11 d11 w5 hown5 hk5; have K5 := Lib.hid (K4.out.trans hk5); have I11 := Lib.hid (own_intsA hown5 HI.out.1 HI.out.2.2.2.1); have H10b := Lib.hid (H10.out.kept hk5); have T9c := Lib.hid (T9b.out.kept hk5); have rr := R0.out.kept K5.out; have a0 := (rr 0 _ rfl).1; have a1 := (rr 1 _ rfl).1; have a2 := (rr 2 _ rfl).1; have a3 := (rr 3 _ rfl).1; have a4 := (rr 4 _ rfl).1; have a5 := (rr 5 _ rfl).1; have a6 := (rr 6 _ rfl).1; have la := cell_lt a0; clear rr hown5 hk5))
  refine (C38.out _ K5.out).mono ?_
  rintro e w6 ⟨B12, c12, rfl, ht6, hw6, hk6⟩
  have hc12 := ht6.2.1
  have hm12 := ht6.2.2.1
  have HW6 := Lib.hid hw6
  have HK6 := Lib.hid hk6
  clear ht6 hw6 hk6
  clear a0 a1 a2 a3 a4 a5 a6 la
  go_wp2_with fail
  go_loopw [68] (fun i wr => ∃ k : Nat, k ≤ ny ∧ i = .int .i64 k ∧ Wr w5 wr B12 (ny * 7) ∧ Kept w5 wr) (fun i _ => ny - (intOf i).toNat)
  case atStart => exact ⟨0, by omega, by first | rfl | go_num, HW6.out, HK6.out⟩
  case round =>
    obtain ⟨k1, hk, rfl, hwr, hkr⟩ := hrel
    by_cases hltk1 : k1 < ny
    · obtain ⟨g, vs, hB, hg, hvl, hrow⟩ := hwr (by omega)
      subst hB
      obtain ⟨v0, hv0⟩ : ∃ v, vs[k1 * 7]? = some v := ⟨_, List.getElem?_eq_getElem (by omega)⟩
      obtain ⟨v1, hv1⟩ : ∃ v, vs[k1 * 7 + 1]? = some v := ⟨_, List.getElem?_eq_getElem (by omega)⟩
      obtain ⟨v2, hv2⟩ : ∃ v, vs[k1 * 7 + 2]? = some v := ⟨_, List.getElem?_eq_getElem (by omega)⟩
      obtain ⟨v3, hv3⟩ : ∃ v, vs[k1 * 7 + 3]? = some v := ⟨_, List.getElem?_eq_getElem (by omega)⟩
      obtain ⟨v4, hv4⟩ : ∃ v, vs[k1 * 7 + 4]? = some v := ⟨_, List.getElem?_eq_getElem (by omega)⟩
      obtain ⟨v5, hv5⟩ : ∃ v, vs[k1 * 7 + 5]? = some v := ⟨_, List.getElem?_eq_getElem (by omega)⟩
      obtain ⟨v6, hv6⟩ : ∃ v, vs[k1 * 7 + 6]? = some v := ⟨_, List.getElem?_eq_getElem (by omega)⟩
      obtain ⟨t0, s0⟩ := hrow _ _ hv0
      obtain ⟨t1, s1⟩ := hrow _ _ hv1
      obtain ⟨t2, s2⟩ := hrow _ _ hv2
      obtain ⟨t3, s3⟩ := hrow _ _ hv3
      obtain ⟨t4, s4⟩ := hrow _ _ hv4
      obtain ⟨t5, s5⟩ := hrow _ _ hv5
      obtain ⟨t6, s6⟩ := hrow _ _ hv6
      have hgl := cell_lt t0
      have hbz := hkr.size
      have i0 : (0 : Int) ≤ (k1 : Int) := by omega
      have i1 : (k1 : Int) < (ny : Int) := by omega
      have HROW := Lib.hid hrow
      have HKR := Lib.hid hkr
      clear hrow hwr hkr hv0 hv1 hv2 hv3 hv4 hv5 hv6
      go_wp2
      go_roundw
      case rel => exact ⟨k1 + 1, by omega, by go_num, fun _ => ⟨g, _, rfl, hg, by simp only [List.length_set]; exact hvl, (((((((HROW.out.put (j := k1 * 7) (by first | omega | (simp only [List.length_set]; omega)) (.int .i64 0)).put (j := k1 * 7 + 1) (by first | omega | (simp only [List.length_set]; omega)) (.int .i64 0)).put (j := k1 * 7 + 2) (by first | omega | (simp only [List.length_set]; omega)) (.int .i64 0)).put (j := k1 * 7 + 3) (by first | omega | (simp only [List.length_set]; omega)) (.string ByteArray.empty)).put (j := k1 * 7 + 4) (by first | omega | (simp only [List.length_set]; omega)) (.int .i64 0)).put (j := k1 * 7 + 5) (by first | omega | (simp only [List.length_set]; omega)) (.int .i64 0)).put (j := k1 * 7 + 6) (by first | omega | (simp only [List.length_set]; omega)) (.int .i64 0))⟩, (((((((HKR.out.setCell (by show _ ≤ g; omega) _).setCell (by show _ ≤ g; omega) _).setCell (by show _ ≤ g; omega) _).setCell (by show _ ≤ g; omega) _).setCell (by show _ ≤ g; omega) _).setCell (by show _ ≤ g; omega) _).setCell (by show _ ≤ g; omega) _)⟩
      case measure => simp [intOf]; omega
    · have hge : decide ((k1 : Int) < (ny : Int)) = false := decide_eq_false (by omega)
      obtain ⟨wa, hwn⟩ : ∃ x, x = wr := ⟨_, rfl⟩
      subst hwn
      have SA := Lib.hid hkr
      clear hwr hkr
      go_wp2_with fail
      refine (C63.out _ (K5.out.trans SA.out)).mono ?_
      rintro e w7 ⟨B15, c15, rfl, ht7, hw7, hk7⟩
      have hc15 := ht7.2.1
      have hm15 := ht7.2.2.1
      have HW7 := Lib.hid hw7
      have HK7 := Lib.hid hk7
      clear ht7 hw7 hk7
      go_wp2_with fail
      go_loopw [85] (fun i wr => ∃ k : Nat, k ≤ no ∧ i = .int .i64 k ∧ Wr wa wr B15 (no * 2) ∧ Kept wa wr) (fun i _ => no - (intOf i).toNat)
      case atStart => exact ⟨0, by omega, by first | rfl | go_num, HW7.out, HK7.out⟩
      case round =>
        obtain ⟨k2, hk, rfl, hwr, hkr⟩ := hrel
        by_cases hltk2 : k2 < no
        · obtain ⟨g, vs, hB, hg, hvl, hrow⟩ := hwr (by omega)
          subst hB
          obtain ⟨v0, hv0⟩ : ∃ v, vs[k2 * 2]? = some v := ⟨_, List.getElem?_eq_getElem (by omega)⟩
          obtain ⟨v1, hv1⟩ : ∃ v, vs[k2 * 2 + 1]? = some v := ⟨_, List.getElem?_eq_getElem (by omega)⟩
          obtain ⟨t0, s0⟩ := hrow _ _ hv0
          obtain ⟨t1, s1⟩ := hrow _ _ hv1
          have hgl := cell_lt t0
          have hbz := hkr.size
          have i0 : (0 : Int) ≤ (k2 : Int) := by omega
          have i1 : (k2 : Int) < (no : Int) := by omega
          have HROW := Lib.hid hrow
          have HKR := Lib.hid hkr
          clear hrow hwr hkr hv0 hv1
          go_wp2
          go_roundw
          case rel => exact ⟨k2 + 1, by omega, by go_num, fun _ => ⟨g, _, rfl, hg, by simp only [List.length_set]; exact hvl, ((HROW.out.put (j := k2 * 2) (by first | omega | (simp only [List.length_set]; omega)) (.string ByteArray.empty)).put (j := k2 * 2 + 1) (by first | omega | (simp only [List.length_set]; omega)) (.int .i64 0))⟩, ((HKR.out.setCell (by show _ ≤ g; omega) _).setCell (by show _ ≤ g; omega) _)⟩
          case measure => simp [intOf]; omega
        · have hge : decide ((k2 : Int) < (no : Int)) = false := decide_eq_false (by omega)
          obtain ⟨wb, hwn⟩ : ∃ x, x = wr := ⟨_, rfl⟩
          subst hwn
          have SB := Lib.hid (SA.out.trans hkr)
          clear hwr hkr
          go_wp2_with fail
          refine (C72.out _ (K5.out.trans SB.out)).mono ?_
          rintro e w8 ⟨B18, nw, c18, rfl, hm18, hw8, hk8⟩
          have HW8 := Lib.hid hw8
          have HK8 := Lib.hid hk8
          clear hw8 hk8
          go_wp2_with fail
          go_loopw [100] (fun i wr => ∃ k : Nat, k ≤ nw ∧ i = .int .i64 k ∧ Wr wb wr B18 (nw) ∧ Kept wb wr) (fun i _ => nw - (intOf i).toNat)
          case atStart => exact ⟨0, by omega, by first | rfl | go_num, HW8.out, HK8.out⟩
          case round =>
            obtain ⟨k3, hk, rfl, hwr, hkr⟩ := hrel
            by_cases hltk3 : k3 < nw
            · obtain ⟨g, vs, hB, hg, hvl, hrow⟩ := hwr (by omega)
              subst hB
              obtain ⟨v0, hv0⟩ : ∃ v, vs[k3]? = some v := ⟨_, List.getElem?_eq_getElem (by omega)⟩
              obtain ⟨t0, s0⟩ := hrow _ _ hv0
              have hgl := cell_lt t0
              have hbz := hkr.size
              have i0 : (0 : Int) ≤ (k3 : Int) := by omega
              have i1 : (k3 : Int) < (nw : Int) := by omega
              have HROW := Lib.hid hrow
              have HKR := Lib.hid hkr
              clear hrow hwr hkr hv0
              go_wp2
              go_roundw
              case rel => exact ⟨k3 + 1, by omega, by go_num, fun _ => ⟨g, _, rfl, hg, by simp only [List.length_set]; exact hvl, (HROW.out.put (j := k3) (by first | omega | (simp only [List.length_set]; omega)) (.int .i64 (-1)))⟩, (HKR.out.setCell (by show _ ≤ g; omega) _)⟩
              case measure => simp [intOf]; omega
            · have hge : decide ((k3 : Int) < (nw : Int)) = false := decide_eq_false (by omega)
              obtain ⟨wc, hwn⟩ : ∃ x, x = wr := ⟨_, rfl⟩
              subst hwn
              have SC := Lib.hid (SB.out.trans hkr)
              clear hwr hkr
              have rr := R0.out.kept (K5.out.trans SC.out)
              have a0 := (rr 0 _ rfl).1
              have a1 := (rr 1 _ rfl).1
              have a2 := (rr 2 _ rfl).1
              have a3 := (rr 3 _ rfl).1
              have a4 := (rr 4 _ rfl).1
              have a5 := (rr 5 _ rfl).1
              have a6 := (rr 6 _ rfl).1
              have la := cell_lt a0
              clear rr
              go_wp2_with fail
              refine (C38.out _ (K5.out.trans SC.out)).mono ?_
              rintro e w9 ⟨B21, c21, rfl, ht9, _, hk9⟩
              have SD := Lib.hid (SC.out.trans hk9)
              have T21 := Lib.hid ht9
              clear ht9 hk9
              clear a0 a1 a2 a3 a4 a5 a6 la
              have rr := R0.out.kept (K5.out.trans SD.out)
              have a0 := (rr 0 _ rfl).1
              have a1 := (rr 1 _ rfl).1
              have a2 := (rr 2 _ rfl).1
              have a3 := (rr 3 _ rfl).1
              have a4 := (rr 4 _ rfl).1
              have a5 := (rr 5 _ rfl).1
              have a6 := (rr 6 _ rfl).1
              have la := cell_lt a0
              clear rr
              go_wp2_with fail
              refine (C39.out _ _ _ (T9c.out.kept SD.out)).mono ?_
              rintro e w10 ⟨B23, c23, rfl, ht10, hk10⟩
              have SE := Lib.hid (SD.out.trans hk10)
              have T21b := Lib.hid (T21.out.kept hk10)
              have T23 := Lib.hid ht10
              clear ht10 hk10
              clear a0 a1 a2 a3 a4 a5 a6 la
              go_wp2_with fail
              refine (C63.out _ (K5.out.trans SE.out)).mono ?_
              rintro e w11 ⟨B25, c25, rfl, ht11, _, hk11⟩
              have SF := Lib.hid (SE.out.trans hk11)
              have KF := Lib.hid hk11
              have H25 := Lib.hid ht11
              clear ht11 hk11
              go_wp2_with fail
              refine (C64.out _ _ _ _ _ (T9c.out.kept SF.out) (H10b.out.kept SF.out)).mono ?_
              rintro e w12 ⟨B27, c27, rfl, ht12, hk12⟩
              have SG := Lib.hid (SF.out.trans hk12)
              have KG := Lib.hid (KF.out.trans hk12)
              have H25b := Lib.hid (H25.out.kept hk12)
              have H27 := Lib.hid ht12
              clear ht12 hk12
              go_wp2_with fail
              refine (C72.out _ (K5.out.trans SG.out)).mono ?_
              rintro e w13 ⟨B29, n29, c29, rfl, _, _, hk13⟩
              have SH := Lib.hid (SG.out.trans hk13)
              have KH := Lib.hid (KG.out.trans hk13)
              have LH := Lib.hid hk13
              clear hk13
              have C44 : RowKit.Hid (∀ W, Kept w13 W → Calls Tryz.prog 44 #[.slice B21 ny c21, .slice B23 ny c23] W fun e w' => e = .returned (.bool true) ∧ Kept W w') := Lib.hid (fun W hW => sameE_any B21 B23 ny c21 c23 ys W (T21b.out.kept (KH.out.trans hW)) (T23.out.kept (KH.out.trans hW)))
              have C65 : RowKit.Hid (∀ W, Kept w13 W → Calls Tryz.prog 65 #[.slice B25 no c25, .slice B27 no c27] W fun e w' => e = .returned (.bool true) ∧ Kept W w') := Lib.hid (fun W hW => sameHeads_any B25 B27 no c25 c27 out W (H25b.out.kept (LH.out.trans hW)) (H27.out.kept (LH.out.trans hW)))
              have D44 : RowKit.Hid (∀ W, Kept w13 W → Calls Tryz.prog 44 #[.slice A n c, .slice B9 n d9] W fun e w' => e = .returned (.bool true) ∧ Kept W w') := Lib.hid (fun W hW => sameE_any A B9 n c d9 xs W (HT.out.kept (K5.out.trans (SH.out.trans hW))) (T9c.out.kept (SH.out.trans hW)))
              have D65 : RowKit.Hid (∀ W, Kept w13 W → Calls Tryz.prog 65 #[.slice B hn hc, .slice B10 hn d10] W fun e w' => e = .returned (.bool true) ∧ Kept W w') := Lib.hid (fun W hW => sameHeads_any B B10 hn hc d10 hs W (HH.out.kept (K5.out.trans (SH.out.trans hW))) (H10b.out.kept (SH.out.trans hW)))
              have C81 : RowKit.Hid (∀ W, Kept w13 W → Calls Tryz.prog 81 #[.slice C np cp, .slice B11 np d11] W fun e w' => e = .returned (.bool true) ∧ Kept W w') := Lib.hid (fun W hW => sameInts_any C B11 np cp d11 zs W (HI.out.kept (K5.out.trans (SH.out.trans hW))) (I11.out.kept (SH.out.trans hW)))
              go_wp2_with fail
              refine (alive_any _ (HE.out.kept (K5.out.trans SH.out))).mono ?_
              rintro e w14 ⟨rfl, hk14⟩
              have L14 := Lib.hid hk14
              clear hk14
              go_wp2_with fail
              refine (C44.out _ L14.out).mono ?_
              rintro e w15 ⟨rfl, hk15⟩
              have L15 := Lib.hid (L14.out.trans hk15)
              clear hk15
              go_wp2_with fail
              refine (C65.out _ L15.out).mono ?_
              rintro e w16 ⟨rfl, hk16⟩
              have L16 := Lib.hid (L15.out.trans hk16)
              clear hk16
              go_wp2_with fail
              refine (D44.out _ L16.out).mono ?_
              rintro e w17 ⟨rfl, hk17⟩
              have L17 := Lib.hid (L16.out.trans hk17)
              clear hk17
              go_wp2_with fail
              refine (D65.out _ L17.out).mono ?_
              rintro e w18 ⟨rfl, hk18⟩
              have L18 := Lib.hid (L17.out.trans hk18)
              clear hk18
              go_wp2_with fail
              refine (C81.out _ L18.out).mono ?_
              rintro e w19 ⟨rfl, hk19⟩
              have L19 := Lib.hid (L18.out.trans hk19)
              clear hk19
              go_wp2
              go_ret
              exact ⟨by first | rfl | (simp; done), K0.out.trans (K5.out.trans (SH.out.trans L19.out))⟩
end Go.Proofs.YtcjpecdnenemaaaGreatDoor

namespace Go.Proofs.YtcjpecdnenemaaaGreatDoor
set_option linter.all false
open Go.ChangeShapes Go.WideShapes Go.RowKit Go.Deep

section
variable {H : Type} {enc : TypeId × Value → H} {P : Program} {w : World} {base : Nat} {spare : Nat → Bool} {held : Bool}
/-- a slice of structs of one-cell fields, element by element and field by field -/
theorem open_slice_fields {t e : TypeId} {fs : Array Field} {fuel : Nat} {cs : List Value} {x : DataW H × List MemPlace} (ht : P.underlying t = some (.slice e)) (he : P.underlying e = some (.struct fs))
    (hone : oneCellFields P fs = true) (hC : P.cellsOf e = fs.size) (h : DataW.trod enc P w base spare held fuel t cs = some x) :
    (cs = [.slice none 0 0] ∧ x = (.nil, [])) ∨
    ∃ (a : Addr) (len cap m : Nat), cs = [.slice (some a) len cap] ∧ len ≤ cap ∧ cap ≤ maxLen ∧ len ≤ m ∧
      ∀ i, i < m → ∃ (ys : List (DataW H × List MemPlace)) (n : Nat), ys.length = fs.size ∧
        ∀ (j : Nat) (f : Field), fs[j]? = some f → ∃ (v : Value) (y : DataW H × List MemPlace), w.cell? (a.add (i * fs.size + j)) = some v ∧ ys[j]? = some y ∧ DataW.trod enc P w base spare held n f.type [v] = some y := by
  rcases open_slice ht h with h0 | ⟨a, len, cap, m, n, D, Pl, hcs, hb, hl, hm, hmm, hx, hi⟩
  · exact .inl h0
  · refine .inr ⟨a, len, cap, m, hcs, hl, hm, by rw [hmm]; split <;> omega, fun i him => ?_⟩
    obtain ⟨cs', hc, ht'⟩ := hi i him
    rw [hC] at hc
    obtain ⟨ys, n', hn', hy, hlen, hyl, hf⟩ := DataW.trod_struct he ht'
    obtain ⟨_, hcl, hat⟩ := World.cells?_some hc
    refine ⟨ys, n', hyl, fun j f hj => ?_⟩
    obtain ⟨ho, hk⟩ := hone_of hone j f hj
    have hjl : j < fs.size := (Array.getElem?_eq_some_iff.1 hj).1
    have hcell := hat j hjl
    have hv : cs'[j]? = some (cs'[j]'(by omega)) := List.getElem?_eq_getElem (by omega)
    have h1 := hf j f hj
    rw [ho, hk] at h1
    have hone' : (cs'.drop j).take 1 = [cs'[j]'(by omega)] := by
      rw [List.drop_eq_getElem_cons (by omega)]
      rfl
    rw [hone'] at h1
    have hys : ys[j]? = some (ys[j]'(by omega)) := List.getElem?_eq_getElem (by omega)
    refine ⟨_, _, ?_, hys, h1.trans hys⟩
    rw [← Go.Deep.add_add, hcell, hv]
/-- the arguments read behind the call as before it -/
theorem args_stay : ∀ (ts : List TypeId) (vs : List Value) (ds : List (DataW H)) (ps : List MemPlace) {W W' : World}, laidOutB P = true → (ts.all fun t => P.readableRec t && decide (t < P.types.size)) = true →
    DataW.TrodAll enc P W 0 (fun _ => true) true ts vs ds ps → Below W.heap.size W W' → (∀ x ∈ ps, x.block < W.heap.size) → DataW.TrodAll enc P W' 0 (fun b => decide (b < W.heap.size)) true ts vs ds ps
  | [], vs, ds, ps, W, W', hl, hr, h, hb, hp => by
    obtain ⟨rfl, rfl, rfl⟩ := trodAll_nil h
    exact trodAll_mk0
  | t :: ts, vs, ds, ps, W, W', hl, hr, h, hb, hp => by
    obtain ⟨v, vs', d, ds', p, q, rfl, rfl, rfl, hd, hrest⟩ := trodAll_cons h
    simp only [List.all_cons, Bool.and_eq_true, decide_eq_true_eq] at hr
    exact ⟨p, q, Below.trod hl hr.1.1 hr.1.2 hd hb (fun x hx => hp x (List.mem_append_left _ hx)), args_stay ts vs' ds' q hl hr.2 hrest hb (fun x hx => hp x (List.mem_append_right _ hx)), rfl⟩
end

theorem addr_at {w : World} {a : Addr} {v : Value} (h : w.cell? a = some v) : a = ⟨a.block, a.off, none⟩ := by
  have := World.cell?_spot h
  cases a
  simp_all
set_option maxRecDepth 1000000 in
theorem fracs_open {H : Type} {enc : TypeId × Value → H} {W : World} {base : Nat} {sp : Nat → Bool} {held : Bool} {b0 : Nat} {v : Value} {d : DataW H} {p : List MemPlace}
    (hv : Value.okWide Tryz.prog W .any b0 32 v) (h : DataW.Trod enc Tryz.prog W base sp held 32 v d p) :
    ∃ A n c es, v = .slice A n c ∧ FracsA W A n c es := by
  obtain ⟨A0, n0, c0, rfl⟩ := okWide_slice Tryz.underlying32 hv
  obtain ⟨fuel, hf⟩ := h
  rcases open_slice_fields Tryz.underlying32 Tryz.underlying23 (by kernel_rfl) cells23 hf with ⟨h0, _⟩ | ⟨a, len, cap, m, hcs, hl, hm, hlm, hi⟩
  · simp only [Value.cells] at h0
    obtain ⟨rfl, rfl, rfl⟩ : A0 = none ∧ n0 = 0 ∧ c0 = 0 := by simpa using h0
    exact ⟨none, 0, 0, [], rfl, rfl, by omega, by omega, fun h => by omega⟩
  · simp only [Value.cells] at hcs
    obtain ⟨rfl, rfl, rfl⟩ : A0 = some a ∧ n0 = len ∧ c0 = cap := by simpa using hcs
    have key : ∀ i, i < n0 → ∃ q : Int × Int, W.cell? (a.add (i * 2)) = some (.int .i64 q.1) ∧ W.cell? (a.add (i * 2 + 1)) = some (.int .i64 q.2) := by
      intro i hin
      obtain ⟨ys, k, _, hfld⟩ := hi i (by omega)
      obtain ⟨v1, y1, hc1, _, ht1⟩ := hfld 0 _ rfl
      obtain ⟨v2, y2, hc2, _, ht2⟩ := hfld 1 _ rfl
      obtain ⟨x1, e1, _⟩ := DataW.trod_int Tryz.underlying3 ht1
      obtain ⟨x2, e2, _⟩ := DataW.trod_int Tryz.underlying3 ht2
      obtain rfl : v1 = .int .i64 x1 := by simpa using e1
      obtain rfl : v2 = .int .i64 x2 := by simpa using e2
      exact ⟨(x1, x2), hc1, hc2⟩
    obtain ⟨q, hq⟩ := choose_lt key
    refine ⟨some a, n0, c0, (List.range n0).map q, rfl, by simp, hl, by simpa [maxLen] using hm, fun hn => ?_⟩
    have h0 := (hq 0 hn).1
    have ea : a.add (0 * 2) = a := by simp [Addr.add]
    rw [ea] at h0
    have hA := addr_at h0
    refine ⟨a.block, a.off, congrArg some hA, fun i p hp => ?_⟩
    have hin : i < n0 := by
      have := (List.getElem?_eq_some_iff.1 hp).1
      simpa using this
    have e : p = q i := by
      rw [List.getElem?_map, List.getElem?_range hin] at hp
      simpa using hp.symm
    subst e
    obtain ⟨c1, c2⟩ := hq i hin
    rw [hA, add_plain] at c1 c2
    exact ⟨c1, c2⟩
end Go.Proofs.YtcjpecdnenemaaaGreatDoor

namespace Go.Proofs.YtcjpecdnenemaaaGreatDoor
set_option linter.all false
open Go.ChangeShapes Go.WideShapes Go.RowKit Go.Deep

theorem cells37 : Tryz.prog.cellsOf 37 = 7 := by kernel_rfl
theorem cells3 : Tryz.prog.cellsOf 3 = 1 := by kernel_rfl
theorem cells9 : Tryz.prog.cellsOf 9 = 1 := by kernel_rfl
set_option maxRecDepth 1000000 in
/-- a record's cells, read -/
theorem eq_read {H : Type} {enc : TypeId × Value → H} {W : World} {base : Nat} {sp : Nat → Bool} {held : Bool} {fuel : Nat} {cs : List Value} {x : DataW H × List MemPlace}
    (h : DataW.trod enc Tryz.prog W base sp held fuel 37 cs = some x) : ∃ e : Eqv, cs = eqCells e ∧ e.sort.size ≤ 9223372036854775807 := by
  obtain ⟨xs, n, _, _, hl, hlen, hf⟩ := DataW.trod_struct Tryz.underlying37 h
  rw [cells37] at hl
  match cs, hl with
  | [c0, c1, c2, c3, c4, c5, c6], _ =>
    match xs, hlen with
    | [y0, y1, y2, y3, y4, y5], _ =>
      have h0 := hf 0 _ rfl
      have h1 := hf 1 _ rfl
      have h2 := hf 2 _ rfl
      have h3 := hf 3 _ rfl
      have h4 := hf 4 _ rfl
      have h5 := hf 5 _ rfl
      simp only [cells3, cells9, cells23, List.drop_zero, List.drop_succ_cons, List.take_succ_cons, List.take_zero, List.getElem?_cons_zero, List.getElem?_cons_succ] at h0 h1 h2 h3 h4 h5
      obtain ⟨x0, e0, _⟩ := DataW.trod_int Tryz.underlying3 h0
      obtain ⟨x1, e1, _⟩ := DataW.trod_int Tryz.underlying3 h1
      obtain ⟨x2, e2, _⟩ := DataW.trod_int Tryz.underlying3 h2
      obtain ⟨x3, e3, _, hm⟩ := DataW.trod_string Tryz.underlying9 h3
      obtain ⟨x6, e6, _⟩ := DataW.trod_int Tryz.underlying3 h5
      obtain ⟨z0, z1, k, _, _, g0, g1⟩ := trod_struct2 Tryz.underlying23 h4
      simp only [cells3, List.drop_zero, List.drop_succ_cons, List.take_succ_cons, List.take_zero] at g0 g1
      obtain ⟨x4, e4, _⟩ := DataW.trod_int Tryz.underlying3 g0
      obtain ⟨x5, e5, _⟩ := DataW.trod_int Tryz.underlying3 g1
      refine ⟨⟨x0, x1, x2, x3, x4, x5, x6⟩, ?_, by simpa [maxLen] using hm⟩
      injection e0 with e0
      injection e1 with e1
      injection e2 with e2
      injection e3 with e3
      injection e4 with e4
      injection e5 with e5
      injection e6 with e6
      rw [e0, e1, e2, e3, e4, e5, e6]
      rfl
instance : Inhabited Eqv := ⟨⟨0, 0, 0, ⟨#[]⟩, 0, 0, 0⟩⟩
set_option maxRecDepth 1000000 in
theorem str_open {H : Type} {enc : TypeId × Value → H} {W : World} {base : Nat} {sp : Nat → Bool} {held : Bool} {b0 : Nat} {v : Value} {d : DataW H} {p : List MemPlace}
    (hv : Value.okWide Tryz.prog W .any b0 9 v) (h : DataW.Trod enc Tryz.prog W base sp held 9 v d p) : ∃ s : ByteArray, v = .string s ∧ s.size ≤ 9223372036854775807 := by
  obtain ⟨s0, rfl⟩ := okWide_string Tryz.underlying9 hv
  obtain ⟨fuel, hf⟩ := h
  obtain ⟨s, hs, _, hm⟩ := DataW.trod_string Tryz.underlying9 hf
  have e : s0 = s := by simpa [Value.cells] using hs
  subst e
  exact ⟨s0, rfl, by simpa [maxLen] using hm⟩
set_option maxRecDepth 1000000 in
theorem equal_open {H : Type} {enc : TypeId × Value → H} {W : World} {base : Nat} {sp : Nat → Bool} {held : Bool} {b0 : Nat} {v : Value} {d : DataW H} {p : List MemPlace}
    (hv : Value.okWide Tryz.prog W .any b0 37 v) (h : DataW.Trod enc Tryz.prog W base sp held 37 v d p) : ∃ e : Eqv, v = eqV e ∧ e.sort.size ≤ 9223372036854775807 := by
  obtain ⟨cs, rfl, hsz⟩ := okWide_struct Tryz.underlying37 hv
  obtain ⟨fuel, hf⟩ := h
  obtain ⟨e, he, hs⟩ := eq_read hf
  refine ⟨e, ?_, hs⟩
  simp only [Value.cells] at he
  cases cs
  simp only at he
  subst he
  rfl
set_option maxRecDepth 1000000 in
theorem table_open {H : Type} {enc : TypeId × Value → H} {W : World} {base : Nat} {sp : Nat → Bool} {held : Bool} {b0 : Nat} {v : Value} {d : DataW H} {p : List MemPlace}
    (hv : Value.okWide Tryz.prog W .any b0 35 v) (h : DataW.Trod enc Tryz.prog W base sp held 35 v d p) :
    ∃ A n c xs, v = .slice A n c ∧ TabA W A n c xs := by
  obtain ⟨A0, n0, c0, rfl⟩ := okWide_slice Tryz.underlying35 hv
  obtain ⟨fuel, hf⟩ := h
  rcases open_slice Tryz.underlying35 hf with ⟨h0, _⟩ | ⟨a, len, cap, m, n, D, Pl, hcs, hb, hl, hm, hmm, hx, hi⟩
  · simp only [Value.cells] at h0
    obtain ⟨rfl, rfl, rfl⟩ : A0 = none ∧ n0 = 0 ∧ c0 = 0 := by simpa using h0
    exact ⟨none, 0, 0, [], rfl, rfl, by omega, by omega, fun x hx => (by cases hx), fun h => by omega⟩
  · simp only [Value.cells] at hcs
    obtain ⟨rfl, rfl, rfl⟩ : A0 = some a ∧ n0 = len ∧ c0 = cap := by simpa using hcs
    have hlm : n0 ≤ m := by rw [hmm]; split <;> omega
    have key : ∀ i, i < n0 → ∃ e : Eqv, (∀ j v, (eqCells e)[j]? = some v → W.cell? ((a.add (i * 7)).add j) = some v) ∧ e.sort.size ≤ 9223372036854775807 := by
      intro i hin
      obtain ⟨cs', hc, ht⟩ := hi i (by omega)
      rw [cells37] at hc
      obtain ⟨e, he, hs⟩ := eq_read ht
      obtain ⟨_, hcl, hat⟩ := World.cells?_some hc
      refine ⟨e, fun j v hj => ?_, hs⟩
      subst he
      have hjl := (List.getElem?_eq_some_iff.1 hj).1
      have := hat j (by simpa [eqCells] using hjl)
      rw [this, hj]
    obtain ⟨q, hq⟩ := choose_lt key
    refine ⟨some a, n0, c0, (List.range n0).map q, rfl, by simp, hl, by simpa [maxLen] using hm, fun x hx => ?_, fun hn => ?_⟩
    · rw [List.mem_map] at hx
      obtain ⟨i, hir, rfl⟩ := hx
      exact (hq i (List.mem_range.1 hir)).2
    · have h0 := (hq 0 hn).1 0 _ rfl
      have ea : (a.add (0 * 7)).add 0 = a := by simp [Addr.add]
      rw [ea] at h0
      have hA := addr_at h0
      refine ⟨a.block, a.off, congrArg some hA, fun i p hp => ?_⟩
      have hin : i < n0 := by
        have := (List.getElem?_eq_some_iff.1 hp).1
        simpa using this
      have e : p = q i := by
        rw [List.getElem?_map, List.getElem?_range hin] at hp
        simpa using hp.symm
      subst e
      have c := (hq i hin).1
      rw [hA, add_plain] at c
      exact ⟨c 0 _ rfl, c 1 _ rfl, c 2 _ rfl, c 3 _ rfl, c 4 _ rfl, c 5 _ rfl, c 6 _ rfl⟩
end Go.Proofs.YtcjpecdnenemaaaGreatDoor

namespace Go.Proofs.YtcjpecdnenemaaaGreatDoor
set_option linter.all false
open Go.ChangeShapes Go.WideShapes Go.RowKit Go.Deep

theorem cells84 : Tryz.prog.cellsOf 84 = 2 := by kernel_rfl
theorem wf_bd3 {x : Int} (h : (Lit.int .i64 x).wf = true) : -9223372036854775808 ≤ x ∧ x ≤ 9223372036854775807 := by
  have e1 : IntKind.i64.min = -9223372036854775808 := rfl
  have e2 : IntKind.i64.max = 9223372036854775807 := rfl
  simp [Lit.wf, e1, e2] at h
  omega
instance : Inhabited Hd := ⟨⟨⟨#[]⟩, 0⟩⟩
set_option maxRecDepth 1000000 in
theorem heads_open {H : Type} {enc : TypeId × Value → H} {W : World} {base : Nat} {sp : Nat → Bool} {held : Bool} {b0 : Nat} {v : Value} {d : DataW H} {p : List MemPlace}
    (hv : Value.okWide Tryz.prog W .any b0 61 v) (h : DataW.Trod enc Tryz.prog W base sp held 61 v d p) :
    ∃ A n c hs, v = .slice A n c ∧ HeadsA W A n c hs := by
  obtain ⟨A0, n0, c0, rfl⟩ := okWide_slice Tryz.underlying61 hv
  obtain ⟨fuel, hf⟩ := h
  rcases open_slice_fields Tryz.underlying61 Tryz.underlying84 (by kernel_rfl) cells84 hf with ⟨h0, _⟩ | ⟨a, len, cap, m, hcs, hl, hm, hlm, hi⟩
  · simp only [Value.cells] at h0
    obtain ⟨rfl, rfl, rfl⟩ : A0 = none ∧ n0 = 0 ∧ c0 = 0 := by simpa using h0
    exact ⟨none, 0, 0, [], rfl, rfl, by omega, by omega, fun x hx => (by cases hx), fun h => by omega⟩
  · simp only [Value.cells] at hcs
    obtain ⟨rfl, rfl, rfl⟩ : A0 = some a ∧ n0 = len ∧ c0 = cap := by simpa using hcs
    have key : ∀ i, i < n0 → ∃ q : Hd, (W.cell? (a.add (i * 2)) = some (.string q.sort) ∧ W.cell? (a.add (i * 2 + 1)) = some (.int .i64 q.num)) ∧ q.sort.size ≤ 9223372036854775807 ∧ -9223372036854775808 ≤ q.num ∧ q.num ≤ 9223372036854775807 := by
      intro i hin
      obtain ⟨ys, k, _, hfld⟩ := hi i (by omega)
      obtain ⟨v1, y1, hc1, _, ht1⟩ := hfld 0 _ rfl
      obtain ⟨v2, y2, hc2, _, ht2⟩ := hfld 1 _ rfl
      obtain ⟨x1, e1, _, hm1⟩ := DataW.trod_string Tryz.underlying9 ht1
      obtain ⟨x2, e2, _, hw2⟩ := DataW.trod_int Tryz.underlying3 ht2
      obtain rfl : v1 = .string x1 := by simpa using e1
      obtain rfl : v2 = .int .i64 x2 := by simpa using e2
      exact ⟨⟨x1, x2⟩, ⟨hc1, hc2⟩, by simpa [maxLen] using hm1, wf_bd3 hw2⟩
    obtain ⟨q, hq⟩ := choose_lt key
    refine ⟨some a, n0, c0, (List.range n0).map q, rfl, by simp, hl, by simpa [maxLen] using hm, fun x hx => ?_, fun hn => ?_⟩
    · rw [List.mem_map] at hx
      obtain ⟨i, hir, rfl⟩ := hx
      exact (hq i (List.mem_range.1 hir)).2
    · have h0 := (hq 0 hn).1.1
      have ea : a.add (0 * 2) = a := by simp [Addr.add]
      rw [ea] at h0
      have hA := addr_at h0
      refine ⟨a.block, a.off, congrArg some hA, fun i p hp => ?_⟩
      have hin : i < n0 := by
        have := (List.getElem?_eq_some_iff.1 hp).1
        simpa using this
      have e : p = q i := by
        rw [List.getElem?_map, List.getElem?_range hin] at hp
        simpa using hp.symm
      subst e
      obtain ⟨c1, c2⟩ := (hq i hin).1
      rw [hA, add_plain] at c1 c2
      exact ⟨c1, c2⟩
end Go.Proofs.YtcjpecdnenemaaaGreatDoor

namespace Go.Proofs.YtcjpecdnenemaaaGreatDoor
set_option linter.all false
open Go.ChangeShapes Go.WideShapes Go.RowKit Go.Deep

theorem int_read {H : Type} {enc : TypeId × Value → H} {W : World} {base : Nat} {sp : Nat → Bool} {held : Bool} {fuel : Nat} {cs : List Value} {x : DataW H × List MemPlace} (hl : cs.length = 1)
    (h : DataW.trod enc Tryz.prog W base sp held fuel 3 cs = some x) : ∃ e : Int, cs = [.int .i64 e] ∧ -9223372036854775808 ≤ e ∧ e ≤ 9223372036854775807 := by
  match cs, hl with
  | [c0], _ =>
    obtain ⟨x0, e0, _, w0⟩ := DataW.trod_int Tryz.underlying3 h
    injection e0 with e0
    exact ⟨x0, by rw [e0], wf_bd3 w0⟩
set_option maxRecDepth 1000000 in
theorem ints_open {H : Type} {enc : TypeId × Value → H} {W : World} {base : Nat} {sp : Nat → Bool} {held : Bool} {b0 : Nat} {v : Value} {d : DataW H} {p : List MemPlace}
    (hv : Value.okWide Tryz.prog W .any b0 55 v) (h : DataW.Trod enc Tryz.prog W base sp held 55 v d p) :
    ∃ A n c zs, v = .slice A n c ∧ IntsA W A n c zs := by
  obtain ⟨A0, n0, c0, rfl⟩ := okWide_slice Tryz.underlying55 hv
  obtain ⟨fuel, hf⟩ := h
  rcases open_slice Tryz.underlying55 hf with ⟨h0, _⟩ | ⟨a, len, cap, m, n, D, Pl, hcs, hb, hl, hm, hmm, hx, hi⟩
  · simp only [Value.cells] at h0
    obtain ⟨rfl, rfl, rfl⟩ : A0 = none ∧ n0 = 0 ∧ c0 = 0 := by simpa using h0
    exact ⟨none, 0, 0, [], rfl, rfl, by omega, by omega, fun x hx => (by cases hx), fun h => by omega⟩
  · simp only [Value.cells] at hcs
    obtain ⟨rfl, rfl, rfl⟩ : A0 = some a ∧ n0 = len ∧ c0 = cap := by simpa using hcs
    have hlm : n0 ≤ m := by rw [hmm]; split <;> omega
    have key : ∀ i, i < n0 → ∃ e : Int, W.cell? ((a.add (i * 1)).add 0) = some (.int .i64 e) ∧ -9223372036854775808 ≤ e ∧ e ≤ 9223372036854775807 := by
      intro i hin
      obtain ⟨cs', hc, ht⟩ := hi i (by omega)
      rw [cells3] at hc
      obtain ⟨_, hcl, hat⟩ := World.cells?_some hc
      obtain ⟨e, he, hs⟩ := int_read hcl ht
      refine ⟨e, ?_, hs⟩
      subst he
      exact hat 0 (by omega)
    obtain ⟨q, hq⟩ := choose_lt key
    refine ⟨some a, n0, c0, (List.range n0).map q, rfl, by simp, hl, by simpa [maxLen] using hm, fun x hx => ?_, fun hn => ?_⟩
    · rw [List.mem_map] at hx
      obtain ⟨i, hir, rfl⟩ := hx
      exact (hq i (List.mem_range.1 hir)).2
    · have h0 := (hq 0 hn).1
      have ea : (a.add (0 * 1)).add 0 = a := by simp [Addr.add]
      rw [ea] at h0
      have hA := addr_at h0
      refine ⟨a.block, a.off, congrArg some hA, fun i p hp => ?_⟩
      have hin : i < n0 := by
        have := (List.getElem?_eq_some_iff.1 hp).1
        simpa using this
      have e : p = q i := by
        rw [List.getElem?_map, List.getElem?_range hin] at hp
        simpa using hp.symm
      subst e
      have := (hq i hin).1
      rw [hA, addr_add, addr_add] at this
      simpa using this
end Go.Proofs.YtcjpecdnenemaaaGreatDoor

namespace Go.Proofs.YtcjpecdnenemaaaGreatDoor
set_option linter.all false
open Go.ChangeShapes Go.WideShapes Go.RowKit Go.Shelf

set_option maxRecDepth 1000000 in
theorem shareMemory_lifted (os : Os) (started : os.Started) (H : Type) (enc : TypeId × Value → H) (F : Stop.Interp) :
    ReturnsInHanded {} Tryz.checked os 18 .any ((OpenSpec.ofChange Rows.shareMemorySpec).preRow enc Tryz.prog Tryz.f18 Rows.shareMemoryRow.domain false Rows.shareMemoryRow.laid)
      (((OpenSpec.ofChange Rows.shareMemorySpec).at F).post enc Tryz.prog Tryz.f18 false true false false) := by
  refine returnsInHanded_of_row (C := Tryz.checked) (s := OpenSpec.ofChange Rows.shareMemorySpec) own_ started (by kernel_rfl) Tryz.func18
    (ChangeSpec.witness_shaped (enc := enc) (C := Tryz.checked) (os := os) (s := Rows.shareMemorySpec) (X := fun w _ => laidMetH Tryz.prog Rows.shareMemoryRow.laid w) false (World.laidAll Tryz.prog os Rows.shareFractionsRow.laid) #[.slice none 0 0, .agg #[.int .i64 0, .int .i64 0, .int .i64 0, .string ⟨#[]⟩, .int .i64 0, .int .i64 0, .int .i64 0], .slice none 0 0, .slice none 0 0] 8 (World.laidAll_os _ _ _)
      (wit_shaped os _) (by kernel_rfl) (by kernel_rfl) (by kernel_rfl) (wit_met os _)) ?_
  intro W base args ds gs before hval0 hW _ _ _ hL hsh _
  have hval : ∀ (j : Nat) t v, Tryz.f18.params[j]? = some t → args[j]? = some v → Value.okWide Tryz.prog W .any base t v := hval0
  have hW' := hW
  obtain ⟨p, q, hA0, hV, rfl, _, _⟩ := hW
  have hA : DataW.TrodAll enc Tryz.prog W 0 (fun _ => true) true Tryz.f18.params.toList args.toList ds p := hA0
  obtain ⟨rfl, rfl⟩ := trodVars_none hV
  simp only [List.append_nil] at hW'
  have hlt : ∀ x ∈ p, x.block < W.heap.size := fun x hx => by simpa using hW'.lt x hx
  have hstay := fun (W' : World) (hb : Below W.heap.size W W') => args_stay (P := Tryz.prog) Tryz.f18.params.toList args.toList ds p f_laidOut (by as_aux_lemma => kernel_rfl) hA hb hlt
  rw [Tryz.params18] at hA hval
  obtain ⟨v0, va0, d0, da0, p0, pa0, ea0, rfl, rfl, h0, hR0⟩ := trodAll_cons hA
  obtain ⟨v1, va1, d1, da1, p1, pa1, ea1, rfl, rfl, h1, hR1⟩ := trodAll_cons hR0
  subst ea1
  obtain ⟨v2, va2, d2, da2, p2, pa2, ea2, rfl, rfl, h2, hR2⟩ := trodAll_cons hR1
  subst ea2
  obtain ⟨v3, va3, d3, da3, p3, pa3, ea3, rfl, rfl, h3, hR3⟩ := trodAll_cons hR2
  subst ea3
  obtain ⟨rfl, rfl, rfl⟩ := trodAll_nil hR3
  obtain rfl : args = #[v0, v1, v2, v3] := by cases args; simp_all
  obtain ⟨A0, n0, c0, l0, rfl, hS0⟩ := table_open (hval 0 _ v0 rfl rfl) h0
  obtain ⟨x1, rfl, hS1⟩ := equal_open (hval 1 _ v1 rfl rfl) h1
  obtain ⟨A2, n2, c2, l2, rfl, hS2⟩ := heads_open (hval 2 _ v2 rfl rfl) h2
  obtain ⟨A3, n3, c3, l3, rfl, hS3⟩ := ints_open (hval 3 _ v3 rfl rfl) h3
  have hE := env_of_laid hL hsh
  refine (memory_any A0 n0 c0 l0 x1.id x1.frm x1.kno x1.num x1.den x1.off x1.sort hS1 A2 n2 c2 l2 A3 n3 c3 l3 W hE hS0 hS2 hS3).mono fun e W' ⟨he, hk⟩ => ?_
  subst he
  exact ⟨_, rfl, _, _, _, [], _, [], hW', trodAll_mk1 (shut_bool Tryz.underlying4 _), hstay W' hk.below, rfl, hk.below.frame _, fun h => by cases h⟩
end Go.Proofs.YtcjpecdnenemaaaGreatDoor
