/-
  The reference: append to an empty table, Insert, Reached; ShareReached.
-/
import Derived.Test.YtcjpecdnenemaaaGreatDoorGN
import Derived.Laws.OwnMore
import Derived.Deep.AppendLies
import Derived.Test.YtcjpecdnenemaaaGreatDoorRs3
import Derived.Test.YtcjpecdnenemaaaGreatDoorUs3
import Derived.Test.YtcjpecdnenemaaaGreatDoorRs1
import Derived.Test.YtcjpecdnenemaaaGreatDoorLa3
import Derived.Deep.RegionHeld3
import Derived.Test.YtcjpecdnenemaaaGreatDoorLa4
import Derived.Test.YtcjpecdnenemaaaGreatDoorGR
namespace Go.Proofs.YtcjpecdnenemaaaGreatDoor
set_option linter.all false
open Go.RowKit Go.Shelf

section
variable {P : Program} (w : World)
theorem run_append_zero (base : Nat) (t ty e : TypeId) (i : TypeInfo) (size : Nat) (ht : P.underlying t = some (.slice e)) (hi : P.info? e = some i)
    (v : Value) (n : Nat) (xs : List Value) (hown : w.ownsRow base e size v n xs) (A : Option Addr) (c : Nat) :
    (Builtin.append_ #[t, t] ty #[v, .slice A 0 c]).run P w = .ok v w := by
  rcases A with _ | a
  · rcases hown.2 with ⟨rfl, rfl⟩ | ⟨g, cap, cur, rfl, _, _, hnc, _⟩
    · simp [Builtin.append_, run_underlying ht, sizeOf, typeInfo, hi, Builtin.lenOf, Builtin.firstCells]
    · simp [Builtin.append_, run_underlying ht, sizeOf, typeInfo, hi, Builtin.lenOf, Builtin.firstCells, hnc, storeCells]
  · have hl : Sem.run P (loadCellsFrom a 0 0 #[]) w = .ok #[] w := by
      first
        | rfl
        | (simp [loadCellsFrom]; done)
        | (unfold loadCellsFrom; simp; done)
    rcases hown.2 with ⟨rfl, rfl⟩ | ⟨g, cap, cur, rfl, _, _, hnc, _⟩
    · simp [Builtin.append_, run_underlying ht, sizeOf, typeInfo, hi, Builtin.lenOf, Builtin.firstCells, loadCells, hl]
    · simp [Builtin.append_, run_underlying ht, sizeOf, typeInfo, hi, Builtin.lenOf, Builtin.firstCells, hnc, storeCells, loadCells, hl]
theorem step_append_zero {ops : Array Oper} {o : Oper} {a : Act} {K : Act → World → Prop} {Q : Exit → Act → World → Prop} {E : Prop} (hgd : o.guard = none) (s x : Operand) (t : TypeId)
    (ho : o.op = .call { callee := .builtin .append, args := #[s, x], argTypes := #[t, t] })
    (base : Nat) (e : TypeId) (i : TypeInfo) (size : Nat) (ht : P.underlying t = some (.slice e)) (hi : P.info? e = some i)
    (v : Value) (n : Nat) (xs : List Value) (hs : a.eval s = v) (hown : w.ownsRow base e size v n xs) (A : Option Addr) (c : Nat) (hx : a.eval x = .slice A 0 c)
    (h : K (a.put o.dst v) w) : if Region.wanted o (yielded ops a.tmps) = true then Oper.wp P o a w K Q else E := by
  have hw : Region.wanted o (yielded ops a.tmps) = true := by simp [Region.wanted, hgd]
  rw [if_pos hw]
  have hr := run_append_zero (P := P) w base t o.type e i size ht hi v n xs hown A c
  unfold Oper.wp execOp
  simp only [ho, resolve, invoke, builtin, Sem.run_bind, Sem.run_pure, Result.andThen_ok, List.map_toArray, List.map_cons, List.map_nil, hs, hx, hr]
  exact h
end
end Go.Proofs.YtcjpecdnenemaaaGreatDoor

namespace Go.Proofs.YtcjpecdnenemaaaGreatDoor
set_option linter.all false
open Go.RowKit Go.Shelf

set_option maxRecDepth 100000 in
set_option maxHeartbeats 3200000 in
theorem rappend_zero (A : Option Addr) (c : Nat) (x : Eqv) (hs : x.sort.size ≤ 9223372036854775807) (h0 : (chkS ([] ++ [x])).2 = 0) (w : World) (h : TabA w A 0 c []) :
    Calls Tryz.prog 39 #[.slice A 0 c, eqV x] w (TabRes w ([] ++ [x])) := by
  obtain ⟨i0, hi0, hz0, hz1, hz2⟩ := info_parts info37
  have HT := Lib.hid h
  have X0 := Lib.hid (RowC.new w (eqCells x) 37)
  have KB := Lib.hid ((Kept.refl w).alloc (boxX x))
  have hln := h.1
  have CK := Lib.hid (fun W h => rcheck_any A 0 c [] W h)
  have hc := chk_pre h0
  have hr := chk_last h0
  have RF := Lib.hid (fun W h => rrefused_any A 0 c [] x 0 hr hs (by omega) W h)
  rw [hc] at CK
  clear h hc h0 hr
  obtain ⟨F, hF⟩ : ∃ F, (chkS []).1 = F := ⟨_, rfl⟩
  rw [hF] at CK
  clear hF
  obtain ⟨id, frm, kno, srt, num, den, off⟩ := x
  unfold boxX at KB
  unfold eqV at RF ⊢
  dsimp only at KB RF ⊢
  go_enter Tryz.func39, Tryz.ntmps39
  go_wp2_with fail
  refine (CK.out _ (HT.out.kept KB.out)).mono ?_
  rintro e w1 ⟨rfl, hk1⟩
  have K1 := Lib.hid (KB.out.trans hk1)
  have X1 := Lib.hid (X0.out.kept hk1)
  have x0 := (X1.out 0 _ rfl).1
  have x1 := (X1.out 1 _ rfl).1
  have x2 := (X1.out 2 _ rfl).1
  have x3 := (X1.out 3 _ rfl).1
  have x4 := (X1.out 4 _ rfl).1
  have x5 := (X1.out 5 _ rfl).1
  have x6 := (X1.out 6 _ rfl).1
  clear hk1
  go_wp2_with fail
  refine (RF.out _ (HT.out.kept K1.out)).mono ?_
  rintro e w2 ⟨rfl, hk2⟩
  have K2 := Lib.hid (K1.out.trans hk2)
  have X2 := Lib.hid (X1.out.kept hk2)
  clear hk2 x0 x1 x2 x3 x4 x5 x6
  have x0 := (X2.out 0 _ rfl).1
  have x1 := (X2.out 1 _ rfl).1
  have x2 := (X2.out 2 _ rfl).1
  have x3 := (X2.out 3 _ rfl).1
  have x4 := (X2.out 4 _ rfl).1
  have x5 := (X2.out 5 _ rfl).1
  have x6 := (X2.out 6 _ rfl).1
  have hlt2 : w.heap.size < w2.heap.size := cell_lt x0
  have hne2 : ¬ w2.heap.size = w.heap.size := by omega
  go_wp2_with fail
  go_upto_region 7 with fail
  go_region_law (first
    | (refine step_append_zero _ (by rfl) (.tmp 23) (.tmp 24) _ (by rfl) w2.heap.size 37 i0 7 Tryz.underlying35 hi0 (.slice (some ⟨w2.heap.size, 0, none⟩) 0 0) 0 [] (by rfl) (own_base (own0 w2.drew w2.heap.size rfl) (by simp)) A c (by rfl) ?_)
    | (refine step_append_zero _ (by rfl) (.tmp 23) (.tmp 24) _ (by rfl) w2.heap.size 37 i0 7 Tryz.underlying35 hi0 (.slice (some ⟨w2.heap.size, 0, none⟩) 0 0) 0 [] (by rfl) (own_kept (own_base (own0 w2.drew w2.heap.size rfl) (by simp)) ((Kept.refl _).alloc _)) A c (by rfl) ?_)
    | (refine step_append_zero _ (by rfl) (.tmp 23) (.tmp 24) _ (by rfl) w2.heap.size 37 i0 7 Tryz.underlying35 hi0 (.slice (some ⟨w2.heap.size + 1, 0, none⟩) 0 0) 0 [] (by rfl) (own_base (own0 (w2.drew.alloc (boxX ⟨id, frm, kno, srt, num, den, off⟩)) (w2.heap.size + 1) (by simp)) (by simp)) A c (by rfl) ?_)
    | (refine step_append_lies _ (by rfl) (.tmp 25) (.tmp 27) _ (by rfl) w2.heap.size 37 i0 _ 7 64 Tryz.underlying35 hi0 hz0 hz1 hz2 rfl (by decide) (.slice (some ⟨w2.heap.size, 0, none⟩) 0 0) 0 [] (by rfl) (own_kept (own_base (own0 w2.drew w2.heap.size rfl) (by simp)) ((Kept.refl _).alloc _)) ⟨w2.heap.size + 1, 0, none⟩ 1 1 (eqCells ⟨id, frm, kno, srt, num, den, off⟩) (by rfl) (by rfl) (news_block (nb2 ⟨id, frm, kno, srt, num, den, off⟩ w2)) (eq_one ⟨id, frm, kno, srt, num, den, off⟩) (by omega) (by simp only [maxLen]; omega) (by omega) (by first | (simp; done) | (simp; omega)) _ rfl ?_; intro g4 cap4 w4 hown4 hgrow4 hat4 hlt4; have hk4 : Kept w2 w4 := ((((Kept.refl w2).drew).alloc (.cells #[] 37)).alloc (boxX ⟨id, frm, kno, srt, num, den, off⟩)).grown hgrow4 (fun k hk => by simp [Value.ownBlock] at hk; all_goals omega))
    | (refine step_append_lies _ (by rfl) (.tmp 25) (.tmp 27) _ (by rfl) w2.heap.size 37 i0 _ 7 64 Tryz.underlying35 hi0 hz0 hz1 hz2 rfl (by decide) (.slice (some ⟨w2.heap.size + 1, 0, none⟩) 0 0) 0 [] (by rfl) (own_base (own0 (w2.drew.alloc (boxX ⟨id, frm, kno, srt, num, den, off⟩)) (w2.heap.size + 1) (by simp)) (by simp)) ⟨w2.heap.size, 0, none⟩ 1 1 (eqCells ⟨id, frm, kno, srt, num, den, off⟩) (by rfl) (by rfl) (news_block (nb3 ⟨id, frm, kno, srt, num, den, off⟩ w2)) (eq_one ⟨id, frm, kno, srt, num, den, off⟩) (by omega) (by simp only [maxLen]; omega) (by omega) (by first | (simp; done) | (simp; omega)) _ rfl ?_; intro g4 cap4 w4 hown4 hgrow4 hat4 hlt4; have hk4 : Kept w2 w4 := ((((Kept.refl w2).drew).alloc (boxX ⟨id, frm, kno, srt, num, den, off⟩)).alloc (.cells #[] 37)).grown hgrow4 (fun k hk => by simp [Value.ownBlock] at hk; all_goals omega))
    | fail)
  all_goals
    have hown5 : w4.ownsRow w.heap.size 37 7 (.slice (some ⟨g4, 0, none⟩) (0 + 1) cap4) (0 + 1) ([] ++ eqCells ⟨id, frm, kno, srt, num, den, off⟩) := own_base hown4 K2.out.size
    have HO5 := Lib.hid hown5
    have HK4 := Lib.hid hk4
    clear hown4 hown5 hk4 hgrow4 hat4 hlt4
    go_wp2
    go_ret2
    refine ⟨_, rfl, ?_, K2.out.trans HK4.out⟩
    have h : w4.ownsRow w.heap.size 37 7 (.slice (some ⟨g4, 0, none⟩) (0 + 1) cap4) (0 + 1) (flat7 [] ++ eqCells ⟨id, frm, kno, srt, num, den, off⟩) := HO5.out
    rw [← flat_snoc] at h
    exact h
end Go.Proofs.YtcjpecdnenemaaaGreatDoor

namespace Go.Proofs.YtcjpecdnenemaaaGreatDoor
set_option linter.all false
open Go.RowKit Go.Shelf

theorem info9 : (Tryz.prog.info? 9).map (fun i => (i.zero, i.size, i.bytes)) = some (some (.string ByteArray.empty), 1, 16) := by kernel_rfl
theorem ownS0 (W : World) (B : Nat) (hB : W.heap.size = B) : (W.alloc (.cells #[] 9)).ownsRow B 9 1 (.slice (some ⟨B, 0, none⟩) 0 0) 0 [] := by
  subst hB
  exact ⟨rfl, .inr ⟨W.heap.size, 0, #[], rfl, Nat.le_refl _, heap_alloc_new _ _, by omega, by simp [maxLen], rfl, rfl⟩⟩
theorem nbS2 (s : ByteArray) (w : World) : ∀ j u, ([.string s] : List Value)[j]? = some u → ((w.drew.alloc (.cells #[] 9)).alloc (.cells #[.string s] 9)).cell? ((⟨w.heap.size + 1, 0, none⟩ : Addr).add j) = some u := by
  have h := heap_alloc_new (w.drew.alloc (.cells #[] 9)) (.cells #[.string s] 9)
  rw [show (w.drew.alloc (.cells #[] 9)).heap.size = w.heap.size + 1 by simp] at h
  exact World.news_of_block (cs := #[.string s]) (t := 9) (fr := (0, 0)) h
theorem nbS3 (s : ByteArray) (w : World) : ∀ j u, ([.string s] : List Value)[j]? = some u → ((w.drew.alloc (.cells #[.string s] 9)).alloc (.cells #[] 9)).cell? ((⟨w.heap.size, 0, none⟩ : Addr).add j) = some u := by
  have h := heap_alloc_new w.drew (.cells #[.string s] 9)
  exact World.news_of_block (cs := #[.string s]) (t := 9) (fr := (0, 0)) ((((Kept.refl (w.drew.alloc (.cells #[.string s] 9))).alloc (.cells #[] 9)).block w.heap.size (by simp)).trans h)
theorem less_irr : ∀ (l : List UInt8), Op.bytesLess l l = false
  | [] => rfl
  | a :: l => by
    have ih := less_irr l
    simp [Op.bytesLess, ih]
def InsRes (w : World) (s : ByteArray) (e : Ending) (w' : World) : Prop := ∃ g c, e = .returned (.slice (some ⟨g, 0, none⟩) 1 c) ∧ w'.ownsRow w.heap.size 9 1 (.slice (some ⟨g, 0, none⟩) 1 c) 1 [.string s] ∧ Kept w w'
set_option maxRecDepth 100000 in
set_option maxHeartbeats 3200000 in
theorem insert_nil (s : ByteArray) (w : World) : Calls Tryz.prog 120 #[.slice none 0 0, .string s] w (InsRes w s) := by
  obtain ⟨i0, hi0, hz0, hz1, hz2⟩ := info_parts info9
  go_enter Tryz.func120, Tryz.ntmps120
  go_wp2_with fail
  go_loopw [5] (fun i wr => i = .int .i64 0 ∧ wr = w) (fun _ _ => 0)
  case atStart => exact ⟨by first | rfl | go_num, rfl⟩
  case round =>
    obtain ⟨rfl, rfl⟩ := hrel
    obtain ⟨w, rfl⟩ : ∃ w, w = wr := ⟨_, rfl⟩
    go_upto_region 6 with (fail)
    go_region_law (first
      | (refine step_append_zero _ (by rfl) (.tmp 33) (.tmp 36) _ (by rfl) w.heap.size 9 i0 1 Tryz.underlying52 hi0 (.slice (some ⟨w.heap.size, 0, none⟩) 0 0) 0 [] (by first | rfl | (simp; done)) (ownS0 w.drew w.heap.size rfl) none 0 (by first | rfl | (simp; done)) ?_)
      | (refine step_append_zero _ (by rfl) (.tmp 33) (.tmp 36) _ (by rfl) w.heap.size 9 i0 1 Tryz.underlying52 hi0 (.slice (some ⟨w.heap.size, 0, none⟩) 0 0) 0 [] (by first | rfl | (simp; done)) (own_kept (ownS0 w.drew w.heap.size rfl) ((Kept.refl _).alloc _)) none 0 (by first | rfl | (simp; done)) ?_)
      | (refine step_append_zero _ (by rfl) (.tmp 33) (.tmp 36) _ (by rfl) w.heap.size 9 i0 1 Tryz.underlying52 hi0 (.slice (some ⟨w.heap.size + 1, 0, none⟩) 0 0) 0 [] (by first | rfl | (simp; done)) (own_base (ownS0 (w.drew.alloc (.cells #[.string s] 9)) (w.heap.size + 1) (by simp)) (by omega)) none 0 (by first | rfl | (simp; done)) ?_)
      | (refine step_append_lies _ (by rfl) (.tmp 37) (.tmp 39) _ (by rfl) w.heap.size 9 i0 _ 1 16 Tryz.underlying52 hi0 hz0 hz1 hz2 rfl (by decide) (.slice (some ⟨w.heap.size, 0, none⟩) 0 0) 0 [] (by rfl) (own_kept (ownS0 w.drew w.heap.size rfl) ((Kept.refl _).alloc _)) ⟨w.heap.size + 1, 0, none⟩ 1 1 [.string s] (by rfl) (by rfl) (nbS2 s w) (fun u hu => by simp at hu; subst hu; rfl) (by omega) (by simp only [maxLen]; omega) (by omega) (by first | (simp; done) | (simp; omega)) _ rfl ?_; intro g4 cap4 w4 hown4 hgrow4 hat4 hlt4; have hk4 : Kept w w4 := ((((Kept.refl w).drew).alloc (.cells #[] 9)).alloc (.cells #[.string s] 9)).grown hgrow4 (fun k hk => by simp [Value.ownBlock] at hk; all_goals omega))
      | (refine step_append_lies _ (by rfl) (.tmp 37) (.tmp 39) _ (by rfl) w.heap.size 9 i0 _ 1 16 Tryz.underlying52 hi0 hz0 hz1 hz2 rfl (by decide) (.slice (some ⟨w.heap.size + 1, 0, none⟩) 0 0) 0 [] (by rfl) (own_base (ownS0 (w.drew.alloc (.cells #[.string s] 9)) (w.heap.size + 1) (by simp)) (by omega)) ⟨w.heap.size, 0, none⟩ 1 1 [.string s] (by rfl) (by rfl) (nbS3 s w) (fun u hu => by simp at hu; subst hu; rfl) (by omega) (by simp only [maxLen]; omega) (by omega) (by first | (simp; done) | (simp; omega)) _ rfl ?_; intro g4 cap4 w4 hown4 hgrow4 hat4 hlt4; have hk4 : Kept w w4 := ((((Kept.refl w).drew).alloc (.cells #[.string s] 9)).alloc (.cells #[] 9)).grown hgrow4 (fun k hk => by simp [Value.ownBlock] at hk; all_goals omega))
      | (refine step_append_zero _ (by rfl) (.tmp 40) (.tmp 43) _ (by rfl) w.heap.size 9 i0 1 Tryz.underlying52 hi0 (.slice (some ⟨g4, 0, none⟩) (0 + 1) cap4) (0 + 1) ([] ++ [.string s]) (by first | rfl | (simp; done)) hown4 none 0 (by first | rfl | (simp; done)) ?_)
      | fail)
    all_goals
      have HO4 := Lib.hid hown4
      have HK4 := Lib.hid hk4
      clear hown4 hk4 hgrow4 hat4 hlt4
      go_wp2
      go_ret
      exact ⟨g4, cap4, rfl, HO4.out, HK4.out⟩
set_option maxRecDepth 100000 in
set_option maxHeartbeats 3200000 in
theorem insert_same (A : Option Addr) (c : Nat) (s : ByteArray) (b off : Nat) (hA : A = some ⟨b, off, none⟩) (hc : 1 ≤ c) (hcm : c ≤ 9223372036854775807) (w : World) (h : w.cell? ⟨b, off, none⟩ = some (.string s)) : Calls Tryz.prog 120 #[.slice A 1 c, .string s] w fun e w' => e = .returned (.slice A 1 c) ∧ Kept w w' := by
  subst hA
  go_enter Tryz.func120, Tryz.ntmps120
  go_wp2_with fail
  go_loopw [5] (fun i wr => i = .int .i64 0 ∧ wr = w) (fun _ _ => 0)
  case atStart => exact ⟨by first | rfl | go_num, rfl⟩
  case round =>
    obtain ⟨rfl, rfl⟩ := hrel
    have hl := less_irr s.toList
    have he : (s.toList == s.toList) = true := by simp
    go_wp2
    go_ret
    exact ⟨rfl, Kept.refl _⟩
set_option maxRecDepth 100000 in
set_option maxHeartbeats 3200000 in
theorem equalS_any (A B : Option Addr) (n c d : Nat) (ss : List ByteArray) (w : World) (h1 : StA_s w A n c ss) (h2 : StA_s w B n d ss) :
    Calls Tryz.prog 50 #[.slice A n c, .slice B n d] w fun e w' => e = .returned (.bool true) ∧ Kept w w' := by
  have H1 := Lib.hid h1
  have H2 := Lib.hid h2
  have hnc := h1.2.1
  have hcm := h1.2.2.1
  have hnd := h2.2.1
  have hdm := h2.2.2.1
  clear h1 h2
  have hnn : ((n : Int) != (n : Int)) = false := by simp
  go_enter Tryz.func50, Tryz.ntmps50
  go_wp2_with fail
  go_loopw [13] (fun i wr => ∃ k : Nat, k ≤ n ∧ i = .int .i64 k ∧ Kept w wr) (fun i _ => n - (intOf i).toNat)
  case atStart => exact ⟨0, by omega, by first | rfl | go_num, Kept.refl _⟩
  case round =>
    obtain ⟨k, hk, rfl, hkr⟩ := hrel
    have HKR := Lib.hid hkr
    clear hkr
    by_cases hlt : k < n
    · have hxl : k < ss.length := by rw [H1.out.1]; exact hlt
      obtain ⟨x, hx⟩ : ∃ x, ss[k]? = some x := ⟨ss[k]'hxl, List.getElem?_eq_getElem hxl⟩
      obtain ⟨b, off, hA, hcc⟩ := H1.out.2.2.2 k x hx
      obtain ⟨b2, off2, hB, hcc2⟩ := H2.out.2.2.2 k x hx
      subst hA
      subst hB
      have q0 := (HKR.out.cells _ _ (cell_lt hcc)).trans hcc
      have p0 := (HKR.out.cells _ _ (cell_lt hcc2)).trans hcc2
      have i0 : (0 : Int) ≤ (k : Int) := by omega
      have i1 : (k : Int) < (n : Int) := by omega
      have it : (k : Int).toNat = k := by omega
      have he : (x.toList == x.toList) = true := by simp
      clear hcc hcc2 hx
      go_upto_region 6 with (fail)
      go_cut [24] (fun s24 wx => s24 = .bool false ∧ Kept wr wx)
      case first =>
        go_quiet (fail)
        go_wp2
        go_meet
        exact ⟨by first | rfl | (simp; done), by first | exact Kept.refl _ | exact (Kept.refl _).drewN _ | exact (Kept.refl _).drew⟩
      obtain ⟨rfl, kx⟩ := hcut
      have KX := Lib.hid (HKR.out.trans kx)
      clear kx q0 p0
      go_wp2
      go_roundw
      case rel => exact ⟨k + 1, by omega, by go_num, KX.out⟩
      case measure => simp [intOf]; omega
    · obtain rfl : k = n := by omega
      go_wp2
      go_ret
      exact ⟨rfl, HKR.out⟩
end Go.Proofs.YtcjpecdnenemaaaGreatDoor

namespace Go.Proofs.YtcjpecdnenemaaaGreatDoor
set_option linter.all false
open Go.RowKit

theorem cnt_lt {p q : Eqv → Bool} (hpq : ∀ y, q y = true → p y = true) : ∀ (l : List Eqv), (∃ y ∈ l, p y = true ∧ q y = false) → l.countP q < l.countP p
  | [], h => by obtain ⟨y, hy, _⟩ := h; cases hy
  | z :: l, h => by
    have hle : l.countP q ≤ l.countP p := List.countP_mono_left (fun x _ hx => hpq x hx)
    obtain ⟨y, hy, h1, h2⟩ := h
    rcases List.mem_cons.1 hy with rfl | hy
    · rw [List.countP_cons_of_pos h1, List.countP_cons_of_neg (by simp [h2])]
      omega
    · have ih := cnt_lt hpq l ⟨y, hy, h1, h2⟩
      by_cases hq : q z = true
      · rw [List.countP_cons_of_pos hq, List.countP_cons_of_pos (hpq z hq)]
        omega
      · rw [List.countP_cons_of_neg hq, List.countP_cons]
        omega
/-- what the search for the next day finds -/
theorem next_spec (d : Int) (hd : 0 ≤ d) : ∀ (l : List Eqv) (nx : Int), (0 ≤ nx → d ≤ nx) → (∀ y ∈ l, 0 ≤ y.frm) →
    ((l.foldl (nst d) nx < 0 → nx < 0 ∧ ∀ y ∈ l, y.off = 0 → y.frm < d) ∧ (0 ≤ l.foldl (nst d) nx → d ≤ l.foldl (nst d) nx ∧ (l.foldl (nst d) nx = nx ∨ ∃ y ∈ l, y.off = 0 ∧ y.frm = l.foldl (nst d) nx) ∧ (0 ≤ nx → l.foldl (nst d) nx ≤ nx) ∧ ∀ y ∈ l, y.off = 0 → d ≤ y.frm → l.foldl (nst d) nx ≤ y.frm))
  | [], nx, h0, _ => by
    refine ⟨fun h => ⟨h, fun y hy => (by cases hy)⟩, fun h => ⟨h0 h, .inl rfl, fun _ => Int.le_refl _, fun y hy => (by cases hy)⟩⟩
  | z :: l, nx, h0, hp => by
    have hz := hp z (List.mem_cons_self ..)
    have hn : 0 ≤ nst d nx z → d ≤ nst d nx z := by
      unfold nst
      split
      · rename_i h; intro _; exact h.2.1
      · exact h0
    obtain ⟨i1, i2⟩ := next_spec d hd l (nst d nx z) hn (fun y hy => hp y (List.mem_cons_of_mem _ hy))
    rw [List.foldl_cons]
    refine ⟨fun h => ?_, fun h => ?_⟩
    · obtain ⟨j1, j2⟩ := i1 h
      unfold nst at j1
      split at j1
      · omega
      · rename_i hc
        refine ⟨j1, fun y hy h1 => ?_⟩
        rcases List.mem_cons.1 hy with rfl | hy
        · rcases Int.lt_or_le y.frm d with h2 | h2
          · exact h2
          · exact absurd ⟨h1, h2, .inl j1⟩ hc
        · exact j2 y hy h1
    · obtain ⟨j1, j2, j3, j4⟩ := i2 h
      refine ⟨j1, ?_, ?_, ?_⟩
      · rcases j2 with j2 | ⟨y, hy, h1, h2⟩
        · rw [j2]
          unfold nst
          split
          · rename_i hc; exact .inr ⟨z, List.mem_cons_self .., hc.1, rfl⟩
          · exact .inl rfl
        · exact .inr ⟨y, List.mem_cons_of_mem _ hy, h1, h2⟩
      · intro h1
        have : nst d nx z ≤ nx := by
          unfold nst
          split
          · rename_i hc; rcases hc.2.2 with h2 | h2 <;> omega
          · omega
        have h3 : 0 ≤ nst d nx z := by
          unfold nst
          split
          · exact hz
          · exact h1
        have := j3 h3
        omega
      · intro y hy h1 h2
        rcases List.mem_cons.1 hy with rfl | hy
        · have h3 : nst d nx y ≤ y.frm ∧ 0 ≤ nst d nx y := by
            unfold nst
            split
            · omega
            · rename_i hc
              rcases Int.lt_or_le nx 0 with h4 | h4
              · exact absurd ⟨h1, h2, .inl h4⟩ hc
              · rcases Int.lt_or_le y.frm nx with h5 | h5
                · exact absurd ⟨h1, h2, .inr h5⟩ hc
                · omega
          have := j3 h3.2
          omega
        · exact j4 y hy h1 h2
theorem begL_mem {xs : List Eqv} (hp : ∀ y ∈ xs, 0 ≤ y.frm) : ∀ (f : Nat) (d : Int), 0 ≤ d → xs.countP (fun y => y.off == 0 && decide (d ≤ y.frm)) ≤ f → ∀ y ∈ xs, y.off = 0 → d ≤ y.frm → y.frm ∈ begL xs f d
  | 0, d, hd, hc, y, hy, h1, h2 => by
    have : 0 < xs.countP (fun y => y.off == 0 && decide (d ≤ y.frm)) := List.countP_pos_iff.2 ⟨y, hy, by simp [h1, h2]⟩
    omega
  | f + 1, d, hd, hc, y, hy, h1, h2 => by
    have hn : nextK xs d xs.length = xs.foldl (nst d) (-1) := by unfold nextK; rw [List.take_length]
    obtain ⟨i1, i2⟩ := next_spec d hd xs (-1) (fun h => by omega) hp
    unfold begL
    rw [hn]
    by_cases hneg : xs.foldl (nst d) (-1) < 0
    · have := (i1 hneg).2 y hy h1
      omega
    · rw [if_neg hneg]
      obtain ⟨j1, j2, _, j4⟩ := i2 (by omega)
      have h3 := j4 y hy h1 h2
      rcases Int.lt_or_le (xs.foldl (nst d) (-1)) y.frm with h4 | h4
      · refine List.mem_cons_of_mem _ (begL_mem hp f _ (by omega) ?_ y hy h1 (by omega))
        obtain ⟨w, hw, w1, w2⟩ : ∃ w ∈ xs, w.off = 0 ∧ w.frm = xs.foldl (nst d) (-1) := by
          rcases j2 with j2 | j2
          · omega
          · exact j2
        have := cnt_lt (p := fun y => y.off == 0 && decide (d ≤ y.frm)) (q := fun y => y.off == 0 && decide (xs.foldl (nst d) (-1) + 1 ≤ y.frm)) (fun z hz => by
          simp only [Bool.and_eq_true, decide_eq_true_eq, beq_iff_eq] at hz ⊢
          exact ⟨hz.1, by omega⟩) xs ⟨w, hw, by simp [w1, w2]; omega, by simp [w1, w2]; omega⟩
        omega
      · have : y.frm = xs.foldl (nst d) (-1) := by omega
        rw [this]
        exact List.mem_cons_self ..
theorem begS_mem {xs : List Eqv} (hc : ∀ x ∈ xs, formB x = true) {y : Eqv} (hy : y ∈ xs) (h1 : y.off = 0) : y.frm ∈ begS xs := by
  have hp : ∀ z ∈ xs, 0 ≤ z.frm := fun z hz => (frm_bd (hc z hz)).1
  exact begL_mem hp _ 0 (by omega) (Nat.le_trans List.countP_le_length (Nat.le_succ _)) y hy h1 (hp y hy)
/-- whether a record's row shows a difference -/
def rowB (xs : List Eqv) (x : Eqv) (y : Eqv) : Bool := y.off == 0 && (begS (xs ++ [x])).any (chgB xs x y.sort)
theorem chg_sort {xs : List Eqv} {x : Eqv} {s : ByteArray} {d : Int} (h : (chkS (xs ++ [x])).2 = 0) (hc : chgB xs x s d = true) : (s.toList == (sortS xs x).toList) = true := by
  rcases hs : (s.toList == (sortS xs x).toList) with _ | _
  · unfold chgB at hc
    rw [force_other h hs] at hc
    simp at hc
  · rfl
theorem chg_eq {xs : List Eqv} {x : Eqv} {s : ByteArray} {d : Int} : chgB xs x s d = false ↔ stS (inForceS (xs ++ [x]) s d x.kno) = stS (inForceS xs s d x.kno) := by
  unfold chgB
  rw [Prod.ext_iff]
  simp
theorem bytesI {a b : ByteArray} (h : (a.toList == b.toList) = true) : a = b := by
  have h := beq_iff_eq.1 h
  simp only [ByteArray.toList_eq] at h
  cases a
  cases b
  simp_all
theorem sort_name {xs : List Eqv} {x : Eqv} (h : (chkS (xs ++ [x])).2 = 0) : (sortS xs x).size ≠ 0 := by
  have hf : ∀ y ∈ xs ++ [x], formB y = true := fun y hy => chk_form h hy
  have key : ∀ y : Eqv, formB y = true → y.off = 0 → y.sort.size ≠ 0 := by
    intro y h1 h2 h3
    unfold formB equivB voidB at h1
    simp only [Bool.and_eq_true, Bool.or_eq_true] at h1
    rcases h1.2 with h4 | h4
    · have h5 := h4.1.1.1.1.2
      unfold nameB at h5
      simp only [Bool.and_eq_true] at h5
      have h6 : inB y.sort.size 1 24 = true := by first | exact h5.1.1 | exact h5.1
      have := (inB_iff.1 h6).1
      omega
    · have := (inB_iff.1 h4.1.1.1.1).1
      omega
  by_cases h0 : x.off = 0
  · rw [sort_own (chk_pre h) h0]
    exact key x (hf x (by simp)) h0
  · have hr := chk_last h
    unfold refS at hr
    rcases hany : xs.any (fun y => y.id == x.off && y.off == 0) with _ | _
    · exfalso
      rw [hany, if_neg h0, if_pos rfl] at hr
      revert hr
      by_cases a1 : xs.length = 200
      · rw [if_pos a1]; decide
      rw [if_neg a1]
      by_cases a2 : formB x = false
      · rw [if_pos a2]; decide
      rw [if_neg a2]
      by_cases a3 : xs.any (fun y => y.id == x.id) = true
      · rw [if_pos a3]; decide
      rw [if_neg a3]
      rcases xs.getLast? with _ | y
      · simp
      · by_cases h9 : x.kno < y.kno <;> simp [h9]
    · obtain ⟨y, hy, hq⟩ := List.any_eq_true.1 hany
      simp only [Bool.and_eq_true, beq_iff_eq] at hq
      rw [sort_unique (chk_pre h) hy hq.1]
      exact key y (hf y (by simp [hy])) hq.2
theorem reach_eq {xs : List Eqv} {x : Eqv} (h : (chkS (xs ++ [x])).2 = 0) : (xs ++ [x]).any (rowB xs x) = reachB xs x := by
  rw [Bool.eq_iff_iff]
  constructor
  · intro ha
    obtain ⟨y, hy, hr⟩ := List.any_eq_true.1 ha
    unfold rowB at hr
    rw [Bool.and_eq_true] at hr
    obtain ⟨d, hd, hc⟩ := List.any_eq_true.1 hr.2
    have hs := bytesI (chg_sort h hc)
    rw [hs] at hc
    unfold reachB
    rcases hx : (startsS (xs ++ [x]) (sortS xs x)).any (chgB xs x (sortS xs x)) with _ | _
    · exfalso
      have hall := force_agree (known := x.kno) h (sort := sortS xs x) (fun d hd => chg_eq.1 (by
        have := List.any_eq_false.1 hx d hd
        simpa using this)) d
      rw [chg_eq.2 hall] at hc
      cases hc
    · rfl
  · intro ha
    unfold reachB at ha
    obtain ⟨d, hd, hc⟩ := List.any_eq_true.1 ha
    have hm := List.mem_mergeSort.1 (mem_compact hd)
    unfold frmS at hm
    rw [List.mem_map] at hm
    obtain ⟨y, hy, rfl⟩ := hm
    rw [List.mem_filter] at hy
    have hs := bytesI hy.2
    have hfy := chk_form h hy.1
    have hoff : y.off = 0 := by
      have hn := sort_name h
      rw [← hs] at hn
      unfold formB equivB voidB at hfy
      simp only [Bool.and_eq_true, Bool.or_eq_true, decide_eq_true_eq] at hfy
      rcases hfy.2 with h4 | h4
      · exact h4.1.1.1.1.1
      · exfalso
        have h5 := h4.1.1.2
        simp only [ByteArray.toList_eq] at h5
        apply hn
        show y.sort.data.size = 0
        rw [← Array.length_toList, h5]
        rfl
    refine List.any_eq_true.2 ⟨y, hy.1, ?_⟩
    unfold rowB
    rw [Bool.and_eq_true]
    refine ⟨by simp [hoff], List.any_eq_true.2 ⟨y.frm, begS_mem (fun z hz => chk_form h hz) hy.1 hoff, ?_⟩⟩
    rw [hs]
    exact hc
end Go.Proofs.YtcjpecdnenemaaaGreatDoor

namespace Go.Proofs.YtcjpecdnenemaaaGreatDoor
set_option linter.all false
open Go.RowKit Go.Shelf

theorem RS3_step {w0 W W' : World} {b1 o1 b2 o2 b3 o3 : Nat} {u1 u2 u3 : Value} (h : W.cell? ⟨b1, o1, none⟩ = some u1 ∧ W.cell? ⟨b2, o2, none⟩ = some u2 ∧ W.cell? ⟨b3, o3, none⟩ = some u3 ∧ Kept w0 W) (hk : Kept W W') : W'.cell? ⟨b1, o1, none⟩ = some u1 ∧ W'.cell? ⟨b2, o2, none⟩ = some u2 ∧ W'.cell? ⟨b3, o3, none⟩ = some u3 ∧ Kept w0 W' :=
  ⟨(hk.cells _ _ (cell_lt h.1)).trans h.1, (hk.cells _ _ (cell_lt h.2.1)).trans h.2.1, (hk.cells _ _ (cell_lt h.2.2.1)).trans h.2.2.1, h.2.2.2.trans hk⟩
set_option maxRecDepth 100000 in
set_option maxHeartbeats 3200000 in
theorem reached_err (A : Option Addr) (n c : Nat) (xs : List Eqv) (x : Eqv) (w : World) (hT : TabA w A n c xs) (hlt : n ≤ 100000) (hs : x.sort.size ≤ 9223372036854775807) (E : Int) (h0 : (chkS (xs ++ [x])).2 = E) (hE : (E != 0) = true) :
    Calls Tryz.prog 56 #[.slice A n c, eqV x] w fun e w' => e = .returned (.tuple #[.slice none 0 0, .int .i64 E]) ∧ Kept w w' := by
  have HT := Lib.hid hT
  have AP := Lib.hid (fun W h => append_err A n c xs x hlt hs E h0 hE W h)
  have KB := Lib.hid ((Kept.refl w).alloc (boxX x))
  clear hT h0
  obtain ⟨id, frm, kno, srt, num, den, off⟩ := x
  unfold boxX at KB
  unfold eqV at AP ⊢
  dsimp only at AP KB ⊢
  go_enter Tryz.func56, Tryz.ntmps56
  go_wp2_with fail
  refine (AP.out _ (HT.out.kept KB.out)).mono ?_
  rintro e w1 ⟨rfl, hk1⟩
  have K1 := Lib.hid (KB.out.trans hk1)
  clear hk1
  go_wp2
  go_ret2
  exact ⟨rfl, K1.out⟩
set_option maxRecDepth 100000 in
set_option maxHeartbeats 3200000 in
theorem rreached_err (A : Option Addr) (n c : Nat) (xs : List Eqv) (x : Eqv) (w : World) (hT : TabA w A n c xs) (hs : x.sort.size ≤ 9223372036854775807) (E : Int) (h0 : (chkS (xs ++ [x])).2 = E) (hE : (E != 0) = true) :
    Calls Tryz.prog 57 #[.slice A n c, eqV x] w fun e w' => e = .returned (.tuple #[.slice none 0 0, .int .i64 E]) ∧ Kept w w' := by
  have HT := Lib.hid hT
  have AP := Lib.hid (fun W h => rappend_err A n c xs x hs E h0 hE W h)
  have X0 := Lib.hid (RowC.new w (eqCells x) 37)
  have KB := Lib.hid ((Kept.refl w).alloc (boxX x))
  clear hT h0
  obtain ⟨id, frm, kno, srt, num, den, off⟩ := x
  unfold boxX at KB
  unfold eqV at AP ⊢
  dsimp only at AP KB ⊢
  go_enter Tryz.func57, Tryz.ntmps57
  go_wp2_with fail
  refine (AP.out _ (HT.out.kept KB.out)).mono ?_
  rintro e w1 ⟨rfl, hk1⟩
  have K1 := Lib.hid (KB.out.trans hk1)
  clear hk1
  go_wp2
  go_ret2
  exact ⟨rfl, K1.out⟩
/-- the list of what is reached so far -/
def OutA (w : World) (s : ByteArray) (v : Value) (b : Bool) : Prop := (b = false ∧ v = .slice none 0 0) ∨ (b = true ∧ ∃ g c, v = .slice (some ⟨g, 0, none⟩) 1 c ∧ 1 ≤ c ∧ c ≤ 9223372036854775807 ∧ w.cell? ⟨g, 0, none⟩ = some (.string s))
theorem OutA.kept {w w' : World} {s : ByteArray} {v : Value} {b : Bool} (h : OutA w s v b) (hk : Kept w w') : OutA w' s v b := by
  rcases h with h | ⟨h1, g, c, h2, h3, h4, h5⟩
  · exact .inl h
  · exact .inr ⟨h1, g, c, h2, h3, h4, (hk.cells _ _ (cell_lt h5)).trans h5⟩
theorem OutA.of_ins {w w' : World} {s : ByteArray} {g c : Nat} (h : w'.ownsRow w.heap.size 9 1 (.slice (some ⟨g, 0, none⟩) 1 c) 1 [.string s]) : OutA w' s (.slice (some ⟨g, 0, none⟩) 1 c) true := by
  rcases own_form h with ⟨h1, _⟩ | ⟨g', c', h1, h2, h3, _⟩
  · cases h1
  · cases h1
    exact .inr ⟨rfl, g, c, rfl, h2, by simpa [maxLen] using h3, (own_rowC h 0 _ rfl).1⟩
set_option maxRecDepth 100000 in
set_option maxHeartbeats 8000000 in
theorem rreached_any (A : Option Addr) (n c : Nat) (xs : List Eqv) (x : Eqv) (w : World) (hT : TabA w A n c xs) (hlt : n ≤ 100000) (hs : x.sort.size ≤ 9223372036854775807) (h0 : (chkS (xs ++ [x])).2 = 0) :
    Calls Tryz.prog 57 #[.slice A n c, eqV x] w (ReachRes w (reachS xs x)) := by
  have HT := Lib.hid hT
  have hln := hT.1
  have X0 := Lib.hid (RowC.new w (eqCells x) 37)
  have AP : RowKit.Hid (∀ W, TabA W A n c xs → Calls Tryz.prog 39 #[.slice A n c, eqV x] W (TabRes W (xs ++ [x]))) := Lib.hid (fun W h => by
    by_cases hpos : 0 < n
    · exact rappend_pos A n c xs x hs h0 W h hpos
    · have hn0 : n = 0 := by omega
      subst hn0
      obtain rfl : xs = [] := List.eq_nil_of_length_eq_zero hln
      exact rappend_zero A c x hs h0 W h)
  have HFx := Lib.hid (fun z hz => chk_form (x := z) (chk_pre h0) hz)
  have HFm := Lib.hid (fun z hz => chk_form (x := z) h0 hz)
  have HCS := Lib.hid (fun (s : ByteArray) (d : Int) => chg_sort (s := s) (d := d) h0)
  have HRQ := Lib.hid (reach_eq h0)
  have KB := Lib.hid ((Kept.refl w).alloc (boxX x))
  obtain ⟨sort, hsort⟩ : ∃ s, s = sortS xs x := ⟨_, rfl⟩
  have HSO := Lib.hid hsort
  clear hT h0 hsort
  obtain ⟨id, frm, kno, srt, num, den, off⟩ := x
  unfold boxX at KB
  unfold eqV at AP ⊢
  dsimp only at AP KB ⊢
  go_enter Tryz.func57, Tryz.ntmps57
  go_wp2_with fail
  refine (AP.out _ (HT.out.kept KB.out)).mono ?_
  rintro e w1 ⟨vm, rfl, hm, hk1⟩
  have HM := Lib.hid (own_base (b' := w.heap.size) hm (by simp))
  have K1 := Lib.hid (KB.out.trans hk1)
  have X1 := Lib.hid (X0.out.kept hk1)
  obtain ⟨mA, mn, mc, rfl, hmT⟩ : ∃ mA mn mc, vm = .slice mA mn mc ∧ TabA w1 mA mn mc (xs ++ [⟨id, frm, kno, srt, num, den, off⟩]) := by
    rcases own_form hm with ⟨rfl, hz⟩ | ⟨g, cap, rfl, h1, h2, h3, h4⟩
    · simp at hz
    · exact ⟨_, _, _, rfl, own_tabA hm rfl (fun y hy => by
        rcases List.mem_append.1 hy with h | h
        · exact HT.out.2.2.2.1 y h
        · simp at h; subst h; exact hs)⟩
  have MT := Lib.hid hmT
  have hmnc := hmT.2.1
  have hmcm := hmT.2.2.1
  clear hm hk1 hmT
  have hlm : mn ≤ 1000000 := by have := MT.out.1; simp at this; omega
  go_wp2_with fail
  refine (begins_any mA mn mc _ _ MT.out hlm HFm.out).mono ?_
  rintro e w3 ⟨v, rfl, hown3, hk3⟩
  obtain ⟨zs, hzs⟩ : ∃ zs, zs = begS (xs ++ [⟨id, frm, kno, srt, num, den, off⟩]) := ⟨_, rfl⟩
  rw [← hzs] at hown3
  have HZS := Lib.hid hzs
  have K3 := Lib.hid (K1.out.trans hk3)
  have X3 := Lib.hid (X1.out.kept hk3)
  have MT3 := Lib.hid (MT.out.kept hk3)
  obtain ⟨bA, bn, bc, rfl, hform⟩ : ∃ A' n' c', v = .slice A' n' c' ∧ n' = zs.length ∧ n' ≤ c' ∧ c' ≤ 9223372036854775807 ∧ (0 < zs.length → ∃ g, A' = some ⟨g, 0, none⟩) := by
    rcases own_form hown3 with ⟨rfl, hz⟩ | ⟨g, cap, rfl, h1, h2, h3, h4⟩
    · exact ⟨none, 0, 0, rfl, hz.symm, by omega, by omega, fun h => by omega⟩
    · exact ⟨_, _, _, rfl, rfl, h1, by simpa [maxLen] using h2, fun _ => ⟨g, rfl⟩⟩
  obtain ⟨hbn, hbc, hbm, hg⟩ := hform
  rw [← hbn] at hg hown3
  have HO3 := Lib.hid hown3
  have HBN := Lib.hid hbn
  have HG := Lib.hid hg
  clear hown3 hk3 hg hzs hbn
  go_wp2_with fail
  go_loopw [9, 10] (fun v i wr => ∃ k : Nat, k ≤ mn ∧ i = .int .i64 k ∧ OutA wr sort v (((xs ++ [(⟨id, frm, kno, srt, num, den, off⟩ : Eqv)]).take k).any (rowB xs (⟨id, frm, kno, srt, num, den, off⟩ : Eqv))) ∧ Kept w3 wr) (fun _ i _ => mn - (intOf i).toNat)
  case atStart => exact ⟨0, by omega, by first | rfl | go_num, .inl ⟨by simp, rfl⟩, Kept.refl _⟩
  case round =>
    obtain ⟨i, hi, rfl, hout, hkr⟩ := hrel
    have HOut := Lib.hid hout
    have HKr := Lib.hid hkr
    clear hout hkr
    obtain ⟨wa, rfl⟩ : ∃ wa, wa = wr := ⟨_, rfl⟩
    by_cases hil : i < mn
    · obtain ⟨mb, mo, hmA, htab⟩ := (MT3.out.kept HKr.out).2.2.2.2 (by omega)
      have HTB := Lib.hid (And.intro hmA htab)
      have hyl : i < (xs ++ [(⟨id, frm, kno, srt, num, den, off⟩ : Eqv)]).length := by rw [MT.out.1]; exact hil
      obtain ⟨y, hy⟩ : ∃ y, (xs ++ [(⟨id, frm, kno, srt, num, den, off⟩ : Eqv)])[i]? = some y := ⟨_, List.getElem?_eq_getElem hyl⟩
      have HY := Lib.hid hy
      have HROW := Lib.hid (show ((xs ++ [(⟨id, frm, kno, srt, num, den, off⟩ : Eqv)]).take (i + 1)).any (rowB xs (⟨id, frm, kno, srt, num, den, off⟩ : Eqv)) = (((xs ++ [(⟨id, frm, kno, srt, num, den, off⟩ : Eqv)]).take i).any (rowB xs (⟨id, frm, kno, srt, num, den, off⟩ : Eqv)) || rowB xs (⟨id, frm, kno, srt, num, den, off⟩ : Eqv) y) by rw [take_snocG hy, List.any_append]; simp)
      obtain ⟨fb, hfb⟩ : ∃ fb, fb = ((xs ++ [(⟨id, frm, kno, srt, num, den, off⟩ : Eqv)]).take i).any (rowB xs (⟨id, frm, kno, srt, num, den, off⟩ : Eqv)) := ⟨_, rfl⟩
      rw [← hfb] at HOut HROW
      have c3 := (htab i y hy).2.2.2.1
      have c6 := (htab i y hy).2.2.2.2.2.2
      have lc := cell_lt c3
      have lc6 := cell_lt c6
      have i0 : (0 : Int) ≤ (i : Int) := by omega
      have i1 : (i : Int) < (mn : Int) := by omega
      have it : (i : Int).toNat = i := by omega
      subst hmA
      clear hy htab hyl hfb
      by_cases hoff : y.off = 0
      · have ho1 : (y.off == 0) = true := by simp [hoff]
        have HR0 := Lib.hid (show rowB xs (⟨id, frm, kno, srt, num, den, off⟩ : Eqv) y = zs.any (chgB xs (⟨id, frm, kno, srt, num, den, off⟩ : Eqv) y.sort) by unfold rowB; rw [ho1, HZS.out]; rfl)
        clear hoff
        go_wp2_with fail
        go_loopw [9, 11] (fun v j wi => ∃ q : Nat, q ≤ bn ∧ j = .int .i64 q ∧ OutA wi sort v (fb || (zs.take q).any (chgB xs (⟨id, frm, kno, srt, num, den, off⟩ : Eqv) y.sort)) ∧ Kept wa wi) (fun _ j _ => bn - (intOf j).toNat)
        case atStart => exact ⟨0, by omega, by first | rfl | go_num, by simpa using HOut.out, Kept.refl _⟩
        case round =>
          obtain ⟨q, hq, rfl, hout2, hki⟩ := hrel
          have HO2 := Lib.hid hout2
          have HKi := Lib.hid hki
          have c3' := (hki.cells _ _ lc).trans c3
          have c6' := (hki.cells _ _ lc6).trans c6
          clear hout2 hki
          by_cases hql : q < bn
          · have hqz : q < zs.length := by rw [← HBN.out]; exact hql
            obtain ⟨db, rfl⟩ := HG.out (by omega)
            obtain ⟨d, hd⟩ : ∃ d, zs[q]? = some d := ⟨zs[q]'hqz, List.getElem?_eq_getElem hqz⟩
            have cd : wr.cell? ⟨db, q, none⟩ = some (.int .i64 d) := by
              rw [(own_kept HO3.out (HKr.out.trans HKi.out)).cellAt q (by omega), List.getElem?_map, hd]; rfl
            have ck := (X3.out.kept (HKr.out.trans HKi.out) 2 _ rfl).1
            have HS := Lib.hid (show (zs.take (q + 1)).any (chgB xs (⟨id, frm, kno, srt, num, den, off⟩ : Eqv) y.sort) = ((zs.take q).any (chgB xs (⟨id, frm, kno, srt, num, den, off⟩ : Eqv) y.sort) || chgB xs (⟨id, frm, kno, srt, num, den, off⟩ : Eqv) y.sort d) by rw [take_snocG hd, List.any_append]; simp)
            obtain ⟨s1, hs1⟩ : ∃ s1, stS (inForceS (xs ++ [(⟨id, frm, kno, srt, num, den, off⟩ : Eqv)]) y.sort d kno) = s1 := ⟨_, rfl⟩
            obtain ⟨s2, hs2⟩ : ∃ s2, stS (inForceS xs y.sort d kno) = s2 := ⟨_, rfl⟩
            have H1 := Lib.hid (fun W (h : W.cell? ⟨mb, mo + i * 7 + 3, none⟩ = some (.string y.sort) ∧ W.cell? ⟨db, q, none⟩ = some (.int .i64 d) ∧ W.cell? ⟨w.heap.size, 2, none⟩ = some (.int .i64 kno) ∧ Kept wr W) => rstints_any (some ⟨mb, mo, none⟩) mn mc _ y.sort d kno W (MT3.out.kept ((HKr.out.trans HKi.out).trans h.2.2.2)) HFm.out)
            have H2 := Lib.hid (fun W (h : W.cell? ⟨mb, mo + i * 7 + 3, none⟩ = some (.string y.sort) ∧ W.cell? ⟨db, q, none⟩ = some (.int .i64 d) ∧ W.cell? ⟨w.heap.size, 2, none⟩ = some (.int .i64 kno) ∧ Kept wr W) => rstints_any A n c xs y.sort d kno W ((HT.out.kept K3.out).kept ((HKr.out.trans HKi.out).trans h.2.2.2)) HFx.out)
            rw [hs1] at H1
            rw [hs2] at H2
            have HTC := Lib.hid (show chgB xs (⟨id, frm, kno, srt, num, den, off⟩ : Eqv) y.sort d = !(decide (s1.1 = s2.1) && decide (s1.2 = s2.2)) by unfold chgB; dsimp only; rw [hs1, hs2])
            have S0 := Lib.hid (show wr.drew.cell? ⟨mb, mo + i * 7 + 3, none⟩ = some (.string y.sort) ∧ wr.drew.cell? ⟨db, q, none⟩ = some (.int .i64 d) ∧ wr.drew.cell? ⟨w.heap.size, 2, none⟩ = some (.int .i64 kno) ∧ Kept wr wr.drew from RS3_step ⟨c3', cd, ck, Kept.refl wr⟩ ((Kept.refl wr).drew))
            obtain ⟨p1, p2⟩ := s1
            obtain ⟨q1, q2⟩ := s2
            dsimp only at H1 H2 HTC
            have j0 : (0 : Int) ≤ (q : Int) := by omega
            have j1 : (q : Int) < (bn : Int) := by omega
            have jt : (q : Int).toNat = q := by omega
            clear hd hs1 hs2 cd ck hqz
            go_upto_region 12 with (fail)
            go_cut [69] (fun s69 wx => s69 = .bool (chgB xs (⟨id, frm, kno, srt, num, den, off⟩ : Eqv) y.sort d) ∧ Kept wr wx)
            case first =>
              by_cases b1 : p1 = q1
              · by_cases b2 : p2 = q2
                · subst b1
                  subst b2
                  have HT1 := Lib.hid (show chgB xs (⟨id, frm, kno, srt, num, den, off⟩ : Eqv) y.sort d = false by rw [HTC.out]; simp)
                  go_region_held3 (fun W => W.cell? ⟨mb, mo + i * 7 + 3, none⟩ = some (.string y.sort) ∧ W.cell? ⟨db, q, none⟩ = some (.int .i64 d) ∧ W.cell? ⟨w.heap.size, 2, none⟩ = some (.int .i64 kno) ∧ Kept wr W)
                    (first
                      | (with_reducible exact S0.out)
                      | (with_reducible refine RS3_step ?_ hkk; assumption)
                      | fail)
                    (first
                      | fail
                      | (go_at_call 124; with_reducible refine (H1.out _ (by first | (with_reducible exact S0.out) | assumption)).mono ?_; rintro e w' ⟨rfl, hkk⟩)
                      | (go_at_call 124; with_reducible refine (H2.out _ (by first | (with_reducible exact S0.out) | assumption)).mono ?_; rintro e w' ⟨rfl, hkk⟩))
                  all_goals
                    obtain ⟨_, _, _, fK⟩ := ‹_ ∧ _ ∧ _ ∧ Kept wr _›
                    have FK := Lib.hid fK
                    clear fK
                    go_wp2
                    go_meet
                    exact ⟨by rw [HT1.out], FK.out⟩
                · have HT1 := Lib.hid (show chgB xs (⟨id, frm, kno, srt, num, den, off⟩ : Eqv) y.sort d = true by rw [HTC.out]; simp [b2])
                  subst b1
                  have b1 : True := trivial
                  have b3 : ¬ q2 = p2 := fun h => b2 h.symm
                  have b4 : (q2 == p2) = false := by simpa using b3
                  go_region_held3 (fun W => W.cell? ⟨mb, mo + i * 7 + 3, none⟩ = some (.string y.sort) ∧ W.cell? ⟨db, q, none⟩ = some (.int .i64 d) ∧ W.cell? ⟨w.heap.size, 2, none⟩ = some (.int .i64 kno) ∧ Kept wr W)
                    (first
                      | (with_reducible exact S0.out)
                      | (with_reducible refine RS3_step ?_ hkk; assumption)
                      | fail)
                    (first
                      | fail
                      | (go_at_call 124; with_reducible refine (H1.out _ (by first | (with_reducible exact S0.out) | assumption)).mono ?_; rintro e w' ⟨rfl, hkk⟩)
                      | (go_at_call 124; with_reducible refine (H2.out _ (by first | (with_reducible exact S0.out) | assumption)).mono ?_; rintro e w' ⟨rfl, hkk⟩))
                  all_goals
                    obtain ⟨_, _, _, fK⟩ := ‹_ ∧ _ ∧ _ ∧ Kept wr _›
                    have FK := Lib.hid fK
                    clear fK
                    go_wp2
                    go_meet
                    exact ⟨by rw [HT1.out], FK.out⟩
              · have HT1 := Lib.hid (show chgB xs (⟨id, frm, kno, srt, num, den, off⟩ : Eqv) y.sort d = true by rw [HTC.out]; simp [b1])
                have b3 : ¬ q1 = p1 := fun h => b1 h.symm
                have b4 : (q1 == p1) = false := by simpa using b3
                have b2 : True := trivial
                go_region_held3 (fun W => W.cell? ⟨mb, mo + i * 7 + 3, none⟩ = some (.string y.sort) ∧ W.cell? ⟨db, q, none⟩ = some (.int .i64 d) ∧ W.cell? ⟨w.heap.size, 2, none⟩ = some (.int .i64 kno) ∧ Kept wr W)
                  (first
                    | (with_reducible exact S0.out)
                    | (with_reducible refine RS3_step ?_ hkk; assumption)
                    | fail)
                  (first
                    | fail
                    | (go_at_call 124; with_reducible refine (H1.out _ (by first | (with_reducible exact S0.out) | assumption)).mono ?_; rintro e w' ⟨rfl, hkk⟩)
                    | (go_at_call 124; with_reducible refine (H2.out _ (by first | (with_reducible exact S0.out) | assumption)).mono ?_; rintro e w' ⟨rfl, hkk⟩))
                all_goals
                  obtain ⟨_, _, _, fK⟩ := ‹_ ∧ _ ∧ _ ∧ Kept wr _›
                  have FK := Lib.hid fK
                  clear fK
                  go_wp2
                  go_meet
                  exact ⟨by rw [HT1.out], FK.out⟩
            obtain ⟨rfl, kxr⟩ := hcut
            obtain ⟨w12, rfl⟩ : ∃ w12, w12 = wc := ⟨_, rfl⟩
            have KX := Lib.hid (HKi.out.trans kxr)
            have OX := Lib.hid (HO2.out.kept kxr)
            have x3 := (kxr.cells _ _ (cell_lt c3')).trans c3'
            clear kxr c3' c6'
            obtain ⟨cb, hcb⟩ : ∃ cb, cb = chgB xs (⟨id, frm, kno, srt, num, den, off⟩ : Eqv) y.sort d := ⟨_, rfl⟩
            rw [← hcb]
            rw [← hcb] at HS
            have HCB := Lib.hid hcb
            clear hcb
            cases cb
            · go_wp2
              go_roundw
              case rel => exact ⟨q + 1, by omega, by go_num, by rw [HS.out, Bool.or_false]; exact OX.out, KX.out⟩
              case measure => simp [intOf]; omega
            · have hsy := bytesI (HCS.out y.sort d HCB.out.symm)
              rw [← HSO.out] at hsy
              rw [hsy] at x3
              have lx := cell_lt x3
              have HSB := Lib.hid (show (fb || (zs.take (q + 1)).any (chgB xs (⟨id, frm, kno, srt, num, den, off⟩ : Eqv) y.sort)) = true by rw [HS.out]; simp)
              rcases OX.out with ⟨h1, rfl⟩ | ⟨h1, g, c9, rfl, h2, h3, h4⟩
              · clear h1
                go_wp2_with fail
                refine (insert_nil sort _).mono ?_
                rintro e w14 ⟨g, c9, rfl, hown, hk14⟩
                have HO14 := Lib.hid (OutA.of_ins hown)
                have K14 := Lib.hid (KX.out.trans hk14)
                clear hown hk14
                go_wp2
                go_roundw
                case rel => exact ⟨q + 1, by omega, by go_num, by rw [HSB.out]; exact HO14.out, K14.out⟩
                case measure => simp [intOf]; omega
              · have H4 := Lib.hid h4
                clear h1 h4
                go_wp2_with fail
                refine (insert_same _ c9 sort g 0 rfl h2 h3 _ H4.out).mono ?_
                rintro e w14 ⟨rfl, hk14⟩
                have HO14 := Lib.hid (show OutA w14 sort (.slice (some ⟨g, 0, none⟩) 1 c9) true from .inr ⟨rfl, g, c9, rfl, h2, h3, (hk14.cells _ _ (cell_lt H4.out)).trans H4.out⟩)
                have K14 := Lib.hid (KX.out.trans hk14)
                clear hk14
                go_wp2
                go_roundw
                case rel => exact ⟨q + 1, by omega, by go_num, by rw [HSB.out]; exact HO14.out, K14.out⟩
                case measure => simp [intOf]; omega
          · obtain rfl : q = bn := by omega
            have ho := HO2.out
            rw [List.take_of_length_le (by rw [HBN.out]; exact Nat.le_refl _)] at ho
            have HO9 := Lib.hid ho
            clear ho
            go_wp2
            go_roundw
            case rel => exact ⟨i + 1, by omega, by go_num, by rw [HROW.out, HR0.out]; exact HO9.out, HKr.out.trans HKi.out⟩
            case measure => simp [intOf]; omega
      · have ho1 : (y.off == 0) = false := by simp [hoff]
        have HR0 := Lib.hid (show rowB xs (⟨id, frm, kno, srt, num, den, off⟩ : Eqv) y = false by unfold rowB; rw [ho1]; rfl)
        clear hoff
        go_wp2_with fail
        go_loopw [9, 11] (fun v j wi => j = .int .i64 0 ∧ OutA wi sort v fb ∧ Kept wa wi) (fun _ _ _ => 0)
        case atStart => exact ⟨by first | rfl | go_num, HOut.out, Kept.refl _⟩
        case round =>
          obtain ⟨rfl, hout2, hki⟩ := hrel
          have HKi := Lib.hid hki
          have c6' := (hki.cells _ _ lc6).trans c6
          have HO2 := Lib.hid hout2
          clear hki c6 c3 hout2
          by_cases hzl : 0 < bn
          · go_wp2
            go_roundw
            case rel =>
              have e9 : ((xs ++ [(⟨id, frm, kno, srt, num, den, off⟩ : Eqv)]).take (i + 1)).any (rowB xs (⟨id, frm, kno, srt, num, den, off⟩ : Eqv)) = fb := by rw [HROW.out, HR0.out, Bool.or_false]
              have hrel9 := HO2.out
              rw [← e9] at hrel9
              have hk9 := HKr.out.trans HKi.out
              first
                | exact ⟨i + 1, by omega, by go_num, hrel9, hk9⟩
                | ((repeat apply Exists.intro); exact ⟨⟨i + 1, by omega, by go_num, hrel9, hk9⟩, rfl⟩)
            case measure => simp [intOf]; omega
          · have hz0 : ¬ (0 : Int) < (bn : Int) := by omega
            go_wp2
            go_roundw
            case rel =>
              have e9 : ((xs ++ [(⟨id, frm, kno, srt, num, den, off⟩ : Eqv)]).take (i + 1)).any (rowB xs (⟨id, frm, kno, srt, num, den, off⟩ : Eqv)) = fb := by rw [HROW.out, HR0.out, Bool.or_false]
              have hrel9 := HO2.out
              rw [← e9] at hrel9
              have hk9 := HKr.out.trans HKi.out
              first
                | exact ⟨i + 1, by omega, by go_num, hrel9, hk9⟩
                | ((repeat apply Exists.intro); exact ⟨⟨i + 1, by omega, by go_num, hrel9, hk9⟩, rfl⟩)
            case measure => simp [intOf]; omega
    · obtain rfl : i = mn := by omega
      have ho := HOut.out
      rw [List.take_of_length_le (by rw [MT.out.1]; exact Nat.le_refl _), HRQ.out] at ho
      have hrs : reachS xs (⟨id, frm, kno, srt, num, den, off⟩ : Eqv) = if reachB xs (⟨id, frm, kno, srt, num, den, off⟩ : Eqv) = true then [sort] else [] := by unfold reachS; rw [HSO.out]
      rcases ho with ⟨h1, rfl⟩ | ⟨h1, g, c9, rfl, h2, h3, h4⟩
      · have HR2 := Lib.hid (show reachS xs (⟨id, frm, kno, srt, num, den, off⟩ : Eqv) = [] by rw [hrs, h1]; rfl)
        clear h1 hrs
        go_wp2
        go_ret2
        rw [HR2.out]
        exact ⟨none, 0, 0, rfl, ⟨rfl, by omega, by omega, fun j z hj => by simp at hj⟩, K3.out.trans HKr.out⟩
      · have HR2 := Lib.hid (show reachS xs (⟨id, frm, kno, srt, num, den, off⟩ : Eqv) = [sort] by rw [hrs, h1]; rfl)
        have H4 := Lib.hid h4
        clear h1 hrs h4
        go_wp2
        go_ret2
        rw [HR2.out]
        exact ⟨some ⟨g, 0, none⟩, 1, c9, rfl, ⟨rfl, h2, h3, fun j z hj => by
          cases j with
          | zero => simp at hj; subst hj; exact ⟨g, 0, rfl, H4.out⟩
          | succ j => simp at hj⟩, K3.out.trans HKr.out⟩
end Go.Proofs.YtcjpecdnenemaaaGreatDoor

namespace Go.Proofs.YtcjpecdnenemaaaGreatDoor
set_option linter.all false
open Go.RowKit Go.Shelf

set_option maxRecDepth 100000 in
set_option maxHeartbeats 4000000 in
theorem reached7_any (A : Option Addr) (n c : Nat) (xs : List Eqv) (x : Eqv) (w : World) (hT : TabA w A n c xs) (hs : x.sort.size ≤ 9223372036854775807) (hE : Env w) :
    Calls Tryz.prog 7 #[.slice A n c, eqV x] w fun e w' => e = .returned (.bool true) ∧ Kept w w' := by
  have hnc := hT.2.1
  have hcm := hT.2.2.1
  obtain ⟨W0, hW0⟩ : ∃ W0, W0 = w.alloc (boxX x) := ⟨_, rfl⟩
  have K0 : RowKit.Hid (Kept w W0) := Lib.hid (by rw [hW0]; exact (Kept.refl _).alloc _)
  have R0 : RowKit.Hid (RowC W0 w.heap.size (eqCells x)) := Lib.hid (by rw [hW0]; exact RowC.new w (eqCells x) 37)
  have HW0 := Lib.hid hW0
  have HT := Lib.hid (hT.kept K0.out)
  have HE := Lib.hid (hE.kept K0.out)
  clear hT hE hW0
  obtain ⟨fb, hfb⟩ : ∃ fb, fb = fewB n := ⟨_, rfl⟩
  have HFB := Lib.hid hfb
  have HF : RowKit.Hid (∀ W, Calls Tryz.prog 47 #[.slice A n c] W fun e w' => e = .returned (.bool fb) ∧ W = w') := Lib.hid (fun W => by rw [hfb]; exact few_any A n c (by omega) W)
  clear hfb
  -- what both return
  have HB : RowKit.Hid (fewB n = true → ∃ ss E, (∀ W, Kept W0 W → Calls Tryz.prog 56 #[.slice A n c, eqV x] W fun e w' => ∃ A1 c1, e = .returned (.tuple #[.slice A1 ss.length c1, .int .i64 E]) ∧ StA_s w' A1 ss.length c1 ss ∧ Kept W w') ∧ (∀ W, Kept W0 W → Calls Tryz.prog 57 #[.slice A n c, eqV x] W fun e w' => ∃ A1 c1, e = .returned (.tuple #[.slice A1 ss.length c1, .int .i64 E]) ∧ StA_s w' A1 ss.length c1 ss ∧ Kept W w')) := Lib.hid (fun hf => by
    have hle := few_le hf
    by_cases h0 : (chkS (xs ++ [x])).2 = 0
    · refine ⟨reachS xs x, 0, fun W hW => ?_, fun W hW => ?_⟩
      · refine (reached_any A n c xs x W (HT.out.kept hW) (by omega) hs h0).mono ?_
        rintro e w' ⟨A1, n1, c1, rfl, h1, h2⟩
        obtain rfl := h1.1
        exact ⟨A1, c1, rfl, h1, h2⟩
      · refine (rreached_any A n c xs x W (HT.out.kept hW) (by omega) hs h0).mono ?_
        rintro e w' ⟨A1, n1, c1, rfl, h1, h2⟩
        obtain rfl := h1.1
        exact ⟨A1, c1, rfl, h1, h2⟩
    · have hb : ((chkS (xs ++ [x])).2 != 0) = true := by simpa using h0
      refine ⟨[], (chkS (xs ++ [x])).2, fun W hW => ?_, fun W hW => ?_⟩
      · refine (reached_err A n c xs x W (HT.out.kept hW) (by omega) hs _ rfl hb).mono ?_
        rintro e w' ⟨rfl, h2⟩
        exact ⟨none, 0, rfl, ⟨rfl, by simp, by omega, fun j z hj => by simp at hj⟩, h2⟩
      · refine (rreached_err A n c xs x W (HT.out.kept hW) hs _ rfl hb).mono ?_
        rintro e w' ⟨rfl, h2⟩
        exact ⟨none, 0, rfl, ⟨rfl, by simp, by omega, fun j z hj => by simp at hj⟩, h2⟩)
  obtain ⟨id, frm, kno, srt, num, den, off⟩ := x
  unfold eqV at HB ⊢
  unfold boxX at HW0
  dsimp only at HB HW0 hs ⊢
  cases fb
  · go_enter Tryz.func7, Tryz.ntmps7
    go_upto_region 1 with (fail)
    rw [← HW0.out]
    go_wp2_with fail
    refine (HF.out _).mono ?_
    rintro e w1 ⟨rfl, rfl⟩
    go_wp2_with fail
    refine (alive_any _ HE.out).mono ?_
    rintro e w2 ⟨rfl, hk2⟩
    go_wp2
    go_ret
    exact ⟨rfl, K0.out.trans hk2⟩
  have x3 := (R0.out 3 _ rfl).1
  have lx := cell_lt x3
  by_cases hl : 100 < srt.size
  · have d1 : decide ((100 : Int) < (srt.size : Int)) = true := decide_eq_true (by omega)
    go_enter Tryz.func7, Tryz.ntmps7
    go_upto_region 1 with (fail)
    rw [← HW0.out]
    go_wp2_with fail
    refine (HF.out _).mono ?_
    rintro e w1 ⟨rfl, rfl⟩
    go_wp2_with fail
    refine (alive_any _ HE.out).mono ?_
    rintro e w2 ⟨rfl, hk2⟩
    go_wp2
    go_ret
    exact ⟨rfl, K0.out.trans hk2⟩
  obtain ⟨ss, E, h56, h57⟩ := HB.out HFB.out.symm
  have H56 := Lib.hid h56
  have H57 := Lib.hid h57
  obtain ⟨k, hk⟩ : ∃ k, k = ss.length := ⟨_, rfl⟩
  rw [← hk] at H56 H57
  have HK := Lib.hid hk
  clear h56 h57 hk
  have d1 : decide ((100 : Int) < (srt.size : Int)) = false := decide_eq_false (by omega)
  clear x3 lx
  have x0 := (R0.out 0 _ rfl).1
  have x1 := (R0.out 1 _ rfl).1
  have x2 := (R0.out 2 _ rfl).1
  have x3 := (R0.out 3 _ rfl).1
  have x4 := (R0.out 4 _ rfl).1
  have x5 := (R0.out 5 _ rfl).1
  have x6 := (R0.out 6 _ rfl).1
  have lx := cell_lt x0
  go_enter Tryz.func7, Tryz.ntmps7
  go_upto_region 1 with (fail)
  rw [← HW0.out]
  go_wp2_with fail
  refine (HF.out _).mono ?_
  rintro e w1 ⟨rfl, rfl⟩
  go_wp2_with fail
  refine (H56.out _ (Kept.refl _)).mono ?_
  rintro e w2 ⟨A1, c1, rfl, hS1, hk2⟩
  have S1 := Lib.hid hS1
  have K2 := Lib.hid hk2
  have RR := R0.out.kept hk2
  clear hS1 hk2 x0 x1 x2 x3 x4 x5 x6 lx
  have x0 := (RR 0 _ rfl).1
  have x1 := (RR 1 _ rfl).1
  have x2 := (RR 2 _ rfl).1
  have x3 := (RR 3 _ rfl).1
  have x4 := (RR 4 _ rfl).1
  have x5 := (RR 5 _ rfl).1
  have x6 := (RR 6 _ rfl).1
  have lx := cell_lt x0
  clear RR
  go_wp2_with fail
  refine (H57.out _ K2.out).mono ?_
  rintro e w3 ⟨A2, c2, rfl, hS2, hk3⟩
  have S2 := Lib.hid hS2
  have S1b := Lib.hid (S1.out.kept hk3)
  have K3 := Lib.hid (K2.out.trans hk3)
  clear hS2 hk3 x0 x1 x2 x3 x4 x5 x6 lx
  go_wp2_with fail
  refine (alive_any _ (HE.out.kept K3.out)).mono ?_
  rintro e w4 ⟨rfl, hk4⟩
  have K4 := Lib.hid (K3.out.trans hk4)
  have HQ : RowKit.Hid (Calls Tryz.prog 50 #[.slice A1 k c1, .slice A2 k c2] w4 fun e w' => e = .returned (.bool true) ∧ Kept w4 w') := Lib.hid (equalS_any A1 A2 k c1 c2 ss w4 (S1b.out.kept hk4) (S2.out.kept hk4))
  clear hk4
  go_wp2_with fail
  refine HQ.out.mono ?_
  rintro e w5 ⟨rfl, hk5⟩
  go_wp2
  go_ret
  exact ⟨by first | rfl | (simp; done), K0.out.trans (K4.out.trans hk5)⟩
end Go.Proofs.YtcjpecdnenemaaaGreatDoor
