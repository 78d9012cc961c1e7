/- Wrong -/
import Derived.Test.YtjaicilnlgjdcaaUc
import Derived.Test.YtjaicilnlgjdcaaUh
namespace Go.Proofs.Ytjaicilnlgjdcaa
set_option linter.all false
open Go.RowKit Go.Shelf
attribute [local go_sem] Oper.semAt_some

/-- a result of numbers, with an error -/
def IdsRes (w : World) (ids : List Int) (er : Int) (e : Ending) (w' : World) : Prop := ∃ A n c, e = .returned (.tuple #[.slice A n c, .int .i64 er]) ∧ IntA w' A n c ids ∧ Kept w w'
def bad (m d : Int) (x : Rcn) : Bool := !(inB x.nu (loW m x.tr) (hiW d x.tr))
def wrL (m d : Int) (l : List Rcn) : List Int := (l.filter (bad m d)).map Rcn.id
theorem wrL_yes {m d : Int} {l : List Rcn} {x : Rcn} (h : bad m d x = true) : wrL m d (l ++ [x]) = wrL m d l ++ [x.id] := by simp [wrL, List.filter_append, h]
theorem wrL_no {m d : Int} {l : List Rcn} {x : Rcn} (h : bad m d x = false) : wrL m d (l ++ [x]) = wrL m d l := by simp [wrL, List.filter_append, h]
theorem wrL_len (m d : Int) (l : List Rcn) : (wrL m d l).length ≤ l.length := by simp [wrL]; exact List.length_filter_le _ _
def wrI (m d : Int) (xs : List Rcn) (sh known : Int) : List Int × Int := if chkI m d xs = 0 then (wrL m d (ofS xs known sh), 0) else ([], chkI m d xs)

/-- Wrong's own variables between two rounds; the round's frame -/
def WI (h B n2 : Nat) (m d : Int) (w : World) (pre : List Rcn) (W : World) : Prop := RowC W h [.int .i64 m, .int .i64 d] ∧ (∃ v, Boxed W B 48 v ∧ W.ownsRow n2 3 1 v (wrL m d pre).length ((wrL m d pre).map (Value.int .i64)) ∧ True) ∧ Below h w W
def WA (h B : Nat) (m d sh known : Int) (A : Option Addr) (n c : Nat) (x : Rcn) (a' : Act) (W : World) : Prop :=
  ∃ Bx, B < Bx ∧ RowC W Bx (rcCells x) ∧ a' = { tmps := #[.agg #[.int .i64 m, .int .i64 d], .slice A n c, .int .i64 sh, .int .i64 known, .pointer (some ⟨h, 0, none⟩), undef, undef, undef, .slice none 0 0, .int .i64 0, .int .i64 0, .pointer (some ⟨B, 0, none⟩), .pointer (some ⟨Bx, 0, none⟩), .agg #[.int .i64 m, .int .i64 d], .slice A n c, .int .i64 0, .int .i64 0, .bool false, undef, .slice A n c, .int .i64 sh, .int .i64 known, .func (.func 108) #[] #[.pointer (some ⟨B + 1, 0, none⟩), .pointer (some ⟨B + 1 + 1 + 1, 0, none⟩), .pointer (some ⟨B + 1 + 1, 0, none⟩)], rcV x, undef, undef, undef, undef, undef, undef, undef, undef, undef, undef, undef, undef, undef], defers := [] }
theorem WI.own (h B n2 : Nat) (m d : Int) (w : World) (B' : Nat) (hB : h ≤ B') (hw : h ≤ w.heap.size) : OwnFrom B' (WI h B n2 m d w) :=
  OwnFrom.and (RowC.own _ _ (fun _ => _)) (OwnFrom.and (Own.from (holdsRow_own n2 B 48 3 1 (fun pre => (wrL m d pre).length) (fun pre => (wrL m d pre).map (Value.int .i64)) (fun _ _ => True)) _) (ownFrom_below hw hB))
theorem WA.own (h B : Nat) (m d sh known : Int) (A : Option Addr) (n c : Nat) (x : Rcn) (a' : Act) (B' : Nat) : OwnFrom B' (fun (_ : Unit) W => WA h B m d sh known A n c x a' W) := by
  rintro s W W' row ⟨Bx, h1, h2, h3⟩ hg hr
  exact ⟨Bx, h1, RowC.own B' Bx (fun (_ : Unit) => rcCells x) s W W' row h2 hg hr, h3⟩

set_option maxRecDepth 100000 in
set_option maxHeartbeats 2000000 in
theorem wrong_any (m d sh known : Int) (A : Option Addr) (n c : Nat) (xs : List Rcn) (w : World) (hT : RcA w A n c xs) (hlt : n ≤ 1000000) :
    Calls Try.prog 53 #[.agg #[.int .i64 m, .int .i64 d], .slice A n c, .int .i64 sh, .int .i64 known] w (IdsRes w (wrI m d xs sh known).1 (wrI m d xs sh known).2) := by
  have HT := Lib.hid hT
  clear hT
  obtain ⟨W0, hW0⟩ : ∃ W0, W0 = w.alloc (.cells #[.int .i64 m, .int .i64 d] 23) := ⟨_, rfl⟩
  have k0 : Kept w W0 := by rw [hW0]; exact ((Kept.refl _).alloc _)
  have c00 : W0.cell? ⟨w.heap.size, 0, none⟩ = some (.int .i64 m) := by rw [hW0]; exact cellNew (by simp) rfl
  have f00 : W0.frozen? ⟨w.heap.size, 0, none⟩ = false := by rw [hW0]; simp [go_sem]
  have c01 : W0.cell? ⟨w.heap.size, 1, none⟩ = some (.int .i64 d) := by rw [hW0]; exact cellNew (by simp) rfl
  have f01 : W0.frozen? ⟨w.heap.size, 1, none⟩ = false := by rw [hW0]; simp [go_sem]
  have BR : RowKit.Hid (∀ W, Kept W0 W → W.cell? ⟨w.heap.size, 0, none⟩ = some (.int .i64 m) ∧ W.frozen? ⟨w.heap.size, 0, none⟩ = false ∧ W.cell? ⟨w.heap.size, 1, none⟩ = some (.int .i64 d) ∧ W.frozen? ⟨w.heap.size, 1, none⟩ = false) := Lib.hid (fun W hW => ⟨(hW.cells _ _ (cell_lt c00)).trans c00, (hW.frozens _ _ (cell_lt c00)).trans f00, (hW.cells _ _ (cell_lt c01)).trans c01, (hW.frozens _ _ (cell_lt c01)).trans f01⟩)
  have Z0 : W0.heap.size = w.heap.size + 1 := by rw [hW0]; simp
  have ZZ := Lib.hid Z0
  have HW := Lib.hid hW0
  have K0 := Lib.hid k0
  clear hW0 k0 Z0
  have kk := Kept.refl W0
  have b0 := cell_lt c00
  obtain ⟨ck, hck⟩ : ∃ ck, ck = chkI m d xs := ⟨_, rfl⟩
  have HC : RowKit.Hid (∀ W, Kept W0 W → Calls Try.prog 95 #[.agg #[.int .i64 m, .int .i64 d], .slice A n c] W fun e w' => e = .returned (.int .i64 ck) ∧ Kept W w') := Lib.hid (fun W hW => by rw [hck]; exact check_any m d A n c xs W (HT.out.kept (K0.out.trans hW)) hlt)
  by_cases h0 : ck = 0
  · subst h0
    have HCK := Lib.hid hck
    clear hck
    refine (callsIn_wide (n := 8)).1 ?_
    refine callsIn_of_wp_marks Try.func53 rfl trivial ?_ rfl
    simp only [Try.ntmps53, List.size_toArray, List.length_cons, List.length_nil, Nat.reduceAdd, Nat.reduceSub, Array.replicate_succ, Array.replicate_zero, List.push_toArray, List.append_toArray, List.nil_append, List.cons_append]
    gi_wp2_with fail
    rw [← HW.out]
    refine ⟨trivial, ?_⟩
    refine (callsIn_wide.2 (HC.out _ kk)).mono ?_
    rintro e w1 ⟨rfl, hk1⟩
    obtain ⟨c00, f00, c01, f01⟩ := BR.out _ hk1
    obtain ⟨B, hB⟩ : ∃ B, B = w1.heap.size := ⟨_, rfl⟩
    gi_wp2_with fail
    refine ⟨trivial, ?_⟩
    refine (callsIn_wide.2 (countingOf_any A n c sh known _)).mono ?_
    rintro e w2 ⟨rfl, hw2⟩
    gi_wp2_with fail
    obtain ⟨W2, hW2⟩ : ∃ W2, W2 = w2 := ⟨_, rfl⟩
    rw [← hw2, ← hW2, ← hB]
    subst hW2
    have kW1 : Kept w w1 := K0.out.trans hk1
    have kW2 : Kept w1 W2 := by rw [hw2]; exact ((((Kept.refl _).alloc _).alloc _).alloc _).alloc _
    have zB : W2.heap.size = B + 4 := by rw [hw2, hB]; simp
    have r0 : RowC W2 w.heap.size [.int .i64 m, .int .i64 d] := RowC.kept (W := w1) (fun j v hv => by
      match j with
      | 0 => cases hv; exact ⟨c00, f00⟩
      | 1 => cases hv; exact ⟨c01, f01⟩
      | j + 2 => simp at hv) kW2
    have r11 : Boxed W2 B 48 (.slice none 0 0) := by
      rw [hw2, hB]
      exact (((Boxed.new w1 48 (.slice none 0 0)).alloc _).alloc _).alloc _
    have t1 : W2.cell? ⟨B + 1, 0, none⟩ = some (.slice A n c) := by rw [hw2, hB]; exact cellOldK (cellOldK (cellNew (by simp) rfl))
    have t2 : W2.cell? ⟨B + 1 + 1, 0, none⟩ = some (.int .i64 sh) := by rw [hw2, hB]; exact cellOldK (cellNew (by simp) rfl)
    have t3 : W2.cell? ⟨B + 1 + 1 + 1, 0, none⟩ = some (.int .i64 known) := by rw [hw2, hB]; exact cellNew (by simp) rfl
    have hBw : w.heap.size < B := by rw [hB]; exact cell_lt c00
    have hI0 : WI w.heap.size B (W2.heap.size + 2 + 3) m d w [] W2 := ⟨r0, ⟨_, r11, World.ownsRow_nil _ _ _ _, trivial⟩, (kW1.trans kW2).below⟩
    have hseq := countOf_atC 7 (by omega) (B + 1) (B + 1 + 1 + 1) (B + 1 + 1) A n c xs known sh w W2 t1 t3 t2 HT.out hlt (kW1.trans kW2) (W2.heap.size + 2) (by omega)
    have kW := kW1.trans kW2
    have HK := Lib.hid kW
    have ZB := Lib.hid zB
    have HB := Lib.hid hB
    clear hw2 kW1 kW2 zB r0 r11 t1 t2 t3 c00 c01 f00 f01 hB
    refine rangeOverC (by omega) (gf := 108) rfl (enters_of Try.func108 (by kernel_rfl) rfl) kW.size hseq (fun _ => rfl) (WI w.heap.size B (W2.heap.size + 2 + 3) m d w) (fun _ _ _ => False) (WI.own _ _ _ _ _ _ _ kW.size (Nat.le_refl _)) (fun _ _ _ _ _ hs _ _ => hs) hI0 (WA w.heap.size B m d sh known A n c) (fun x a' => WA.own _ _ _ _ _ _ _ _ _ _ _ _) ?assign ?body ?done ?stop
    case assign =>
      intro l pre x V K hi hK
      dsimp only [rcV]
      gi_wp2
      have hst : B < V.heap.size := by obtain ⟨v, hv, _⟩ := hi.2.1; exact hv.lt
      have hV : w.heap.size ≤ V.heap.size := hi.2.2.size
      exact hK _ _ ((KeepsOthers.alloc _ _).from _) (KpD.of_kept ((Kept.refl V).alloc _) hV) (OwnFrom.alloc (B := W2.heap.size) (WI.own _ _ _ _ _ _ _ HK.out.size (Nat.le_refl _)) _ hi) ⟨V.heap.size, hst, RowC.new V (rcCells x) 76, rfl⟩
    case body =>
      rintro l pre x a' V hi ⟨Bx, hBx, bX, rfl⟩ hsz hlt2
      obtain ⟨i0, hi0, hz0, hz1, hz2⟩ := info_parts info3
      have hlen : (cntS xs known).length ≤ 1000000 := by have := List.length_filter_le (fun x : Rcn => decide (x.kn ≤ known)) xs; have := HT.out.1; unfold cntS; omega
      have hwl := wrL_len m d pre
      have x0 := (bX 0 _ rfl).1
      have x1 := (bX 1 _ rfl).1
      have x2 := (bX 2 _ rfl).1
      have x3 := (bX 3 _ rfl).1
      have x4 := (bX 4 _ rfl).1
      have x5 := (bX 5 _ rfl).1
      have hxV := cell_lt x0
      obtain ⟨r0, ⟨v, hv, hrow, _⟩, hkV⟩ := hi
      have q0 := (r0 0 _ rfl).1
      have q1 := (r0 1 _ rfl).1
      have hBV := hv.lt
      have R0 := Lib.hid r0
      have BX := Lib.hid bX
      have HV := Lib.hid hv
      have HR := Lib.hid hrow
      have HKV := Lib.hid (show Kept w V from hkV)
      have hszw := HKV.out.size
      clear bX hI0 hseq r0
      rcases hq : bad m d x with _ | _
      · have HQ := Lib.hid hq
        have HA : RowKit.Hid (∀ W, Calls Try.prog 62 #[.agg #[.int .i64 m, .int .i64 d], .int .i64 x.tr, .int .i64 x.nu] W fun e w' => e = .returned (.bool true) ∧ Kept W w') := Lib.hid (fun W => (fitsW_any m d x.tr x.nu W).mono fun _ _ ⟨he, hk⟩ => ⟨by rw [he]; unfold bad at hq; simp at hq; rw [hq], hk⟩)
        clear hq
        gi_wp2_with fail
        refine ⟨trivial, ?_⟩
        refine (CallsIn.inRound l (callsIn_wide.2 (HA.out _))).mono ?_
        rintro e w3 ⟨rfl, hk3⟩
        gi_wp2_with fail
        have hgr := kept_grown hk3
        exact ⟨hk3.others.from _, KpD.of_kept hk3 hszw, R0.out.kept hk3, ⟨v, HV.out.kept hgr (by simp), by rw [wrL_no HQ.out]; exact HR.out.kept hgr (Classical.em _), trivial⟩, HKV.out.trans hk3⟩
      · have HQ := Lib.hid hq
        have HA : RowKit.Hid (∀ W, Calls Try.prog 62 #[.agg #[.int .i64 m, .int .i64 d], .int .i64 x.tr, .int .i64 x.nu] W fun e w' => e = .returned (.bool false) ∧ Kept W w') := Lib.hid (fun W => (fitsW_any m d x.tr x.nu W).mono fun _ _ ⟨he, hk⟩ => ⟨by rw [he]; unfold bad at hq; simp at hq; rw [hq], hk⟩)
        clear hq
        gi_wp2_with fail
        refine ⟨trivial, ?_⟩
        refine (CallsIn.inRound l (callsIn_wide.2 (HA.out _))).mono ?_
        rintro e w3 ⟨rfl, hk3⟩
        have hgr := kept_grown hk3
        have hv3 := HV.out.kept hgr (by simp)
        have hrow3 := HR.out.kept hgr (Classical.em _)
        have y0 := (hk3.cells _ _ hxV).trans x0
        have hc := hv3.cell
        have h3z := hk3.size
        have HK3 := Lib.hid hk3
        clear hgr hk3 x0 x1 x2 x3 x4 x5
        gi_wp2_with (gi_at_builtin; refine wpListIn_append_own _ rfl _ _ 48 rfl (W2.heap.size + 2 + 3) 3 i0 (.int .i64 0) 1 8 Try.underlying48 hi0 hz0 hz1 hz2 rfl (by decide) _ _ _ rfl (hrow3.alloc _) ⟨w3.heap.size, 0, none⟩ 1 1 [.int .i64 x.id] rfl rfl (cell_one_new _ _ _) (by simp [Value.oneCell']) (by unfold maxLen; omega) (by omega) (by simp; omega) ?_; intro v' w4 hown' hgrow _; obtain ⟨g', cap', rfl⟩ := ownsRow_succ hown'; obtain ⟨hv1, hv2, hr2, hk2, ho2, hrr⟩ := appendedD (n0 := w.heap.size) (n1 := W2.heap.size + 2) (bs := B + 1 + 1) hv3 (by decide) hrow3 (by omega) (by omega) (by have := ZB.out; omega) (by have := ZB.out; omega) (by omega) hown' hgrow; have hc1 := hv1.cell; have hf1 := hv1.frozen)
        exact ⟨(HK3.out.others.trans ho2).from _, (KpD.of_kept HK3.out hszw).trans hk2, hrr _ _ (by have := ZB.out; omega) (by omega) (R0.out.kept HK3.out), ⟨_, hv2, by rw [wrL_yes HQ.out]; simpa using hr2, trivial⟩, (HKV.out.trans HK3.out).below.trans hk2.1⟩
    case done =>
      rintro D ys V hD rfl ⟨r0, ⟨v, hv, hrow, _⟩, hkV⟩ hK
      have hc := hv.cell
      have HS : RowKit.Hid (wrI m d xs sh known = (wrL m d (ofS xs known sh), 0)) := Lib.hid (by rw [wrI, ← HCK.out, if_pos rfl])
      gi_wp2
      refine ⟨by simp, .inl ⟨_, _, rfl, run_takeDeferred hK, ?_⟩⟩
      have hr2 := ownsRow_putObj hrow (.deferred none) hK rfl
      obtain ⟨A', c', rfl, hA⟩ := own_out hr2
      exact ⟨_, results_tmp2 rfl _ _ _, A', (wrL m d (ofS xs known sh)).length, c', by rw [HS.out]; rfl, by rw [HS.out]; exact hA, (show Kept w V from hkV).putDeferred (by have := HK.out.size; omega) hK rfl rfl⟩
    case stop =>
      rintro D c pre V hD hp h _
      exact h.elim
  · have HS : RowKit.Hid (wrI m d xs sh known = ([], ck)) := Lib.hid (by rw [wrI, ← hck, if_neg h0])
    clear hck
    rw [HS.out]
    go_enter Try.func53, Try.ntmps53
    go_upto_region 1 with (fail)
    rw [← HW.out]
    go_wp2_with (first
        | (go_at_call 95; refine (HC.out _ kk).mono ?_; rintro e w1 ⟨rfl, hk⟩; replace kk := (by first | with_reducible exact kk.trans hk | with_reducible exact (kk.alloc _).trans hk | with_reducible exact kk.drew.trans hk | with_reducible exact (kk.drew.alloc _).trans hk | with_reducible exact (kk.alloc _).drew.trans hk | with_reducible exact ((kk.alloc _).alloc _).trans hk | with_reducible exact ((kk.drew.alloc _).alloc _).trans hk | fail); obtain ⟨c00, f00, c01, f01⟩ := BR.out _ kk; have b0 := cell_lt c00)
        | fail)
    go_ret2
    exact ⟨none, 0, 0, rfl, IntA.nil _, K0.out.trans kk⟩
end Go.Proofs.Ytjaicilnlgjdcaa
