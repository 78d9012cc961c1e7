/- Why -/
import Derived.Test.YtdeokdlkjgpffaaGreatDoorUi
import Derived.Deep.CutRange
namespace Go.Proofs.YtdeokdlkjgpffaaGreatDoor
set_option linter.all false
open Go.RowKit Go.Shelf
attribute [local go_sem] Oper.semAt_some

def whyStep (rm rd : Int) (s : Bool × Bool × List Int) (x : Rcn) : Bool × Bool × List Int :=
  if (s.1 && decide (askM x = rm)) = true then (false, s.2.1, s.2.2 ++ [x.id]) else if (s.2.1 && decide (askD x = rd)) = true then (s.1, false, s.2.2 ++ [x.id]) else s
def whyF (rm rd : Int) (a b : Bool) (l : List Rcn) : Bool × Bool × List Int := l.foldl (whyStep rm rd) (a, b, [])
theorem whyF_snoc (rm rd : Int) (a b : Bool) (l : List Rcn) (x : Rcn) : whyF rm rd a b (l ++ [x]) = whyStep rm rd (whyF rm rd a b l) x := by simp [whyF]
theorem whyStep_len (rm rd : Int) (s : Bool × Bool × List Int) (x : Rcn) : (whyStep rm rd s x).2.2.length ≤ s.2.2.length + 1 := by
  unfold whyStep; split
  · simp
  · split <;> simp
theorem whyF_len (rm rd : Int) (a b : Bool) (l : List Rcn) : (whyF rm rd a b l).2.2.length ≤ l.length := by
  suffices h : ∀ (l : List Rcn) (s : Bool × Bool × List Int), (l.foldl (whyStep rm rd) s).2.2.length ≤ s.2.2.length + l.length by
    have := h l (a, b, []); simpa [whyF] using this
  intro l
  induction l with
  | nil => intro s; simp
  | cons x l ih => intro s; have h1 := ih (whyStep rm rd s x); have h2 := whyStep_len rm rd s x; simp only [List.foldl_cons, List.length_cons]; omega
def whyI (m d : Int) (xs : List Rcn) (sh known : Int) : List Int × Int :=
  if (rateI m d xs sh known).2.2 = 0 then ((whyF (rateI m d xs sh known).1 (rateI m d xs sh known).2.1 (decide (m < (rateI m d xs sh known).1)) (decide (d < (rateI m d xs sh known).2.1)) (ofS xs known sh)).2.2, 0) else ([], (rateI m d xs sh known).2.2)

theorem own_far {W : World} {base n b size : Nat} {e : TypeId} {v u : Value} {xs : List Value} (h : W.ownsRow base e size v n xs) (hb : b < base) : (W.setCell ⟨b, 0, none⟩ u).ownsRow base e size v n xs := by
  refine h.kept (grownBy_setCell' W b u) ?_
  rcases h.2 with ⟨rfl, _⟩ | ⟨g, cap, cur, rfl, hg, _⟩
  · exact .inl rfl
  · refine .inr ?_
    simp only [Value.ownBlock, ne_eq, Option.some.injEq]
    omega
/-- Why's own variables between two rounds -/
def YI (h b10 b12 b13 b14 n2 : Nat) (rm rd : Int) (fa fb : Bool) (w : World) (pre : List Rcn) (W : World) : Prop := RowC W b10 [.int .i64 rm, .int .i64 rd] ∧ RowC W b13 [.bool (whyF rm rd fa fb pre).1] ∧ RowC W b14 [.bool (whyF rm rd fa fb pre).2.1] ∧
  (∃ v, Boxed W b12 52 v ∧ W.ownsRow n2 3 1 v (whyF rm rd fa fb pre).2.2.length ((whyF rm rd fa fb pre).2.2.map (Value.int .i64)) ∧ True) ∧ Below h w W
theorem YI.own (h b10 b12 b13 b14 n2 : Nat) (rm rd : Int) (fa fb : Bool) (w : World) (B' : Nat) (hB : h ≤ B') (hw : h ≤ w.heap.size) : OwnFrom B' (YI h b10 b12 b13 b14 n2 rm rd fa fb w) :=
  OwnFrom.and (RowC.own _ _ (fun _ => _)) (OwnFrom.and (RowC.own _ _ (fun pre => [.bool (whyF rm rd fa fb pre).1])) (OwnFrom.and (RowC.own _ _ (fun pre => [.bool (whyF rm rd fa fb pre).2.1])) (OwnFrom.and (Own.from (holdsRow_own n2 b12 52 3 1 (fun pre => (whyF rm rd fa fb pre).2.2.length) (fun pre => (whyF rm rd fa fb pre).2.2.map (Value.int .i64)) (fun _ _ => True)) _) (ownFrom_below hw hB))))
def YA (b b' : Nat) (T : Value → Value → Array Value) (x : Rcn) (a' : Act) (W : World) : Prop := ∃ Bx, (b < Bx ∧ b' < Bx) ∧ RowC W Bx (rcCells x) ∧ a' = { tmps := T (.pointer (some ⟨Bx, 0, none⟩)) (rcV x), defers := [] }
theorem YA.own (b b' : Nat) (T : Value → Value → Array Value) (x : Rcn) (a' : Act) (B' : Nat) : OwnFrom B' (fun (_ : Unit) W => YA b b' T x a' W) := by
  rintro s W W' row ⟨Bx, h1, h2, h3⟩ hg hr
  exact ⟨Bx, h1, RowC.own B' Bx (fun (_ : Unit) => rcCells x) s W W' row h2 hg hr, h3⟩

set_option maxRecDepth 100000 in
set_option maxHeartbeats 2000000 in
theorem why_any (m d sh known : Int) (A : Option Addr) (n c : Nat) (xs : List Rcn) (w : World) (hT : RcA w A n c xs) (hlt : n ≤ 1000000) :
    Calls Tryz.prog 22 #[.agg #[.int .i64 m, .int .i64 d], .slice A n c, .int .i64 sh, .int .i64 known] w (IdsRes w (whyI m d xs sh known).1 (whyI m d xs sh known).2) := by
  have HT := Lib.hid hT
  clear hT
  obtain ⟨W0, hW0⟩ : ∃ W0, W0 = w.alloc (.cells #[.int .i64 m, .int .i64 d] 38) := ⟨_, rfl⟩
  have k0 : Kept w W0 := by rw [hW0]; exact ((Kept.refl _).alloc _)
  have c00 : W0.cell? ⟨w.heap.size, 0, none⟩ = some (.int .i64 m) := by rw [hW0]; exact cellNew (by simp) rfl
  have f00 : W0.frozen? ⟨w.heap.size, 0, none⟩ = false := by rw [hW0]; simp [go_sem]
  have c01 : W0.cell? ⟨w.heap.size, 1, none⟩ = some (.int .i64 d) := by rw [hW0]; exact cellNew (by simp) rfl
  have f01 : W0.frozen? ⟨w.heap.size, 1, none⟩ = false := by rw [hW0]; simp [go_sem]
  have BR : RowKit.Hid (∀ W, Kept W0 W → W.cell? ⟨w.heap.size, 0, none⟩ = some (.int .i64 m) ∧ W.frozen? ⟨w.heap.size, 0, none⟩ = false ∧ W.cell? ⟨w.heap.size, 1, none⟩ = some (.int .i64 d) ∧ W.frozen? ⟨w.heap.size, 1, none⟩ = false) := Lib.hid (fun W hW => ⟨(hW.cells _ _ (cell_lt c00)).trans c00, (hW.frozens _ _ (cell_lt c00)).trans f00, (hW.cells _ _ (cell_lt c01)).trans c01, (hW.frozens _ _ (cell_lt c01)).trans f01⟩)
  have Z0 : W0.heap.size = w.heap.size + 1 := by rw [hW0]; simp
  have ZZ := Lib.hid Z0
  have HW := Lib.hid hW0
  have K0 := Lib.hid k0
  clear hW0 k0 Z0
  have kk := Kept.refl W0
  have b0 := cell_lt c00
  obtain ⟨rm, rd, re, hre⟩ : ∃ rm rd re, rateI m d xs sh known = (rm, rd, re) := ⟨_, _, _, rfl⟩
  have HC : RowKit.Hid (∀ W, Kept W0 W → Calls Tryz.prog 21 #[.agg #[.int .i64 m, .int .i64 d], .slice A n c, .int .i64 sh, .int .i64 known] W fun e w' => e = .returned (.tuple #[.agg #[.int .i64 rm, .int .i64 rd], .int .i64 re]) ∧ Kept W w') := Lib.hid (fun W hW => by
    have := rateOf_any m d sh known A n c xs W (HT.out.kept (K0.out.trans hW)) hlt
    rw [hre] at this
    exact this)
  by_cases h0 : re = 0
  · subst h0
    have HRE := Lib.hid hre
    clear hre
    refine (callsIn_wide (n := 8)).1 ?_
    refine callsIn_of_wp_marks Tryz.func22 rfl trivial ?_ rfl
    simp only [Tryz.ntmps22, List.size_toArray, List.length_cons, List.length_nil, Nat.reduceAdd, Nat.reduceSub, Array.replicate_succ, Array.replicate_zero, List.push_toArray, List.append_toArray, List.nil_append, List.cons_append]
    refine wpIn_wide.2 ?_
    go_wp2_with fail
    rw [← HW.out]
    refine (HC.out _ kk).mono ?_
    rintro e w1 ⟨rfl, hk1⟩
    obtain ⟨c00, f00, c01, f01⟩ := BR.out _ hk1
    obtain ⟨B, hB⟩ : ∃ B, B = w1.heap.size := ⟨_, rfl⟩
    have HB := Lib.hid hB
    have b0 := cell_lt c00
    clear hB
    go_upto_region 5 with (fail)
    obtain ⟨W3, hW3⟩ : ∃ W3, W3 = (w1.alloc (.cells #[.int .i64 rm, .int .i64 rd] 38)).alloc (.cells #[.slice none 0 0] 52) := ⟨_, rfl⟩
    rw [← hW3]
    have k3 : Kept w1 W3 := by rw [hW3]; exact ((Kept.refl _).alloc _).alloc _
    have z3 : W3.heap.size = w1.heap.size + 1 + 1 := by rw [hW3]; simp
    have r0 : RowC W3 w.heap.size [.int .i64 m, .int .i64 d] := RowC.kept (W := w1) (fun j v hv => by
      match j with
      | 0 => cases hv; exact ⟨c00, f00⟩
      | 1 => cases hv; exact ⟨c01, f01⟩
      | j + 2 => simp at hv) k3
    have r10 : RowC W3 w1.heap.size [.int .i64 rm, .int .i64 rd] := by rw [hW3]; exact (RowC.new w1 [.int .i64 rm, .int .i64 rd] 38).kept ((Kept.refl _).alloc _)
    have r12 : Boxed W3 (w1.heap.size + 1) 52 (.slice none 0 0) := by
      rw [hW3]
      have := Boxed.new (w1.alloc (.cells #[.int .i64 rm, .int .i64 rd] 38)) 52 (.slice none 0 0)
      rwa [World.size_alloc] at this
    have q0 := (r0 0 _ rfl).1
    have q1 := (r0 1 _ rfl).1
    have q2 := (r10 0 _ rfl).1
    have q3 := (r10 1 _ rfl).1
    have R0 := Lib.hid r0
    have R10 := Lib.hid r10
    have R12 := Lib.hid r12
    have K3 := Lib.hid ((K0.out.trans hk1).trans k3)
    have Z3 := Lib.hid z3
    have hb3 : w.heap.size < w1.heap.size := b0
    clear hW3 k3 z3 r0 r10 r12 c00 f00 c01 f01
    have hlq := cell_lt q3
    have hlr : w.heap.size < W3.heap.size := by omega
    have hlq1 : w1.heap.size < W3.heap.size + 1 := by omega
    have hlr1 : w.heap.size < W3.heap.size + 1 := by omega
    go_cut [13, 14] from 29 to 38 (fun p q wx => ∃ b13 b14, p = .pointer (some ⟨b13, 0, none⟩) ∧ q = .pointer (some ⟨b14, 0, none⟩) ∧ b13 ≠ b14 ∧ W3.heap.size ≤ b13 ∧ W3.heap.size ≤ b14 ∧ RowC wx b13 [.bool (decide (m < rm))] ∧ RowC wx b14 [.bool (decide (d < rd))] ∧ Kept W3 wx)
    case first =>
      have HS4 : RowKit.Hid (∀ W, Kept W3 W → W.cell? ⟨w.heap.size, 0, none⟩ = some (.int .i64 m) ∧ W.cell? ⟨w.heap.size, 1, none⟩ = some (.int .i64 d) ∧ W.cell? ⟨w1.heap.size, 0, none⟩ = some (.int .i64 rm) ∧ W.cell? ⟨w1.heap.size, 1, none⟩ = some (.int .i64 rd) ∧ Kept W3 W) := Lib.hid (fun W hW => ⟨(hW.cells _ _ (cell_lt q0)).trans q0, (hW.cells _ _ (cell_lt q1)).trans q1, (hW.cells _ _ (cell_lt q2)).trans q2, (hW.cells _ _ (cell_lt q3)).trans q3, hW⟩)
      go_region_held3 (fun W => W.cell? ⟨w.heap.size, 0, none⟩ = some (.int .i64 m) ∧ W.cell? ⟨w.heap.size, 1, none⟩ = some (.int .i64 d) ∧ W.cell? ⟨w1.heap.size, 0, none⟩ = some (.int .i64 rm) ∧ W.cell? ⟨w1.heap.size, 1, none⟩ = some (.int .i64 rd) ∧ Kept W3 W)
        (first
          | exact HS4.out _ ((Kept.refl _).drew)
          | exact HS4.out _ (((Kept.refl _).drew).alloc _)
          | exact HS4.out _ ((((Kept.refl _).drew).alloc _).alloc _)
          | exact HS4.out _ (((((Kept.refl _).drew).alloc _).alloc _).setCell (by simp) _)
          | exact HS4.out _ ((((((Kept.refl _).drew).alloc _).alloc _).setCell (by simp) _).setCell (by simp) _)
          | exact HS4.out _ ((((Kept.refl _).drew).alloc _).setCell (by simp) _)
          | fail)
        (fail)
      all_goals go_wp2
      all_goals go_meet
      · exact ⟨W3.heap.size, W3.heap.size + 1, rfl, rfl, by omega, by omega, by omega, ((RowC.new W3 [.bool (decide (m < rm))] 4).kept ((Kept.refl _).alloc _)).drew, (by have := (RowC.new (W3.alloc (.cells #[.bool (decide (m < rm))] 4)) [.bool (decide (d < rd))] 4).drew; rwa [World.size_alloc] at this), (((Kept.refl _).alloc _).alloc _).drew⟩
      · exact ⟨W3.heap.size + 1, W3.heap.size, rfl, rfl, by omega, by omega, by omega, (by have := (RowC.new (W3.alloc (.cells #[.bool (decide (d < rd))] 4)) [.bool (decide (m < rm))] 4).drew; rwa [World.size_alloc] at this), ((RowC.new W3 [.bool (decide (d < rd))] 4).kept ((Kept.refl _).alloc _)).drew, (((Kept.refl _).alloc _).alloc _).drew⟩
    case rest =>
      obtain ⟨b13, b14, rfl, rfl, hbb, hb13, hb14, r13, r14, k4⟩ := hcut
      have hl13 := cell_lt (r13 0 _ rfl).1
      have hl14 := cell_lt (r14 0 _ rfl).1
      obtain ⟨B, hB⟩ : ∃ B, B = wc.heap.size := ⟨_, rfl⟩
      have HB4 := Lib.hid hB
      have R13 := Lib.hid r13
      have R14 := Lib.hid r14
      have K4 := Lib.hid k4
      clear r13 r14 k4 hB q0 q1 q2 q3
      go_wp2_with fail
      refine (countingOf_any A n c sh known _).mono ?_
      rintro e w2 ⟨rfl, hw2⟩
      go_wp2_with fail
      obtain ⟨W2, hW2⟩ : ∃ W2, W2 = w2 := ⟨_, rfl⟩
      rw [← hw2, ← hW2, ← HB4.out]
      subst hW2
      have kW2 : Kept wc W2 := by rw [hw2]; exact (((Kept.refl _).alloc _).alloc _).alloc _
      have zB : W2.heap.size = B + 3 := by rw [hw2, HB4.out]; simp
      have t1 : W2.cell? ⟨B, 0, none⟩ = some (.slice A n c) := by rw [hw2, HB4.out]; exact cellOldK (cellOldK (cellNew (by simp) rfl))
      have t2 : W2.cell? ⟨B + 1, 0, none⟩ = some (.int .i64 sh) := by rw [hw2, HB4.out]; exact cellOldK (cellNew (by simp) rfl)
      have t3 : W2.cell? ⟨B + 1 + 1, 0, none⟩ = some (.int .i64 known) := by rw [hw2, HB4.out]; exact cellNew (by simp) rfl
      have kW : Kept w W2 := (K3.out.trans K4.out).trans kW2
      have lB : wc.heap.size = B := HB4.out.symm
      have LB := Lib.hid lB
      have hI0 : YI w.heap.size w1.heap.size (w1.heap.size + 1) b13 b14 (W2.heap.size + 2 + 3) rm rd (decide (m < rm)) (decide (d < rd)) w [] W2 :=
        ⟨(R10.out.kept K4.out).kept kW2, R13.out.kept kW2, R14.out.kept kW2, ⟨_, (R12.out.kept (kept_grown K4.out) (by simp)).kept (kept_grown kW2) (by simp), World.ownsRow_nil _ _ _ _, trivial⟩, kW.below⟩
      have hseq := countOf_atC 7 (by omega) B (B + 1 + 1) (B + 1) A n c xs known sh w W2 t1 t3 t2 HT.out hlt kW (W2.heap.size + 2) (by omega)
      have hz3 := Z3.out
      have hord : w.heap.size < w1.heap.size ∧ w1.heap.size + 1 < b13 ∧ w1.heap.size + 1 < b14 ∧ b13 < B ∧ b14 < B := by omega
      have HK := Lib.hid kW
      have ZB := Lib.hid zB
      have HORD := Lib.hid hord
      clear hw2 kW2 zB t1 t2 t3 lB hz3 hord
      refine (wpIn_wide (n := 8)).1 ?_
      refine rangeOverC (by omega) (gf := 64) rfl (enters_of Tryz.func64 (by kernel_rfl) rfl) kW.size hseq (fun _ => rfl) (YI w.heap.size w1.heap.size (w1.heap.size + 1) b13 b14 (W2.heap.size + 2 + 3) rm rd (decide (m < rm)) (decide (d < rd)) w) (fun _ _ _ => False) (YI.own _ _ _ _ _ _ _ _ _ _ _ _ kW.size (Nat.le_refl _)) (fun _ _ _ _ _ hs _ _ => hs) hI0
        (YA b13 b14 (fun p v => #[.agg #[.int .i64 m, .int .i64 d], .slice A n c, .int .i64 sh, .int .i64 known, .pointer (some ⟨w.heap.size, 0, none⟩), undef, undef, undef, .slice none 0 0, .int .i64 0, .pointer (some ⟨w1.heap.size, 0, none⟩), .int .i64 0, .pointer (some ⟨w1.heap.size + 1, 0, none⟩), .pointer (some ⟨b13, 0, none⟩), .pointer (some ⟨b14, 0, none⟩), p, undef, undef, .tuple #[.agg #[.int .i64 rm, .int .i64 rd], .int .i64 0], .agg #[.int .i64 m, .int .i64 d], .slice A n c, .int .i64 sh, .int .i64 known, .tuple #[.agg #[.int .i64 rm, .int .i64 rd], .int .i64 0], .agg #[.int .i64 rm, .int .i64 rd], .int .i64 0, .int .i64 0, .bool false, undef, u29, u30, u31, u32, u33, u34, u35, u36, u37, u38, .slice A n c, .int .i64 sh, .int .i64 known, .func (.func 64) #[] #[.pointer (some ⟨B, 0, none⟩), .pointer (some ⟨B + 1 + 1, 0, none⟩), .pointer (some ⟨B + 1, 0, none⟩)], v, undef, undef, undef, undef, undef, undef, undef, undef, undef, undef, undef, undef, undef, undef, undef, undef, undef, undef, undef, undef, undef, undef, undef, undef, undef, undef, undef, undef, undef, undef, undef, undef, undef, undef])) (fun x a' => YA.own _ _ _ _ _ _) ?assign ?body ?done ?stop
      case assign =>
        intro l pre x V K hi hK
        dsimp only [rcV]
        gi_wp2
        have hst : b13 < V.heap.size ∧ b14 < V.heap.size := ⟨cell_lt (hi.2.1 0 _ rfl).1, cell_lt (hi.2.2.1 0 _ rfl).1⟩
        have hV : w.heap.size ≤ V.heap.size := hi.2.2.2.2.size
        exact hK _ _ ((KeepsOthers.alloc _ _).from _) (KpD.of_kept ((Kept.refl V).alloc _) hV) (OwnFrom.alloc (B := W2.heap.size) (YI.own _ _ _ _ _ _ _ _ _ _ _ _ HK.out.size (Nat.le_refl _)) _ hi) ⟨V.heap.size, hst, RowC.new V (rcCells x) 25, rfl⟩
      case body =>
        rintro l pre x a' V hi ⟨Bx, hBx, bX, rfl⟩ hsz hlt2
        obtain ⟨i0, hi0, hz0, hz1, hz2⟩ := info_parts info3
        have hlen : (cntS xs known).length ≤ 1000000 := by have := List.length_filter_le (fun x : Rcn => decide (x.kn ≤ known)) xs; have := HT.out.1; unfold cntS; omega
        have hwl := whyF_len rm rd (decide (m < rm)) (decide (d < rd)) pre
        have x0 := (bX 0 _ rfl).1
        have x1 := (bX 1 _ rfl).1
        have x2 := (bX 2 _ rfl).1
        have x3 := (bX 3 _ rfl).1
        have x4 := (bX 4 _ rfl).1
        have x5 := (bX 5 _ rfl).1
        have hxV := cell_lt x0
        obtain ⟨r10, r13, r14, ⟨v, hv, hrow, _⟩, hkV⟩ := hi
        have HSN := Lib.hid (whyF_snoc rm rd (decide (m < rm)) (decide (d < rd)) pre x)
        obtain ⟨fa, fb, ids, hS⟩ : ∃ fa fb ids, whyF rm rd (decide (m < rm)) (decide (d < rd)) pre = (fa, fb, ids) := ⟨_, _, _, rfl⟩
        rw [hS] at r13 r14 hrow hwl HSN
        dsimp only at r13 r14 hrow hwl
        clear hS
        obtain ⟨o1, o2, o3, o4, o5⟩ := HORD.out
        have R0 := Lib.hid r10
        have RV13 := Lib.hid r13
        have RV14 := Lib.hid r14
        have BX := Lib.hid bX
        have HV := Lib.hid hv
        have HR := Lib.hid hrow
        have HKV := Lib.hid (show Kept w V from hkV)
        have hszw := HKV.out.size
        obtain ⟨ask, hask⟩ : ∃ ask, ask = askB x := ⟨_, rfl⟩
        have HA : RowKit.Hid (∀ W, Calls Tryz.prog 47 #[.agg #[.int .i64 x.id, .int .i64 x.dy, .int .i64 x.kn, .int .i64 x.sh, .int .i64 x.tr, .int .i64 x.nu]] W fun e w' => e = .returned (.tuple #[.agg #[.int .i64 (askM x), .int .i64 (askD x)], .bool ask]) ∧ Kept W w') := Lib.hid (fun W => by rw [hask]; exact asks_any x W)
        clear bX hI0 hseq r10 r13 r14 hask hv hrow hkV
        by_cases hA : fa = true ∧ askM x = rm
        · obtain ⟨rfl, hm⟩ := hA
          have hm' : (askM x == rm) = true := by simpa using hm
          have HST : RowKit.Hid (whyF rm rd (decide (m < rm)) (decide (d < rd)) (pre ++ [x]) = (false, fb, ids ++ [x.id])) := Lib.hid (by rw [HSN.out]; simp [whyStep, hm])
          clear hm HSN
          gi_wp2_with fail
          refine ⟨trivial, ?_⟩
          refine (CallsIn.inRound l (callsIn_wide.2 (HA.out _))).mono ?_
          rintro e w3 ⟨rfl, hk3⟩
          have k3' := hk3.alloc (.cells #[.int .i64 (askM x), .int .i64 (askD x)] 38)
          have hgr := kept_grown k3'
          have hv3 := HV.out.kept hgr (by simp)
          have hrow3 := HR.out.kept hgr (Classical.em _)
          have RR13 := Lib.hid (RV13.out.kept k3')
          have RR14 := Lib.hid (RV14.out.kept k3')
          have RR10 := Lib.hid (R0.out.kept k3')
          have y0 := (hk3.cells _ _ hxV).trans x0
          have y13 := ((RV13.out.kept hk3) 0 _ rfl).1
          have y14 := ((RV14.out.kept hk3) 0 _ rfl).1
          have l4 := cell_lt y14
          have y10 := ((R0.out.kept hk3) 0 _ rfl).1
          have y11 := ((R0.out.kept hk3) 1 _ rfl).1
          have y12 := (HV.out.kept (kept_grown hk3) (by simp)).cell
          have l0 := cell_lt y0
          have l1 := cell_lt y13
          have l2 := cell_lt y10
          have l3 := cell_lt y12
          have h3z := hk3.size
          have HK3 := Lib.hid k3'
          have con := cell_one_new (w3.alloc (.cells #[.int .i64 (askM x), .int .i64 (askD x)] 38)) (.int .i64 x.id) 3
          rw [World.size_alloc] at con
          have CON := Lib.hid con
          clear con
          clear hgr hk3 x0 x1 x2 x3 x4 x5 k3'
          gi_wp2_with (gi_at_builtin; refine wpListIn_append_own _ rfl _ _ 52 rfl (W2.heap.size + 2 + 3) 3 i0 (.int .i64 0) 1 8 Tryz.underlying52 hi0 hz0 hz1 hz2 rfl (by decide) _ _ _ rfl (hrow3.alloc _) ⟨w3.heap.size + 1, 0, none⟩ 1 1 [.int .i64 x.id] rfl rfl CON.out (by simp [Value.oneCell']) (by unfold maxLen; omega) (by omega) (by simp; omega) ?_; intro v' w4 hown' hgrow _; obtain ⟨g', cap', rfl⟩ := ownsRow_succ hown'; obtain ⟨hv1, hv2, hr2, hk2, ho2, hrr⟩ := appendedD (n0 := w.heap.size) (n1 := W2.heap.size + 2) (bs := B + 1) hv3 (by decide) hrow3 (by simp; omega) (by omega) (by have := ZB.out; omega) (by have := ZB.out; omega) (by omega) hown' hgrow; have hc1 := hv1.cell; have hf1 := hv1.frozen; obtain ⟨hg13, hf13⟩ := hrr b13 _ (by have := ZB.out; omega) (by omega) RR13.out 0 _ rfl; obtain ⟨hg14, hf14⟩ := hrr b14 _ (by have := ZB.out; omega) (by omega) RR14.out 0 _ rfl)
          refine ⟨((HK3.out.others.trans ho2).trans (KeepsOthers.setCell _ _ _)).from _, ((KpD.of_kept HK3.out hszw).trans hk2).trans (KpD.setCell _ _ (by omega) (by have := ZB.out; omega) (by omega)), (hrr w1.heap.size _ (by have := ZB.out; omega) (by omega) RR10.out).far (by omega) _, by rw [HST.out]; exact (hrr b13 _ (by have := ZB.out; omega) (by omega) RR13.out).put (j := 0) (by simp) _, by rw [HST.out]; exact (hrr b14 _ (by have := ZB.out; omega) (by omega) RR14.out).far (by omega) _, ⟨_, hv2.other (by omega) _, by rw [HST.out]; simpa using own_far hr2 (by have := ZB.out; omega), trivial⟩, ((HKV.out.trans HK3.out).below.trans hk2.1).setCell (p := ⟨b13, 0, none⟩) (show w.heap.size ≤ b13 by omega) _⟩
        · by_cases hB : fb = true ∧ askD x = rd
          · obtain ⟨rfl, hd⟩ := hB
            have hd' : (askD x == rd) = true := by simpa using hd
            have HST : RowKit.Hid (whyF rm rd (decide (m < rm)) (decide (d < rd)) (pre ++ [x]) = (fa, false, ids ++ [x.id])) := Lib.hid (by rw [HSN.out]; unfold whyStep; rw [if_neg (by simpa using hA), if_pos (by simp [hd])])
            clear hd HSN
            cases fa
            case' true => have hm' : (askM x == rm) = false := by simpa using hA
            all_goals
              clear hA
              gi_wp2_with fail
              refine ⟨trivial, ?_⟩
              refine (CallsIn.inRound l (callsIn_wide.2 (HA.out _))).mono ?_
              rintro e w3 ⟨rfl, hk3⟩
              have k3' := hk3.alloc (.cells #[.int .i64 (askM x), .int .i64 (askD x)] 38)
              have hgr := kept_grown k3'
              have hv3 := HV.out.kept hgr (by simp)
              have hrow3 := HR.out.kept hgr (Classical.em _)
              have RR13 := Lib.hid (RV13.out.kept k3')
              have RR14 := Lib.hid (RV14.out.kept k3')
              have RR10 := Lib.hid (R0.out.kept k3')
              have y0 := (hk3.cells _ _ hxV).trans x0
              have y13 := ((RV13.out.kept hk3) 0 _ rfl).1
              have y14 := ((RV14.out.kept hk3) 0 _ rfl).1
              have l4 := cell_lt y14
              have y10 := ((R0.out.kept hk3) 0 _ rfl).1
              have y11 := ((R0.out.kept hk3) 1 _ rfl).1
              have y12 := (HV.out.kept (kept_grown hk3) (by simp)).cell
              have l0 := cell_lt y0
              have l1 := cell_lt y13
              have l2 := cell_lt y10
              have l3 := cell_lt y12
              have h3z := hk3.size
              have HK3 := Lib.hid k3'
              have con := cell_one_new (w3.alloc (.cells #[.int .i64 (askM x), .int .i64 (askD x)] 38)) (.int .i64 x.id) 3
              rw [World.size_alloc] at con
              have CON := Lib.hid con
              clear con
              clear hgr hk3 x0 x1 x2 x3 x4 x5 k3'
              gi_wp2_with (gi_at_builtin; refine wpListIn_append_own _ rfl _ _ 52 rfl (W2.heap.size + 2 + 3) 3 i0 (.int .i64 0) 1 8 Tryz.underlying52 hi0 hz0 hz1 hz2 rfl (by decide) _ _ _ rfl (hrow3.alloc _) ⟨w3.heap.size + 1, 0, none⟩ 1 1 [.int .i64 x.id] rfl rfl CON.out (by simp [Value.oneCell']) (by unfold maxLen; omega) (by omega) (by simp; omega) ?_; intro v' w4 hown' hgrow _; obtain ⟨g', cap', rfl⟩ := ownsRow_succ hown'; obtain ⟨hv1, hv2, hr2, hk2, ho2, hrr⟩ := appendedD (n0 := w.heap.size) (n1 := W2.heap.size + 2) (bs := B + 1) hv3 (by decide) hrow3 (by simp; omega) (by omega) (by have := ZB.out; omega) (by have := ZB.out; omega) (by omega) hown' hgrow; have hc1 := hv1.cell; have hf1 := hv1.frozen; obtain ⟨hg13, hf13⟩ := hrr b13 _ (by have := ZB.out; omega) (by omega) RR13.out 0 _ rfl; obtain ⟨hg14, hf14⟩ := hrr b14 _ (by have := ZB.out; omega) (by omega) RR14.out 0 _ rfl)
              refine ⟨((HK3.out.others.trans ho2).trans (KeepsOthers.setCell _ _ _)).from _, ((KpD.of_kept HK3.out hszw).trans hk2).trans (KpD.setCell _ _ (by omega) (by have := ZB.out; omega) (by omega)), (hrr w1.heap.size _ (by have := ZB.out; omega) (by omega) RR10.out).far (by omega) _, by rw [HST.out]; exact (hrr b13 _ (by have := ZB.out; omega) (by omega) RR13.out).far (by omega) _, by rw [HST.out]; exact (hrr b14 _ (by have := ZB.out; omega) (by omega) RR14.out).put (j := 0) (by simp) _, ⟨_, hv2.other (by omega) _, by rw [HST.out]; simpa using own_far hr2 (by have := ZB.out; omega), trivial⟩, ((HKV.out.trans HK3.out).below.trans hk2.1).setCell (p := ⟨b14, 0, none⟩) (show w.heap.size ≤ b14 by omega) _⟩
          · have HST : RowKit.Hid (whyF rm rd (decide (m < rm)) (decide (d < rd)) (pre ++ [x]) = (fa, fb, ids)) := Lib.hid (by rw [HSN.out]; unfold whyStep; rw [if_neg (by simpa using hA), if_neg (by simpa using hB)])
            clear HSN
            cases fa <;> cases fb
            case' true.true => have hm' : (askM x == rm) = false := by simpa using hA
            case' true.true => have hd' : (askD x == rd) = false := by simpa using hB
            case' true.false => have hm' : (askM x == rm) = false := by simpa using hA
            case' false.true => have hd' : (askD x == rd) = false := by simpa using hB
            all_goals
              clear hA hB
              gi_wp2_with fail
              refine ⟨trivial, ?_⟩
              refine (CallsIn.inRound l (callsIn_wide.2 (HA.out _))).mono ?_
              rintro e w3 ⟨rfl, hk3⟩
              have k3' := hk3.alloc (.cells #[.int .i64 (askM x), .int .i64 (askD x)] 38)
              have hgr := kept_grown k3'
              have hv3 := HV.out.kept hgr (by simp)
              have hrow3 := HR.out.kept hgr (Classical.em _)
              have RR13 := Lib.hid (RV13.out.kept k3')
              have RR14 := Lib.hid (RV14.out.kept k3')
              have RR10 := Lib.hid (R0.out.kept k3')
              have y0 := (hk3.cells _ _ hxV).trans x0
              have y13 := ((RV13.out.kept hk3) 0 _ rfl).1
              have y14 := ((RV14.out.kept hk3) 0 _ rfl).1
              have l4 := cell_lt y14
              have y10 := ((R0.out.kept hk3) 0 _ rfl).1
              have y11 := ((R0.out.kept hk3) 1 _ rfl).1
              have y12 := (HV.out.kept (kept_grown hk3) (by simp)).cell
              have l0 := cell_lt y0
              have l1 := cell_lt y13
              have l2 := cell_lt y10
              have l3 := cell_lt y12
              have h3z := hk3.size
              have HK3 := Lib.hid k3'
              have con := cell_one_new (w3.alloc (.cells #[.int .i64 (askM x), .int .i64 (askD x)] 38)) (.int .i64 x.id) 3
              rw [World.size_alloc] at con
              have CON := Lib.hid con
              clear con
              clear hgr hk3 x0 x1 x2 x3 x4 x5 k3'
              gi_wp2_with fail
              exact ⟨HK3.out.others.from _, KpD.of_kept HK3.out hszw, RR10.out, by rw [HST.out]; exact RR13.out, by rw [HST.out]; exact RR14.out, ⟨v, hv3, by rw [HST.out]; exact hrow3, trivial⟩, HKV.out.trans HK3.out⟩
      case done =>
        rintro D ys V hD rfl ⟨r10, r13, r14, ⟨v, hv, hrow, _⟩, hkV⟩ hK
        have hc := hv.cell
        have HS : RowKit.Hid (whyI m d xs sh known = ((whyF rm rd (decide (m < rm)) (decide (d < rd)) (ofS xs known sh)).2.2, 0)) := Lib.hid (by rw [whyI, HRE.out]; rfl)
        go_wp2
        refine ⟨by simp, .inl ⟨_, _, rfl, run_takeDeferred hK, ?_⟩⟩
        have hr2 := ownsRow_putObj hrow (.deferred none) hK rfl
        obtain ⟨A', c', rfl, hA⟩ := own_out hr2
        exact ⟨_, results_tmp2 rfl _ _ _, A', _, c', by rw [HS.out]; rfl, by rw [HS.out]; exact hA, (show Kept w V from hkV).putDeferred (by have := HK.out.size; omega) hK rfl rfl⟩
      case stop =>
        rintro D c pre V hD hp h _
        exact h.elim
  · have HS : RowKit.Hid (whyI m d xs sh known = ([], re)) := Lib.hid (by rw [whyI, hre, if_neg h0])
    have h0' : (re != 0) = true := by simpa using h0
    clear hre h0
    rw [HS.out]
    go_enter Tryz.func22, Tryz.ntmps22
    go_upto_region 1 with (fail)
    rw [← HW.out]
    go_wp2_with (first
        | (go_at_call 21; refine (HC.out _ kk).mono ?_; rintro e w1 ⟨rfl, hk⟩; replace kk := (by first | with_reducible exact kk.trans hk | with_reducible exact (kk.alloc _).trans hk | with_reducible exact kk.drew.trans hk | with_reducible exact (kk.drew.alloc _).trans hk | with_reducible exact (kk.alloc _).drew.trans hk | with_reducible exact ((kk.alloc _).alloc _).trans hk | with_reducible exact ((kk.drew.alloc _).alloc _).trans hk | fail); obtain ⟨c00, f00, c01, f01⟩ := BR.out _ kk; have b0 := cell_lt c00)
        | fail)
    go_ret2
    exact ⟨none, 0, 0, rfl, IntA.nil _, (K0.out.trans kk).alloc _⟩
end Go.Proofs.YtdeokdlkjgpffaaGreatDoor
