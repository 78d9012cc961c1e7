/- RateOf -/
import Derived.Test.YtdeokdlkjgpffaaGreatDoorUa
import Derived.Test.YtdeokdlkjgpffaaGreatDoorUb
namespace Go.Proofs.YtdeokdlkjgpffaaGreatDoor
set_option linter.all false
open Go.RowKit Go.Shelf
attribute [local go_sem] Oper.semAt_some

/-- the greatest of a rate and what re-counts ask -/
def mxM (m : Int) (l : List Rcn) : Int := l.foldl (fun a x => max a (askM x)) m
def mxD (d : Int) (l : List Rcn) : Int := l.foldl (fun a x => max a (askD x)) d
theorem mxM_snoc (m : Int) (l : List Rcn) (x : Rcn) : mxM m (l ++ [x]) = max (mxM m l) (askM x) := by simp [mxM]
theorem mxD_snoc (m : Int) (l : List Rcn) (x : Rcn) : mxD m (l ++ [x]) = max (mxD m l) (askD x) := by simp [mxD]
def allB (l : List Rcn) : Bool := l.all askB
theorem allB_snoc (l : List Rcn) (x : Rcn) : allB (l ++ [x]) = (allB l && askB x) := by simp [allB]
/-- the least rate that is at least the house's: misses, doubles, error -/
def rateI (m d : Int) (xs : List Rcn) (sh known : Int) : Int × Int × Int :=
  if chkI m d xs = 0 then (if allB (ofS xs known sh) = true then (mxM m (ofS xs known sh), mxD d (ofS xs known sh), 0) else (0, 0, 40)) else (0, 0, chkI m d xs)

/-- RateOf's own variables between two rounds; where a round has left; the round's frame -/
def RI (h B : Nat) (m d : Int) (w : World) (pre : List Rcn) (W : World) : Prop := RowC W B [.int .i64 (mxM m pre), .int .i64 (mxD d pre)] ∧ RowC W (h + 1) [.int .i64 0, .int .i64 0] ∧ RowC W (h + 1 + 1) [.int .i64 0] ∧ allB pre = true ∧ Below h w W
def RX (h : Nat) (w : World) (c : Code) (pre : List Rcn) (W : World) : Prop := c = .ret ∧ RowC W (h + 1) [.int .i64 0, .int .i64 0] ∧ RowC W (h + 1 + 1) [.int .i64 40] ∧ allB pre = false ∧ Below h w W
def RA (h B : Nat) (m d sh known : Int) (A : Option Addr) (n c : Nat) (x : Rcn) (a' : Act) (W : World) : Prop :=
  ∃ Bx, B < Bx ∧ RowC W Bx (rcCells x) ∧ a' = { tmps := #[.agg #[.int .i64 m, .int .i64 d], .slice A n c, .int .i64 sh, .int .i64 known, .pointer (some ⟨h, 0, none⟩), undef, undef, undef, .pointer (some ⟨h + 1, 0, none⟩), .pointer (some ⟨h + 1 + 1, 0, none⟩), .int .i64 0, .pointer (some ⟨B, 0, none⟩), .pointer (some ⟨Bx, 0, none⟩), undef, undef, .agg #[.int .i64 m, .int .i64 d], .slice A n c, .int .i64 0, .int .i64 0, .bool false, undef, undef, .agg #[.int .i64 m, .int .i64 d], .slice A n c, .int .i64 sh, .int .i64 known, .func (.func 64) #[] #[.pointer (some ⟨B + 1, 0, none⟩), .pointer (some ⟨B + 1 + 1 + 1, 0, none⟩), .pointer (some ⟨B + 1 + 1, 0, none⟩)], rcV x, undef, undef, undef, undef, undef, undef, undef, undef, undef, undef, undef, undef, undef, undef, undef, undef, undef, undef, undef, undef], defers := [] }
theorem RI.own (h B : Nat) (m d : Int) (w : World) (B' : Nat) (hB : h ≤ B') (hw : h ≤ w.heap.size) : OwnFrom B' (RI h B m d w) :=
  OwnFrom.and (RowC.own _ _ (fun pre => [.int .i64 (mxM m pre), .int .i64 (mxD d pre)])) (OwnFrom.and (RowC.own _ _ (fun _ => _)) (OwnFrom.and (RowC.own _ _ (fun _ => _)) (OwnFrom.and (ownFrom_pure _ _) (ownFrom_below hw hB))))
theorem RX.own (h : Nat) (w : World) (B' : Nat) (hB : h ≤ B') (hw : h ≤ w.heap.size) (c : Code) : OwnFrom B' (RX h w c) :=
  OwnFrom.and (ownFrom_pure _ _) (OwnFrom.and (RowC.own _ _ (fun _ => _)) (OwnFrom.and (RowC.own _ _ (fun _ => _)) (OwnFrom.and (ownFrom_pure _ _) (ownFrom_below hw hB))))
theorem RA.own (h B : Nat) (m d sh known : Int) (A : Option Addr) (n c : Nat) (x : Rcn) (a' : Act) (B' : Nat) : OwnFrom B' (fun (_ : Unit) W => RA h B m d sh known A n c x a' W) := by
  rintro s W W' row ⟨Bx, h1, h2, h3⟩ hg hr
  exact ⟨Bx, h1, RowC.own B' Bx (fun (_ : Unit) => rcCells x) s W W' row h2 hg hr, h3⟩

theorem RowC.putObj {W : World} {b D : Nat} {vs : List Value} {o o' : Obj} (h : RowC W b vs) (hK : W.heap[D]? = some o') (hc : o'.isCells = false) : RowC (W.putObj D o) b vs := fun j v hv =>
  ⟨cell_kept (h j v hv).1 (grownBy_putObj' W D o) (fun r e => by cases e; exact ⟨_, hK, hc⟩), (frozen_kept (h j v hv).1 (grownBy_putObj' W D o) (fun r e => by cases e; exact ⟨_, hK, hc⟩)).trans (h j v hv).2⟩
theorem Kept.putDeferred {w V : World} {D : Nat} {o o' : Obj} (h : Kept w V) (hD : w.heap.size ≤ D) (hK : V.heap[D]? = some o') (hc : o'.isCells = false) (hw : o'.isWalk = false) : Kept w (V.putObj D o) :=
  h.below.trans (belowK_b (w := w) (Nat.le_refl _) V D _ _ hD hK hc hw)

set_option maxRecDepth 100000 in
set_option maxHeartbeats 2000000 in
theorem rateOf_any (m d sh known : Int) (A : Option Addr) (n c : Nat) (xs : List Rcn) (w : World) (hT : RcA w A n c xs) (hlt : n ≤ 1000000) :
    Calls Tryz.prog 21 #[.agg #[.int .i64 m, .int .i64 d], .slice A n c, .int .i64 sh, .int .i64 known] w fun e w' => e = .returned (.tuple #[.agg #[.int .i64 (rateI m d xs sh known).1, .int .i64 (rateI m d xs sh known).2.1], .int .i64 (rateI m d xs sh known).2.2]) ∧ Kept w w' := by
  have HT := Lib.hid hT
  clear hT
  obtain ⟨W0, hW0⟩ : ∃ W0, W0 = ((w.alloc (.cells #[.int .i64 m, .int .i64 d] 38)).alloc (.cells #[.int .i64 0, .int .i64 0] 38)).alloc (.cells #[.int .i64 0] 27) := ⟨_, rfl⟩
  have k0 : Kept w W0 := by rw [hW0]; exact ((((Kept.refl _).alloc _).alloc _).alloc _)
  have c00 : W0.cell? ⟨w.heap.size, 0, none⟩ = some (.int .i64 m) := by rw [hW0]; exact cellOld _ (cellOld _ (cellNew (by simp) rfl))
  have c01 : W0.cell? ⟨w.heap.size, 1, none⟩ = some (.int .i64 d) := by rw [hW0]; exact cellOld _ (cellOld _ (cellNew (by simp) rfl))
  have c10 : W0.cell? ⟨w.heap.size + 1, 0, none⟩ = some (.int .i64 0) := by rw [hW0]; exact cellOld _ (cellNew (by simp) rfl)
  have f10 : W0.frozen? ⟨w.heap.size + 1, 0, none⟩ = false := by rw [hW0]; simp [go_sem]
  have c11 : W0.cell? ⟨w.heap.size + 1, 1, none⟩ = some (.int .i64 0) := by rw [hW0]; exact cellOld _ (cellNew (by simp) rfl)
  have f11 : W0.frozen? ⟨w.heap.size + 1, 1, none⟩ = false := by rw [hW0]; simp [go_sem]
  have c20 : W0.cell? ⟨w.heap.size + 1 + 1, 0, none⟩ = some (.int .i64 0) := by rw [hW0]; exact cellNew (by simp) rfl
  have f20 : W0.frozen? ⟨w.heap.size + 1 + 1, 0, none⟩ = false := by rw [hW0]; simp [go_sem]
  have BR : RowKit.Hid (∀ W, Kept W0 W → W.cell? ⟨w.heap.size, 0, none⟩ = some (.int .i64 m) ∧ W.cell? ⟨w.heap.size, 1, none⟩ = some (.int .i64 d) ∧ W.cell? ⟨w.heap.size + 1, 0, none⟩ = some (.int .i64 0) ∧ W.frozen? ⟨w.heap.size + 1, 0, none⟩ = false ∧ W.cell? ⟨w.heap.size + 1, 1, none⟩ = some (.int .i64 0) ∧ W.frozen? ⟨w.heap.size + 1, 1, none⟩ = false ∧ W.cell? ⟨w.heap.size + 1 + 1, 0, none⟩ = some (.int .i64 0) ∧ W.frozen? ⟨w.heap.size + 1 + 1, 0, none⟩ = false) := Lib.hid (fun W hW => ⟨(hW.cells _ _ (cell_lt c00)).trans c00, (hW.cells _ _ (cell_lt c01)).trans c01, (hW.cells _ _ (cell_lt c10)).trans c10, (hW.frozens _ _ (cell_lt c10)).trans f10, (hW.cells _ _ (cell_lt c11)).trans c11, (hW.frozens _ _ (cell_lt c11)).trans f11, (hW.cells _ _ (cell_lt c20)).trans c20, (hW.frozens _ _ (cell_lt c20)).trans f20⟩)
  have Z0 : W0.heap.size = w.heap.size + 1 + 1 + 1 := by rw [hW0]; simp
  have ZZ := Lib.hid Z0
  have HW := Lib.hid hW0
  have K0 := Lib.hid k0
  clear hW0 k0 Z0
  have kk := Kept.refl W0
  have b0 := cell_lt c00
  have b1 := cell_lt c10
  have b2 := cell_lt c20
  obtain ⟨ck, hck⟩ : ∃ ck, ck = chkI m d xs := ⟨_, rfl⟩
  have HC : RowKit.Hid (∀ W, Kept W0 W → Calls Tryz.prog 45 #[.agg #[.int .i64 m, .int .i64 d], .slice A n c] W fun e w' => e = .returned (.int .i64 ck) ∧ Kept W w') := Lib.hid (fun W hW => by rw [hck]; exact check_any m d A n c xs W (HT.out.kept (K0.out.trans hW)) hlt)
  by_cases h0 : ck = 0
  · subst h0
    have HCK := Lib.hid hck
    clear hck
    refine (callsIn_wide (n := 8)).1 ?_
    refine callsIn_of_wp_marks Tryz.func21 rfl trivial ?_ rfl
    simp only [Tryz.ntmps21, List.size_toArray, List.length_cons, List.length_nil, Nat.reduceAdd, Nat.reduceSub, Array.replicate_succ, Array.replicate_zero, List.push_toArray, List.append_toArray, List.nil_append, List.cons_append]
    gi_wp2_with fail
    rw [← HW.out]
    refine ⟨trivial, ?_⟩
    refine (callsIn_wide.2 (HC.out _ kk)).mono ?_
    rintro e w1 ⟨rfl, hk1⟩
    obtain ⟨c00, c01, c10, f10, c11, f11, c20, f20⟩ := BR.out _ hk1
    obtain ⟨B, hB⟩ : ∃ B, B = w1.heap.size := ⟨_, rfl⟩
    gi_wp2_with fail
    refine ⟨trivial, ?_⟩
    refine (callsIn_wide.2 (countingOf_any A n c sh known _)).mono ?_
    rintro e w2 ⟨rfl, hw2⟩
    gi_wp2_with fail
    obtain ⟨W2, hW2⟩ : ∃ W2, W2 = w2 := ⟨_, rfl⟩
    rw [← hw2, ← hW2, ← hB]
    subst hW2
    have kW1 : Kept w w1 := K0.out.trans hk1
    have kW2 : Kept w1 W2 := by rw [hw2]; exact ((((Kept.refl _).alloc _).alloc _).alloc _).alloc _
    have zB : W2.heap.size = B + 4 := by rw [hw2, hB]; simp
    have r8 : RowC W2 (w.heap.size + 1) [.int .i64 0, .int .i64 0] := RowC.kept (W := w1) (fun j v hv => by
      match j with
      | 0 => cases hv; exact ⟨c10, f10⟩
      | 1 => cases hv; exact ⟨c11, f11⟩
      | j + 2 => simp at hv) kW2
    have r9 : RowC W2 (w.heap.size + 1 + 1) [.int .i64 0] := RowC.kept (W := w1) (fun j v hv => by
      match j with
      | 0 => cases hv; exact ⟨c20, f20⟩
      | j + 1 => simp at hv) kW2
    have r11 : RowC W2 B [.int .i64 m, .int .i64 d] := by
      rw [hw2, hB]
      exact (RowC.new w1 [.int .i64 m, .int .i64 d] 38).kept ((((Kept.refl _).alloc _).alloc _).alloc _)
    have t1 : W2.cell? ⟨B + 1, 0, none⟩ = some (.slice A n c) := by rw [hw2, hB]; exact cellOldK (cellOldK (cellNew (by simp) rfl))
    have t2 : W2.cell? ⟨B + 1 + 1, 0, none⟩ = some (.int .i64 sh) := by rw [hw2, hB]; exact cellOldK (cellNew (by simp) rfl)
    have t3 : W2.cell? ⟨B + 1 + 1 + 1, 0, none⟩ = some (.int .i64 known) := by rw [hw2, hB]; exact cellNew (by simp) rfl
    have hBw : w.heap.size + 1 + 1 < B := by rw [hB]; exact cell_lt c20
    have hI0 : RI w.heap.size B m d w [] W2 := ⟨r11, r8, r9, rfl, (kW1.trans kW2).below⟩
    have hseq := countOf_atB 7 (by omega) (B + 1) (B + 1 + 1 + 1) (B + 1 + 1) A n c xs known sh w W2 t1 t3 t2 HT.out hlt (kW1.trans kW2) (W2.heap.size + 2) (by omega)
    have kW := kW1.trans kW2
    have HK := Lib.hid kW
    have ZB := Lib.hid zB
    have HB := Lib.hid hB
    clear hw2 kW1 kW2 zB r8 r9 r11 t1 t2 t3 c00 c01 c10 f10 c11 f11 c20 f20 hB
    refine rangeOverB (by omega) (gf := 64) rfl (enters_of Tryz.func64 (by kernel_rfl) rfl) kW.size hseq (fun _ => rfl) (RI w.heap.size B m d w) (RX w.heap.size w) (RI.own _ _ _ _ _ _ kW.size (Nat.le_refl _)) (RX.own _ _ _ kW.size (Nat.le_refl _)) hI0 (RA w.heap.size B m d sh known A n c) (fun x a' => RA.own _ _ _ _ _ _ _ _ _ _ _ _) ?assign ?body ?done ?stop
    case assign =>
      intro l pre x V K hi hK
      dsimp only [rcV]
      gi_wp2
      have hst : B < V.heap.size := cell_lt (hi.1 0 _ rfl).1
      have hV : w.heap.size ≤ V.heap.size := hi.2.2.2.2.size
      exact hK _ _ ((KeepsOthers.alloc _ _).from _) (KpB.of_kept ((Kept.refl V).alloc _) hV) (OwnFrom.alloc (B := W2.heap.size) (RI.own _ _ _ _ _ _ HK.out.size (Nat.le_refl _)) _ hi) ⟨V.heap.size, hst, RowC.new V (rcCells x) 25, rfl⟩
    case body =>
      rintro l pre x a' V hi ⟨Bx, hBx, bX, rfl⟩ hlt2
      have x0 := (bX 0 _ rfl).1
      have x1 := (bX 1 _ rfl).1
      have x2 := (bX 2 _ rfl).1
      have x3 := (bX 3 _ rfl).1
      have x4 := (bX 4 _ rfl).1
      have x5 := (bX 5 _ rfl).1
      have hxV := cell_lt x0
      have HI := Lib.hid hi
      have BX := Lib.hid bX
      clear bX hI0 hseq
      rcases hq : askB x with _ | _
      · have HQ := Lib.hid hq
        have HA : RowKit.Hid (∀ W, Calls Tryz.prog 47 #[.agg #[.int .i64 x.id, .int .i64 x.dy, .int .i64 x.kn, .int .i64 x.sh, .int .i64 x.tr, .int .i64 x.nu]] W fun e w' => e = .returned (.tuple #[.agg #[.int .i64 (askM x), .int .i64 (askD x)], .bool false]) ∧ Kept W w') := Lib.hid (fun W => (asks_any x W).mono fun _ _ ⟨he, hk⟩ => ⟨by rw [he, hq], hk⟩)
        clear hq
        gi_wp2_with fail
        refine ⟨trivial, ?_⟩
        refine (CallsIn.inRound l (callsIn_wide.2 (HA.out _))).mono ?_
        rintro e w3 ⟨rfl, hk3⟩
        have r8 := HI.out.2.1.kept hk3
        have r9 := HI.out.2.2.1.kept hk3
        obtain ⟨⟨g0, e0⟩, ⟨g1, e1⟩, g2, e2⟩ := (⟨r8 0 _ rfl, r8 1 _ rfl, r9 0 _ rfl⟩ : (_ ∧ _) ∧ (_ ∧ _) ∧ (_ ∧ _))
        have z1 := cell_lt g0
        have z2 := cell_lt g2
        have R8 := Lib.hid r8
        have R9 := Lib.hid r9
        have HK3 := Lib.hid hk3
        have h3z := hk3.size
        clear r8 r9 hk3
        gi_wp2_with fail
        refine ⟨((((HK3.out.others.trans (KeepsOthers.setCell _ _ _)).trans (KeepsOthers.setCell _ _ _)).trans (KeepsOthers.setCell _ _ _)).trans (KeepsOthers.alloc _ _)).from _, rfl, ?_, ?_, by rw [allB_snoc, HQ.out]; simp, ?_⟩
        · exact (((R8.out.put (j := 0) (by simp) _).put (j := 1) (by simp) _).far (by omega) _).kept ((Kept.refl _).alloc _)
        · exact (((R9.out.far (by omega) _).far (by omega) _).put (j := 0) (by simp) _).kept ((Kept.refl _).alloc _)
        · exact ((((show Kept w V from HI.out.2.2.2.2).trans HK3.out).setCell (by simp; try omega) _).setCell (by simp; try omega) _ |>.setCell (by simp; try omega) _).alloc _
      · have HQ := Lib.hid hq
        have HA : RowKit.Hid (∀ W, Calls Tryz.prog 47 #[.agg #[.int .i64 x.id, .int .i64 x.dy, .int .i64 x.kn, .int .i64 x.sh, .int .i64 x.tr, .int .i64 x.nu]] W fun e w' => e = .returned (.tuple #[.agg #[.int .i64 (askM x), .int .i64 (askD x)], .bool true]) ∧ Kept W w') := Lib.hid (fun W => (asks_any x W).mono fun _ _ ⟨he, hk⟩ => ⟨by rw [he, hq], hk⟩)
        clear hq
        obtain ⟨mm, hmm⟩ : ∃ mm, mm = mxM m pre := ⟨_, rfl⟩
        obtain ⟨dd, hdd⟩ : ∃ dd, dd = mxD d pre := ⟨_, rfl⟩
        obtain ⟨am, ham⟩ : ∃ am, am = askM x := ⟨_, rfl⟩
        obtain ⟨ad, had⟩ : ∃ ad, ad = askD x := ⟨_, rfl⟩
        rw [← ham, ← had] at HA
        have HM : RowKit.Hid (mxM m (pre ++ [x]) = max mm am) := Lib.hid (by rw [mxM_snoc, hmm, ham])
        have HD : RowKit.Hid (mxD d (pre ++ [x]) = max dd ad) := Lib.hid (by rw [mxD_snoc, hdd, had])
        have R11 : RowKit.Hid (RowC V B [.int .i64 mm, .int .i64 dd]) := Lib.hid (by rw [hmm, hdd]; exact HI.out.1)
        clear hmm hdd ham had hi
        rcases Int.lt_or_le mm am with h1 | h1 <;> rcases Int.lt_or_le dd ad with h2 | h2
        case' inl.inl => have e1 : max mm am = am := by omega
        case' inl.inl => have e2 : max dd ad = ad := by omega
        case' inl.inr => have e1 : max mm am = am := by omega
        case' inl.inr => have e2 : max dd ad = dd := by omega
        case' inr.inl => have e1 : max mm am = mm := by omega
        case' inr.inl => have e2 : max dd ad = ad := by omega
        case' inr.inr => have e1 : max mm am = mm := by omega
        case' inr.inr => have e2 : max dd ad = dd := by omega
        all_goals
          rw [e1] at HM
          rw [e2] at HD
          clear e1 e2
          gi_wp2_with fail
          refine ⟨trivial, ?_⟩
          refine (CallsIn.inRound l (callsIn_wide.2 (HA.out _))).mono ?_
          rintro e w3 ⟨rfl, hk3⟩
          have r11 := R11.out.kept hk3
          obtain ⟨⟨g0, e0⟩, g1, e1⟩ := (⟨r11 0 _ rfl, r11 1 _ rfl⟩ : (_ ∧ _) ∧ (_ ∧ _))
          have z1 := cell_lt g0
          have HR := Lib.hid r11
          have HK3 := Lib.hid hk3
          have h3z := hk3.size
          clear r11 hk3
          gi_wp2_with fail
          refine ⟨(((HK3.out.others.trans (KeepsOthers.setCell _ _ _)).trans (KeepsOthers.setCell _ _ _)).trans (KeepsOthers.alloc _ _)).from _, ?_, ?_, ?_, ?_, by rw [allB_snoc, HQ.out, HI.out.2.2.2.1]; rfl, ?_⟩
          · exact (((KpB.of_kept HK3.out (by have := HI.out.2.2.2.2.size; omega)).trans (KpB.setCell _ _ (by omega) (by have := ZB.out; omega) (by omega))).trans (KpB.setCell _ _ (by omega) (by have := ZB.out; omega) (by omega))).trans (KpB.of_kept ((Kept.refl _).alloc _) (by simp; omega))
          · rw [HM.out, HD.out]; exact ((HR.out.put (j := 0) (by simp) _).put (j := 1) (by simp) _).kept ((Kept.refl _).alloc _)
          · exact (((HI.out.2.1.kept HK3.out).far (by omega) _).far (by omega) _).kept ((Kept.refl _).alloc _)
          · exact (((HI.out.2.2.1.kept HK3.out).far (by omega) _).far (by omega) _).kept ((Kept.refl _).alloc _)
          · exact (((show Kept w V from HI.out.2.2.2.2).trans HK3.out).setCell (by simp; try omega) _ |>.setCell (by simp; try omega) _).alloc _
    case done =>
      rintro D ys V hD rfl hi hK
      obtain ⟨⟨g0, _⟩, g1, _⟩ := (⟨hi.1 0 _ rfl, hi.1 1 _ rfl⟩ : (_ ∧ _) ∧ (_ ∧ _))
      obtain ⟨⟨g2, e2⟩, ⟨g3, e3⟩, g4, e4⟩ := (⟨hi.2.1 0 _ rfl, hi.2.1 1 _ rfl, hi.2.2.1 0 _ rfl⟩ : (_ ∧ _) ∧ (_ ∧ _) ∧ (_ ∧ _))
      obtain ⟨mm, hmm⟩ : ∃ mm, mm = mxM m (ofS xs known sh) := ⟨_, rfl⟩
      obtain ⟨dd, hdd⟩ : ∃ dd, dd = mxD d (ofS xs known sh) := ⟨_, rfl⟩
      rw [← hmm] at g0
      rw [← hdd] at g1
      have HS : RowKit.Hid (rateI m d xs sh known = (mm, dd, 0)) := Lib.hid (by rw [rateI, ← HCK.out, if_pos rfl, if_pos hi.2.2.2.1, hmm, hdd])
      have HI := Lib.hid hi
      have HKD := Lib.hid hK
      clear hi hmm hdd hI0 hseq
      gi_wp2
      obtain ⟨X, hX⟩ : ∃ X, X = ((V.setCell ⟨w.heap.size + 1, 0, none⟩ (.int .i64 mm)).setCell ⟨w.heap.size + 1, 1, none⟩ (.int .i64 dd)).setCell ⟨w.heap.size + 1 + 1, 0, none⟩ (.int .i64 0) := ⟨_, rfl⟩
      rw [← hX]
      have KX : X.heap[D]? = some (.deferred (some [])) := by rw [hX]; exact (((KeepsOthers.setCell _ _ _).trans (KeepsOthers.setCell _ _ _)).trans (KeepsOthers.setCell _ _ _)).same D _ hK rfl
      have r8 : RowC X (w.heap.size + 1) [.int .i64 mm, .int .i64 dd] := by rw [hX]; exact ((HI.out.2.1.put (j := 0) (by simp) _).put (j := 1) (by simp) _).far (by omega) _
      have r9 : RowC X (w.heap.size + 1 + 1) [.int .i64 0] := by rw [hX]; exact ((HI.out.2.2.1.far (by omega) _).far (by omega) _).put (j := 0) (by simp) _
      have kX : Kept w X := by rw [hX]; exact (((show Kept w V from HI.out.2.2.2.2).setCell (by simp; try omega) _).setCell (by simp; try omega) _).setCell (by simp; try omega) _
      refine ⟨by simp, .inl ⟨_, _, rfl, run_takeDeferred KX, ?_⟩⟩
      have s8 := r8.putObj (o := .deferred none) KX rfl
      have s9 := r9.putObj (o := .deferred none) KX rfl
      have q0 := (s8 0 _ rfl).1
      have q1 := (s8 1 _ rfl).1
      have q2 := (s9 0 _ rfl).1
      refine ⟨.tuple #[.agg #[.int .i64 mm, .int .i64 dd], .int .i64 0], by simp [results, Tryz.results21, go_sem, q0, q1, q2], by rw [HS.out], kX.putDeferred (by have := HK.out.size; omega) KX rfl rfl⟩
    case stop =>
      rintro D c pre V hD hp ⟨rfl, h8, h9, hb, hkV⟩ hK
      have hbad : allB (ofS xs known sh) = false := by
        obtain ⟨t, ht⟩ := hp
        rw [← ht, allB, List.all_append]
        simp only [allB] at hb
        rw [hb]; rfl
      have HS : RowKit.Hid (rateI m d xs sh known = (0, 0, 40)) := Lib.hid (by rw [rateI, ← HCK.out, if_pos rfl, hbad]; rfl)
      have H8 := Lib.hid h8
      have H9 := Lib.hid h9
      clear h8 h9 hI0 hseq
      gi_wp2
      refine ⟨by simp, .inl ⟨_, _, rfl, run_takeDeferred hK, ?_⟩⟩
      have s8 := H8.out.putObj (o := .deferred none) hK rfl
      have s9 := H9.out.putObj (o := .deferred none) hK rfl
      have q0 := (s8 0 _ rfl).1
      have q1 := (s8 1 _ rfl).1
      have q2 := (s9 0 _ rfl).1
      refine ⟨.tuple #[.agg #[.int .i64 0, .int .i64 0], .int .i64 40], by simp [results, Tryz.results21, go_sem, q0, q1, q2], by rw [HS.out], (show Kept w V from hkV).putDeferred (by have := HK.out.size; omega) hK rfl rfl⟩
  · have HS : RowKit.Hid (rateI m d xs sh known = (0, 0, ck)) := Lib.hid (by rw [rateI, ← hck, if_neg h0])
    clear hck
    rw [HS.out]
    go_enter Tryz.func21, Tryz.ntmps21
    go_upto_region 1 with (fail)
    rw [← HW.out]
    go_wp2_with (first
        | (go_at_call 45; refine (HC.out _ kk).mono ?_; rintro e w1 ⟨rfl, hk⟩; replace kk := (by first | with_reducible exact kk.trans hk | with_reducible exact (kk.alloc _).trans hk | with_reducible exact kk.drew.trans hk | with_reducible exact (kk.drew.alloc _).trans hk | with_reducible exact (kk.alloc _).drew.trans hk | with_reducible exact ((kk.alloc _).alloc _).trans hk | with_reducible exact ((kk.drew.alloc _).alloc _).trans hk | fail); obtain ⟨c00, c01, c10, f10, c11, f11, c20, f20⟩ := BR.out _ kk; have b0 := cell_lt c00; have b1 := cell_lt c10; have b2 := cell_lt c20)
        | fail)
    refine bodyPost_ret (v := .tuple #[.agg #[.int .i64 0, .int .i64 0], .int .i64 ck]) (by simp [results, Tryz.results21, go_sem, c10, c11, c20]) rfl ⟨rfl, ?_⟩
    exact (((K0.out.trans kk).setCell (by simp; try omega) _).setCell (by simp; try omega) _).setCell (by simp; try omega) _
end Go.Proofs.YtdeokdlkjgpffaaGreatDoor
