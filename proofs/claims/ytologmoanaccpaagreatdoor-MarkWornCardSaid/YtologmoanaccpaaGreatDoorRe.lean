/-
  whether some owners claim too many beasts: short
-/
import Derived.Test.YtologmoanaccpaaGreatDoorOi
import Derived.Test.YtologmoanaccpaaGreatDoorOk
import Derived.Stop.RegionWithIn
import Derived.Sort.CutIn
namespace Go.Proofs.YtologmoanaccpaaGreatDoor
set_option linter.all false
open Go.RowKit Go.Shelf
attribute [local go_sem] Oper.semAt_some

def wsum (wt : List Int) (l : List Nat) : Int := (l.map (wq wt)).sum
def cntF (fits : List Nat) (p k : Nat) : Nat := (fits.take k).countP fun f => f &&& p != 0
def shB (fits : List Nat) (wt : List Int) (p : Nat) : Bool := decide (0 < wsum wt (bitsK p 64) - (cntF fits p fits.length : Nat))
theorem wsum_bd {wt : List Int} (h : ∀ o, 0 ≤ wq wt o ∧ wq wt o ≤ 60) : ∀ l : List Nat, 0 ≤ wsum wt l ∧ wsum wt l ≤ 60 * l.length
  | [] => by simp [wsum]
  | x :: l => by
    have ih := wsum_bd h l
    have hx := h x
    have e : wsum wt (x :: l) = wq wt x + wsum wt l := by simp [wsum]
    rw [e, List.length_cons]
    omega
theorem wsum_snoc (wt : List Int) (l : List Nat) (x : Nat) : wsum wt (l ++ [x]) = wsum wt l + wq wt x := by simp [wsum]
theorem cntF_le (fits : List Nat) (p k : Nat) : cntF fits p k ≤ k := by
  unfold cntF
  exact Nat.le_trans List.countP_le_length (by rw [List.length_take]; exact Nat.min_le_left _ _)
theorem cntF_succ {fits : List Nat} {p k f : Nat} (h : fits[k]? = some f) : cntF fits p (k + 1) = cntF fits p k + if (f &&& p != 0) = true then 1 else 0 := by
  unfold cntF
  rw [take_snoc' h, List.countP_append, List.countP_singleton]
def SrI (w : World) (hL : List Value) (wt : List Int) (p : Nat) (pre : List {x : Nat // p.testBit x = true}) (W : World) : Prop :=
  RowC W w.heap.size hL ∧ RowC W (w.heap.size + 1) [.int .i64 (wsum wt (pre.map (·.1)))] ∧ Kept w W
theorem SrI.own (w : World) (hL : List Value) (wt : List Int) (p B : Nat) (hB : w.heap.size ≤ B) : OwnFrom B (SrI w hL wt p) := by
  rintro pre W W' row ⟨h1, h2, h3⟩ hg hr
  exact ⟨own_rowc hg hr h1, own_rowc hg hr h2, h3.below.grown hg h3.size (fun k e => Nat.le_trans hB (hr k e).1)⟩
set_option maxRecDepth 100000 in
set_option maxHeartbeats 3200000 in
theorem short_any (F : Option Addr) (nb cF fb fo cl : Nat) (wt : List Int) (fits : List Nat) (w : World) (hf : FitR w F nb cF fb fo fits) (hw : wt.length = 41) (hwb : ∀ o, 0 ≤ wq wt o ∧ wq wt o ≤ 60) (p : Nat) (hp : p < 2 ^ 41) (hE : EnvT w) :
    Calls Tryz.prog 120 #[.agg (hrL F nb cF cl wt).toArray, .int .u64 (p : Int)] w fun e w' => e = .returned (.bool (shB fits wt p)) ∧ Kept w w' := by
  have HF := Lib.hid hf
  have h60 := hf.sz
  have hcf := hf.nc
  have hcm := hf.cm
  obtain ⟨W1, hW1⟩ : ∃ W1, W1 = w.alloc (.cells (hrL F nb cF cl wt).toArray 153) := ⟨_, rfl⟩
  have k1 : Kept w W1 := by rw [hW1]; exact (Kept.refl w).alloc _
  have z1 : W1.heap.size = w.heap.size + 1 := by rw [hW1]; simp
  have r1 : RowC W1 w.heap.size (hrL F nb cF cl wt) := by rw [hW1]; exact RowC.new w _ 153
  have HR1 := Lib.hid r1
  have HW1 := Lib.hid hW1
  have HK1 := Lib.hid k1
  have HE := Lib.hid hE
  have HWB := Lib.hid hwb
  clear hf hW1 k1 r1 hE hwb
  refine (callsIn_wide (n := 8)).1 ?_
  refine callsIn_of_wp_marks Tryz.func120 rfl trivial ?_ rfl
  simp only [Tryz.ntmps120, List.size_toArray, List.length_cons, List.length_nil, Nat.reduceAdd, Nat.reduceSub, Array.replicate_succ, Array.replicate_zero, List.push_toArray, List.append_toArray, List.nil_append, List.cons_append]
  refine wpIn_wide.2 ?_
  go_upto_region 1 with (fail)
  rw [← HW1.out]
  go_upto_region 2 with (fail)
  obtain ⟨W2, hW2⟩ : ∃ W2, W2 = W1.alloc (.cells #[.int .i64 0] 3) := ⟨_, rfl⟩
  have k2 : Kept W1 W2 := by rw [hW2]; exact (Kept.refl _).alloc _
  have z2 : W2.heap.size = w.heap.size + 1 + 1 := by rw [hW2]; simp [z1]
  have r2 : RowC W2 (w.heap.size + 1) [.int .i64 0] := by rw [hW2, ← z1]; exact RowC.new W1 _ 3
  rw [← hW2]
  have HR2 := Lib.hid r2
  have HK2 := Lib.hid (HK1.out.trans k2)
  have HR12 := Lib.hid (HR1.out.kept k2)
  clear hW2 r2 k2
  go_wp2_with fail
  refine (each_any p W2).mono ?_
  rintro e w6 ⟨rfl, rfl⟩
  rw [z2]
  obtain ⟨W6, hW6⟩ : ∃ W6, W6 = W2.alloc (.cells #[.int .u64 p] 117) := ⟨_, rfl⟩
  rw [← hW6]
  have k6 : Kept W2 W6 := by rw [hW6]; exact (Kept.refl _).alloc _
  have z6 : W6.heap.size = w.heap.size + 1 + 1 + 1 := by rw [hW6]; simp [z2]
  have c6 : W6.cell? ⟨w.heap.size + 1 + 1, 0, none⟩ = some (.int .u64 p) := by
    rw [hW6, ← z2]; exact (RowC.new W2 [.int .u64 p] 117 0 _ rfl).1
  have k06 : Kept w W6 := HK2.out.trans k6
  have hI0 : SrI w (hrL F nb cF cl wt) wt p [] W6 := ⟨HR12.out.kept k6, HR2.out.kept k6, k06⟩
  have hseq := each_stopsS 7 (by omega) (w.heap.size + 1 + 1) p (by omega) w HE.out W6 k06 c6
  have HK6 := Lib.hid k06
  have Z6 := Lib.hid z6
  clear hW6 k6 c6 k06 z1 z2 z6
  go_wp2_with fail
  refine (wpIn_wide (n := 8)).1 ?_
  refine wpIn_rangeFunc_ownH rfl (by omega) (gf := 200) (lb := #[.pointer (some ⟨w.heap.size + 1 + 1, 0, none⟩)]) rfl trivial (enters_of Tryz.func200 (by kernel_rfl) rfl)
    hseq KpB.trans (KpB.put HK6.out.size) (Below.refl _ _) (fun _ => rfl)
    (SrI w (hrL F nb cF cl wt) wt p) (fun _ _ _ => False) (SrI.own _ _ _ _ _ HK6.out.size) (fun c => fun _ _ _ _ h _ _ => h) hI0
    (fun x a' _ => a' = { tmps := #[.agg (hrL F nb cF cl wt).toArray, .int .u64 (p : Int), .pointer (some ⟨w.heap.size, 0, none⟩), undef, .bool false, .pointer (some ⟨w.heap.size + 1, 0, none⟩), .int .i64 (x.1 : Int), undef, undef, .int .u64 (p : Int), .func (.func 200) #[] #[.pointer (some ⟨w.heap.size + 1 + 1, 0, none⟩)], .int .i64 (x.1 : Int), undef, undef, undef, undef, undef, undef, undef, undef, undef, undef, undef, undef, undef, undef, undef, undef, undef, undef, undef, undef, undef, undef], defers := [] }) (fun x a' => fun s W W' row h hg hr => h) ?assign ?body ?done ?stop
  case assign =>
    intro l pre x V K hi hK
    gi_wp2
    exact hK _ _ (KeepsFrom.refl _ _) (Below.refl _ _) hi rfl
  case body =>
    rintro l pre ⟨o, hob⟩ a' V hl2 - ⟨r1, r2, r3⟩ rfl hlt2
    have ho2 : o ≤ 40 := by
      rcases Nat.lt_or_ge o 41 with h1 | h1
      · omega
      · rw [Nat.testBit_lt_two_pow (Nat.lt_of_lt_of_le hp (Nat.pow_le_pow_right (by omega) h1))] at hob; cases hob
    obtain ⟨x, hx⟩ : ∃ x, wq wt o = x := ⟨_, rfl⟩
    have hxb := HWB.out o
    have hwx : (hrL F nb cF cl wt)[2 + o]? = some (.int .i64 x) := by
      have h1 : wt[o]? = some x := by
        rw [← hx]
        unfold wq
        rw [List.getD_eq_getElem?_getD, List.getElem?_eq_getElem (by omega)]
        rfl
      unfold hrL
      rw [show 2 + o = o + 1 + 1 by omega, List.getElem?_cons_succ, List.getElem?_cons_succ, List.getElem?_map, h1]
      rfl
    have q1 := (r1 (2 + o) _ hwx).1
    obtain ⟨S, hS⟩ : ∃ S, wsum wt (pre.map (·.1)) = S := ⟨_, rfl⟩
    have hSb := wsum_bd HWB.out (pre.map (·.1))
    rw [hS, List.length_map] at hSb
    have hpl : pre.length ≤ 64 := by
      have h1 := bitsS_len p 64
      have h2 := bitsK_len p 64
      omega
    obtain ⟨t1, t2⟩ := r2 0 _ rfl
    rw [hS] at t1
    rw [hx] at hxb
    have hwrap : IntKind.i64.wrap (S + x) = S + x := by rw [IntKind.wrap_i64]; omega
    have HR1 := Lib.hid r1
    have HR2 := Lib.hid r2
    have HR3 := Lib.hid r3
    have HX := Lib.hid hx
    have HS := Lib.hid hS
    have l1 := cell_lt q1
    have l2 := cell_lt t1
    have hlo := r3.size
    clear r1 r2 r3 hI0 hseq hx hS hwx
    have hz6 := Z6.out
    have HFIN : RowKit.Hid (KeepsFrom W6.heap.size V (V.setCell ⟨w.heap.size + 1, 0, none⟩ (.int .i64 (S + x))).drew ∧ Below w.heap.size V (V.setCell ⟨w.heap.size + 1, 0, none⟩ (.int .i64 (S + x))).drew ∧ SrI w (hrL F nb cF cl wt) wt p (pre ++ [⟨o, hob⟩]) (V.setCell ⟨w.heap.size + 1, 0, none⟩ (.int .i64 (S + x))).drew) := Lib.hid (by
      have kd := (Kept.refl (V.setCell ⟨w.heap.size + 1, 0, none⟩ (.int .i64 (S + x)))).drew
      refine ⟨((KeepsOthers.setCell _ _ _).trans (KeepsOthers.drew _)).from _, ((Below.refl _ _).setCell (p := ⟨w.heap.size + 1, 0, none⟩) (by dsimp only; omega) _).drew, (HR1.out.far (by omega) _).kept kd, ?_, (HR3.out.setCell (p := ⟨w.heap.size + 1, 0, none⟩) (by dsimp only; omega) _).drew⟩
      rw [List.map_append, List.map_cons, List.map_nil, wsum_snoc, HS.out, HX.out]
      exact (HR2.out.put (j := 0) (by simp) (.int .i64 (S + x))).kept kd)
    gi_upto_region 4 with (fail)
    gi_region_with fail
    all_goals gi_wp2
    all_goals exact HFIN.out
  case done =>
    rintro D ys V hD rfl ⟨r1, r2, r3⟩ hK
    rw [bitsS_map] at r2
    obtain ⟨S, hS⟩ : ∃ S, wsum wt (bitsK p 64) = S := ⟨_, rfl⟩
    have hSb := wsum_bd HWB.out (bitsK p 64)
    have hSl := bitsK_len p 64
    rw [hS] at hSb r2
    have HS := Lib.hid hS
    have HK := Lib.hid hK
    have HR1 := Lib.hid r1
    have HR2 := Lib.hid r2
    have HR3 := Lib.hid r3
    have q0 := (r1 0 _ rfl).1
    have l0 := cell_lt q0
    clear r1 r2 r3 hK hI0 hseq hS
    go_wp2_with fail
    go_loopw [21] (fun i wr => ∃ k : Nat, k ≤ nb ∧ i = .int .i64 k ∧ RowC wr (w.heap.size + 1) [.int .i64 (S - (cntF fits p k : Nat))] ∧ Kept w wr ∧ wr.heap[D]? = some (.deferred (some []))) (fun i _ => nb - (intOf i).toNat)
    case atStart => exact ⟨0, by omega, by first | rfl | go_num, by simpa [cntF] using HR2.out, HR3.out, HK.out⟩
    case round =>
      obtain ⟨k, hk, rfl, hr, hkr, hkd⟩ := hrel
      have HR := Lib.hid hr
      have HKR := Lib.hid hkr
      have HKD := Lib.hid hkd
      have hc := cntF_le fits p k
      obtain ⟨C, hC⟩ : ∃ C, cntF fits p k = C := ⟨_, rfl⟩
      rw [hC] at hc hr
      have HC := Lib.hid hC
      obtain ⟨t1, t2⟩ := hr 0 _ rfl
      have l1 := cell_lt t1
      have hz6 := Z6.out
      clear hr hkr hkd q0 l0
      by_cases hlt : k < nb
      · obtain ⟨f, hf⟩ : ∃ f, fits[k]? = some f := ⟨_, List.getElem?_eq_getElem (by rw [HF.out.ln]; exact hlt)⟩
        obtain rfl : F = some ⟨fb, fo, none⟩ := HF.out.fa (by omega)
        have c0 := (HF.out.kept HKR.out).rf k f hf
        have lc := cell_lt c0
        have hf64 : f < 18446744073709551616 := by simpa using HF.out.fs f (List.mem_of_getElem? hf)
        have hp64 : p < 18446744073709551616 := by omega
        obtain ⟨g, hg⟩ : ∃ g, g = f &&& p := ⟨_, rfl⟩
        have hand : bits BinOp.and IntKind.u64 (f : Int) (p : Int) = ((g : Nat) : Int) := by rw [hg]; exact bits_and_u64_nat f p hf64 hp64
        have HFK := Lib.hid (cntF_succ (p := p) hf)
        have HG := Lib.hid hg
        clear hf hg hf64 hp64
        by_cases hg0 : g = 0
        · subst hg0
          go_wp2_with fail
          go_roundw
          case rel =>
            refine ⟨k + 1, by omega, by go_num, ?_, HKR.out, HKD.out⟩
            rw [HFK.out, ← HG.out]
            exact HR.out
          case measure => simp [intOf]; omega
        · have hne : ((g : Int) == 0) = false := by simp; omega
          have hwrap : IntKind.i64.wrap (S - (C : Int) - 1) = S - (C : Int) - 1 := IntWalk.i64_in _ (by omega)
          have HG0 := Lib.hid hg0
          clear hg0
          go_wp2_with fail
          go_roundw
          case rel =>
            refine ⟨k + 1, by omega, by go_num, ?_, HKR.out.setCell (p := ⟨w.heap.size + 1, 0, none⟩) (by dsimp only; omega) _, (heap_set (by dsimp only; omega)).trans HKD.out⟩
            rw [HFK.out, ← HG.out, if_pos (by simpa using HG0.out), HC.out]
            have h := HR.out.put (j := 0) (by simp) (.int .i64 (S - (C : Int) - 1))
            rw [show ((C + 1 : Nat) : Int) = (C : Int) + 1 by omega, show S - ((C : Int) + 1) = S - (C : Int) - 1 by omega]
            exact h
          case measure => simp [intOf]; omega
      · obtain rfl : k = nb := by omega
        go_wp2_with fail
        have hpb : ∀ b, b ≠ D → (wr.putObj D (.deferred none)).heap[b]? = wr.heap[b]? := fun b hb => World.putObj_heap_other (by omega)
        refine ⟨by simp, .inl ⟨_, _, rfl, run_takeDeferred HKD.out, ?_⟩⟩
        refine ⟨_, results_tmp rfl _ _ _, ?_, HKR.out.putDeferred (by have := HK6.out.size; omega) HKD.out rfl rfl⟩
        unfold shB
        rw [HS.out, HF.out.ln, HC.out, show decide (0 < S - (C : Int)) = decide ((C : Int) < S) by simp]
        rfl
  case stop =>
    rintro D c pre V hD hp9 hX hK
    exact absurd hX (by simp)
end Go.Proofs.YtologmoanaccpaaGreatDoor
