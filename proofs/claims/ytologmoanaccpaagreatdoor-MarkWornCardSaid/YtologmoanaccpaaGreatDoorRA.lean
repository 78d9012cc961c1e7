/-
  without a beast for an owner the claims cannot be met: certain
  the owners that are certain: Certain
-/
import Derived.Test.YtologmoanaccpaaGreatDoorPb
import Derived.Test.YtologmoanaccpaaGreatDoorPc
namespace Go.Proofs.YtologmoanaccpaaGreatDoor
set_option linter.all false
open Go.RowKit Go.Shelf

def offN (f o : Nat) : Nat := f &&& (18446744073709551615 - 2 ^ o)
theorem offN_bit {f o : Nat} (hf : f < 2 ^ 64) (ho : o < 64) (q : Nat) : (offN f o).testBit q = (f.testBit q && (q != o)) := by
  have h1 : (2 : Nat) ^ o < 2 ^ 64 := Nat.pow_lt_pow_right (by omega) ho
  have h2 : 18446744073709551615 - 2 ^ o = 2 ^ 64 - (2 ^ o + 1) := by omega
  unfold offN
  rw [Nat.testBit_and, h2, Nat.testBit_two_pow_sub_succ h1, Nat.testBit_two_pow]
  by_cases hq : q < 64
  · by_cases e : o = q
    · subst e; simp
    · have e2 : q ≠ o := fun h => e h.symm
      simp [hq, e, e2]
  · rw [Nat.testBit_lt_two_pow (Nat.lt_of_lt_of_le hf (Nat.pow_le_pow_right (by omega) (by omega)))]
    simp
theorem offN_lt {f o : Nat} (hf : f < 2 ^ 64) : offN f o < 2 ^ 64 := Nat.lt_of_le_of_lt Nat.and_le_left hf
theorem off_num {f o : Nat} (hf : f < 2 ^ 64) (ho : o ≤ 60) : bits .andNot .u64 (f : Int) ((2 : Int) ^ o) = ((offN f o : Nat) : Int) := by
  have h1 : (2 : Nat) ^ o < 2 ^ 64 := Nat.pow_lt_pow_right (by omega) (by omega)
  have hp : (2 : Int) ^ o = ((2 ^ o : Nat) : Int) := by push_cast; rfl
  unfold offN
  rw [hp]
  generalize (2 : Nat) ^ o = p at h1
  rw [u64_andNot _ _ (by omega) (by omega) (by omega) (by omega), Int.toNat_natCast, Int.toNat_natCast]
def CerP (w : World) (fits : List Nat) (cl : Nat) (wt : List Int) (e : Ending) (w' : World) : Prop :=
  (∃ b : Bool, e = .returned (.bool b) ∧ (b = true → ShA fits cl wt) ∧ (b = false → ∃ ow, MetA fits cl wt ow)) ∧ Kept w w'
set_option maxRecDepth 100000 in
set_option maxHeartbeats 3200000 in
theorem certain_any (F : Option Addr) (nb cF fb fo cl : Nat) (wt : List Int) (fits : List Nat) (w : World) (hf : FitR w F nb cF fb fo fits) (hw : wt.length = 41) (hwb : ∀ o, 0 ≤ wq wt o ∧ wq wt o ≤ 60) (hcl : cl < 2 ^ 41) (hc0 : cl.testBit 0 = false) (hE : EnvT w)
    (k o f : Nat) (hk : k < nb) (ho1 : 1 ≤ o) (ho2 : o ≤ 40) (hfk : fits[k]? = some f) :
    Calls Tryz.prog 125 #[.agg (hrL F nb cF cl wt).toArray, .int .i64 (k : Int), .int .i64 (o : Int)] w (CerP w (fits.set k (offN f o)) cl wt) := by
  have HF := Lib.hid hf
  have h60 := hf.sz
  have hcf := hf.nc
  have hcm := hf.cm
  have hi : (Tryz.prog.info? 153).map (·.size) = some 43 := by kernel_rfl
  obtain ⟨W1, hW1⟩ : ∃ W1, W1 = w.alloc (.cells (hrL F nb cF cl wt).toArray 153) := ⟨_, rfl⟩
  have k1 : Kept w W1 := by rw [hW1]; exact (Kept.refl w).alloc _
  have z1 : W1.heap.size = w.heap.size + 1 := by rw [hW1]; simp
  have r1 : RowC W1 w.heap.size (hrL F nb cF cl wt) := by rw [hW1]; exact RowC.new w _ 153
  have HCL := Lib.hid (clone_any F nb cF fb fo fits W1 (HF.out.kept k1))
  have HR1 := Lib.hid r1
  have HW1 := Lib.hid hW1
  have HK1 := Lib.hid k1
  have HFK := Lib.hid hfk
  have hf64 : f < 2 ^ 64 := hf.fs f (List.mem_of_getElem? hfk)
  have a0 := (r1 0 _ rfl).1
  have la := cell_lt a0
  clear hf hW1 k1 r1 hfk
  go_enter Tryz.func125, Tryz.ntmps125
  go_upto_region 1 with (fail)
  rw [← HW1.out]
  go_wp2_with fail
  refine HCL.out.mono ?_
  rintro e w4 ⟨⟨v, rfl, hown⟩, hk4⟩
  obtain ⟨F2, c2, g, rfl, hfit, hg0⟩ : ∃ F2 c2 g, v = .slice F2 nb c2 ∧ FitR w4 F2 nb c2 g 0 fits ∧ (0 < nb → W1.heap.size ≤ g) := by
    have hw0 : 0 < w4.heap.size := by have := hk4.size; omega
    obtain ⟨F2, c2, g, e, h1, h2⟩ := own_fit hown HF.out.ln h60 HF.out.fs hw0
    exact ⟨F2, c2, g, e, h1, h2⟩
  obtain rfl : F2 = some ⟨g, 0, none⟩ := hfit.fa (by omega)
  have HR4 := Lib.hid (HR1.out.kept hk4)
  have b0 := (HR4.out 0 _ rfl).1
  have b1 := (HR4.out 0 _ rfl).2
  have lb := cell_lt b0
  have hr4 : RowC w4 g (fits.flatMap uC) := own_rowC hown
  have HK4 := Lib.hid (HK1.out.trans hk4)
  have HG0 := Lib.hid (hg0 (by omega))
  have hcf2 := hfit.nc
  have hcm2 := hfit.cm
  have hlg := hfit.lt
  have HFIT := Lib.hid hfit
  have HG4 := Lib.hid hr4
  clear hown hk4 hfit hg0 a0 la HCL hr4
  go_upto_region 2 with (fail)
  obtain ⟨W5, hW5⟩ : ∃ W5, W5 = w4.setCell ⟨w.heap.size, 0, none⟩ (.slice (some ⟨g, 0, none⟩) nb c2) := ⟨_, rfl⟩
  rw [← hW5]
  have hgg := HG0.out
  have hr5 : RowC W5 w.heap.size (hrL (some ⟨g, 0, none⟩) nb c2 cl wt) := by
    rw [hW5]; exact HR4.out.put (j := 0) (by simp [hrL]) _
  have hg5 : RowC W5 g (fits.flatMap uC) := by
    rw [hW5]; exact rowc_heap (heap_set (by dsimp only; omega)) HG4.out
  have hk5 : Kept w W5 := by
    rw [hW5]; exact HK4.out.setCell (p := ⟨w.heap.size, 0, none⟩) (Nat.le_refl _) _
  have hz5 : W5.heap.size = w4.heap.size := by rw [hW5, size_set]
  have HR5 := Lib.hid hr5
  have HG5 := Lib.hid hg5
  have HK5 := Lib.hid hk5
  have HJ : RowKit.Hid (∀ W, Calls Tryz.prog 108 #[.int .i64 (o : Int)] W fun e w' => e = .returned (.int .u64 ((2 : Int) ^ o)) ∧ W = w') := Lib.hid (fun W => just_any o (by omega) W)
  have q0 := (hr5 0 _ rfl).1
  obtain ⟨q1, q2⟩ := hg5 k (.int .u64 (f : Int)) (by rw [flat_uC, List.getElem?_map, HFK.out]; rfl)
  have l0 := cell_lt q0
  have l1 := cell_lt q1
  have HN : RowKit.Hid (bits .andNot .u64 (f : Int) ((2 : Int) ^ o) = ((offN f o : Nat) : Int)) := Lib.hid (off_num hf64 (by omega))
  clear hW5 hr5 hg5 hk5 b0 b1 lb
  go_cut [] from 22 (fun wx => wx = (W5.setCell ⟨g, k, none⟩ (.int .u64 ((offN f o : Nat) : Int))).drew)
  case first =>
    go_region_with (refine (HJ.out _).mono ?_; rintro e w1 ⟨rfl, rfl⟩)
    all_goals go_wp2
    all_goals go_meet
    all_goals (first | rfl | (rw [HN.out]; done) | (rw [HN.out]; rfl) | trace_state)
  case rest =>
    subst hcut
    obtain ⟨W6, hW6⟩ : ∃ W6, W6 = (W5.setCell ⟨g, k, none⟩ (.int .u64 ((offN f o : Nat) : Int))).drew := ⟨_, rfl⟩
    have hg6 : RowC W6 g ((fits.set k (offN f o)).flatMap uC) := by
      rw [hW6, flat_uC, List.map_set, ← flat_uC]
      exact (HG5.out.put (j := k) (by rw [flat_uC, List.length_map, HF.out.ln]; exact hk) (.int .u64 ((offN f o : Nat) : Int))).kept ((Kept.refl _).drew)
    have hr6 : RowC W6 w.heap.size (hrL (some ⟨g, 0, none⟩) nb c2 cl wt) := by
      rw [hW6]
      exact (HR5.out.far (by omega) _).kept ((Kept.refl _).drew)
    have hk6 : Kept w W6 := by
      rw [hW6]
      exact (HK5.out.setCell (p := ⟨g, k, none⟩) (by dsimp only; omega) _).drew
    have hfit6 : FitR W6 (some ⟨g, 0, none⟩) nb c2 g 0 (fits.set k (offN f o)) := by
      refine ⟨by rw [List.length_set, HF.out.ln], h60, hcf2, hcm2, fun x hx => ?_, fun _ => rfl, ?_, fun i x hi => ?_⟩
      · rcases List.mem_or_eq_of_mem_set hx with h | h
        · exact HF.out.fs x h
        · rw [h]; exact offN_lt hf64
      · rw [hW6, World.size_drew, size_set]; omega
      · rw [Nat.zero_add]
        exact (hg6 i (.int .u64 (x : Int)) (by rw [flat_uC, List.getElem?_map, hi]; rfl)).1
    have HM6 := Lib.hid (meet_any (some ⟨g, 0, none⟩) nb c2 g 0 cl wt (fits.set k (offN f o)) W6 hfit6 hw hwb hcl hc0 (hE.kept hk6))
    have HRG6 : RowKit.Hid (W6.rangeAt w.heap.size 0 (hrL (some ⟨g, 0, none⟩) nb c2 cl wt)) := Lib.hid (fun j v hv => by rw [Nat.zero_add]; exact (hr6 j v hv).1)
    have HSZ6 : RowKit.Hid ((Tryz.prog.info? 153).map (·.size) = some (hrL (some ⟨g, 0, none⟩) nb c2 cl wt).length) := Lib.hid (by rw [hi]; simp [hrL, hw])
    have HK6 := Lib.hid hk6
    rw [← hW6]
    clear hW6 hg6 hr6 hk6 hfit6 q0 q1 q2 l0 l1
    go_wp2_with (first | (refine wpList_load_mid rfl 153 (.tmp 3) rfl w.heap.size 0 rfl (hrL (some ⟨g, 0, none⟩) nb c2 cl wt) _ HRG6.out Tryz.underlying153 rfl HSZ6.out ?_) | fail)
    refine HM6.out.mono ?_
    rintro e w7 ⟨⟨hb2, ow2, rfl, hh7, hm7, hl7⟩ | ⟨rfl, hsh7⟩, hk7⟩
    · have HMT := Lib.hid hm7
      have HKE := Lib.hid (HK6.out.trans hk7)
      clear hh7 hm7 hk7 hl7
      go_wp2_with fail
      go_ret
      exact ⟨⟨false, rfl, (fun h => by cases h), fun _ => ⟨_, HMT.out⟩⟩, HKE.out⟩
    · have HSH := Lib.hid hsh7
      have HKE := Lib.hid (HK6.out.trans hk7)
      clear hsh7 hk7
      go_wp2_with fail
      go_ret
      exact ⟨⟨true, rfl, fun _ => HSH.out, (fun h => by cases h)⟩, HKE.out⟩
end Go.Proofs.YtologmoanaccpaaGreatDoor

namespace Go.Proofs.YtologmoanaccpaaGreatDoor
set_option linter.all false
open Go.RowKit Go.Shelf

theorem wpList_load_midW {P : Program} {ops : Array Oper} {rest : List Oper} {op : Oper} {a : Act} {w : World} {Q : Exit → Act → World → Prop} (hgd : Region.wanted op (yielded ops a.tmps) = true) (ty : TypeId) (x : Operand) (ho : op.op = .load ty x)
    (b o : Nat) (hx : a.eval x = .pointer (some ⟨b, o, none⟩)) (cs : List Value) (d : TypeDesc) (hc : w.rangeAt b o cs)
    (hu : P.underlying ty = some d) (hd : d.isRow = true) (hi : (P.info? ty).map (·.size) = some cs.length)
    (h : wpList P ops Q rest (a.put op.dst (.agg cs.toArray)) w) : wpList P ops Q (op :: rest) a w :=
  wpList_step fun _ hK => by
    rw [if_pos hgd]
    exact wp_load_mid ty x ho b o hx cs d hc hu hd hi (hK _ _ h)
def zero43 : List Value := [.slice none 0 0, .int .u64 0, .int .i64 0, .int .i64 0, .int .i64 0, .int .i64 0, .int .i64 0, .int .i64 0, .int .i64 0, .int .i64 0, .int .i64 0, .int .i64 0, .int .i64 0, .int .i64 0, .int .i64 0, .int .i64 0, .int .i64 0, .int .i64 0, .int .i64 0, .int .i64 0, .int .i64 0, .int .i64 0, .int .i64 0, .int .i64 0, .int .i64 0, .int .i64 0, .int .i64 0, .int .i64 0, .int .i64 0, .int .i64 0, .int .i64 0, .int .i64 0, .int .i64 0, .int .i64 0, .int .i64 0, .int .i64 0, .int .i64 0, .int .i64 0, .int .i64 0, .int .i64 0, .int .i64 0, .int .i64 0, .int .i64 0]
theorem HasR.put {W : World} {nb hb : Nat} {ow : List Int} (h : HasR W (some ⟨hb, 0, none⟩) nb nb hb 0 ow) {k : Nat} (hk : k < nb) (x : Int) : HasR (W.setCell ⟨hb, k, none⟩ (.int .i64 x)) (some ⟨hb, 0, none⟩) nb nb hb 0 (ow.set k x) := by
  have r : RowC W hb (ow.map (Value.int .i64)) := fun j v hv => by
    rw [List.getElem?_map] at hv
    cases hz : ow[j]? with
    | none => rw [hz] at hv; cases hv
    | some y => rw [hz] at hv; cases hv; have := h.rh j y hz; rw [Nat.zero_add] at this; exact this
  have r2 := r.put (j := k) (by rw [List.length_map, h.ln]; exact hk) (.int .i64 x)
  refine ⟨by rw [List.length_set, h.ln], h.nc, h.cm, h.ha, by rw [size_set]; exact h.lt, fun i y hi => ?_⟩
  rw [Nat.zero_add]
  refine r2 i (.int .i64 y) ?_
  rw [← List.map_set, List.getElem?_map, hi]
  rfl
def CtG (fits : List Nat) (cl : Nat) (wt : List Int) (i : Nat) (x y : Int) : Prop :=
  (x ≠ 0 ∧ y = x ∧ ShA (fits.set i (offN (fits.getD i 0) x.toNat)) cl wt) ∨ (y = 0 ∧ (x = 0 ∨ ∃ ow', MetA (fits.set i (offN (fits.getD i 0) x.toNat)) cl wt ow'))
def CtQ (fits : List Nat) (cl : Nat) (wt ow : List Int) (k : Nat) (res : List Int) : Prop :=
  ∀ (i : Nat) (x y : Int), ow[i]? = some x → res[i]? = some y → if i < k then CtG fits cl wt i x y else y = 0
theorem CtQ.zero {fits : List Nat} {cl : Nat} {wt ow : List Int} (p : Nat) : CtQ fits cl wt ow 0 (List.replicate p 0) := fun i x y _ hy => by
  rw [if_neg (by omega)]
  exact (List.mem_replicate.1 (List.mem_of_getElem? hy)).2
theorem CtQ.keep {fits : List Nat} {cl : Nat} {wt ow res : List Int} {k : Nat} {x : Int} (h : CtQ fits cl wt ow k res) (hx : ow[k]? = some x) (hg : CtG fits cl wt k x 0) : CtQ fits cl wt ow (k + 1) res := fun i x' y h1 h2 => by
  have := h i x' y h1 h2
  by_cases hi : i < k
  · rw [if_pos hi] at this; rw [if_pos (by omega)]; exact this
  · rw [if_neg hi] at this
    by_cases e : i = k
    · subst e; rw [if_pos (by omega)]; rw [hx] at h1; cases h1; rw [this]; exact hg
    · rw [if_neg (by omega)]; exact this
theorem CtQ.put {fits : List Nat} {cl : Nat} {wt ow res : List Int} {k : Nat} {x : Int} (h : CtQ fits cl wt ow k res) (hx : ow[k]? = some x) (hg : CtG fits cl wt k x x) : CtQ fits cl wt ow (k + 1) (res.set k x) := fun i x' y h1 h2 => by
  rw [List.getElem?_set] at h2
  by_cases e : k = i
  · subst e
    rw [if_pos rfl] at h2
    rw [hx] at h1
    cases h1
    split at h2
    · cases h2; rw [if_pos (by omega)]; exact hg
    · cases h2
  · rw [if_neg e] at h2
    have := h i x' y h1 h2
    by_cases hi : i < k
    · rw [if_pos hi] at this; rw [if_pos (by omega)]; exact this
    · rw [if_neg hi] at this; rw [if_neg (by omega)]; exact this
def CtP (w : World) (ms : List Mk) (fs : List Fd) (day : Int) (found : List Sg) (cls : List Cl) (p : Nat) (e : Ending) (w' : World) : Prop :=
  ((chE ms fs day found cls ≠ 0 ∧ e = .returned (.tuple #[.slice none 0 0, .int .i64 (chE ms fs day found cls)])) ∨
   (chE ms fs day found cls = 0 ∧ ((∃ hb ow res, e = .returned (.tuple #[.slice (some ⟨hb, 0, none⟩) p p, .int .i64 0]) ∧ HasR w' (some ⟨hb, 0, none⟩) p p hb 0 res ∧ MetA (fitsN ms fs day found cls) (clN cls) (wtL cls) ow ∧ CtQ (fitsN ms fs day found cls) (clN cls) (wtL cls) ow p res ∧ w.heap.size ≤ hb) ∨
     (e = .returned (.tuple #[.slice none 0 0, .int .i64 30]) ∧ ShA (fitsN ms fs day found cls) (clN cls) (wtL cls))))) ∧ Kept w w'
set_option maxRecDepth 100000 in
set_option maxHeartbeats 3200000 in
theorem certainAll_any (A B C D : Option Addr) (n c m d p q u v : Nat) (ms : List Mk) (fs : List Fd) (day : Int) (found : List Sg) (cls : List Cl) (w : World) (hs : SmA w A n c ms B m d fs) (hfo : SlA sgV 6 Sg.ok w C p q found) (hcl : SlA clC 2 Cl.ok w D u v cls) (hE : EnvT w) :
    Calls Tryz.prog 57 #[.agg #[.slice A n c, .slice B m d], .int .i64 day, .slice C p q, .slice D u v] w (CtP w ms fs day found cls p) := by
  have hi : (Tryz.prog.info? 153).map (·.size) = some 43 := by kernel_rfl
  obtain ⟨W0, hW0⟩ : ∃ W0, W0 = w.alloc (.cells #[.slice A n c, .slice B m d] 25) := ⟨_, rfl⟩
  have K0 : RowKit.Hid (Kept w W0) := Lib.hid (by rw [hW0]; exact (Kept.refl _).alloc _)
  have R0 : RowKit.Hid (RowC W0 w.heap.size [.slice A n c, .slice B m d]) := Lib.hid (by rw [hW0]; exact RowC.new w [.slice A n c, .slice B m d] 25)
  have HW := Lib.hid hW0
  have HS := Lib.hid (hs.kept K0.out)
  have HFO := Lib.hid (hfo.kept K0.out)
  have HCL := Lib.hid (hcl.kept K0.out)
  have HE := Lib.hid (hE.kept K0.out)
  have H30 : RowKit.Hid (Calls Tryz.prog 113 #[.agg #[.slice A n c, .slice B m d], .int .i64 day, .slice C p q, .slice D u v] W0 fun e w' => e = .returned (.int .i64 (chE ms fs day found cls)) ∧ Kept W0 w') := Lib.hid (checkHearing_any A B C D n c m d p q u v ms fs day found cls W0 HS.out HFO.out HCL.out)
  obtain ⟨E, hEe⟩ : ∃ E, chE ms fs day found cls = E := ⟨_, rfl⟩
  rw [hEe] at H30
  have HEE := Lib.hid hEe
  have a0 := (R0.out 0 _ rfl).1
  have a1 := (R0.out 1 _ rfl).1
  have la := cell_lt a0
  clear hW0 hs hfo hcl hE hEe
  go_enter Tryz.func57, Tryz.ntmps57
  go_upto_region 1 with (fail)
  rw [← HW.out]
  go_wp2_with fail
  refine H30.out.mono ?_
  rintro e w1 ⟨rfl, hk1⟩
  have K1 := Lib.hid hk1
  have R1 := Lib.hid (R0.out.kept hk1)
  have b0 := (R1.out 0 _ rfl).1
  have b1 := (R1.out 1 _ rfl).1
  have lb := cell_lt b0
  clear hk1 a0 a1 la
  by_cases h0 : E = 0
  rotate_left
  · have h1 : (E == 0) = false := by simpa using h0
    have H0 := Lib.hid h0
    clear h0
    go_wp2_with fail
    go_ret2
    exact ⟨.inl ⟨by rw [HEE.out]; exact H0.out, by rw [HEE.out]; rfl⟩, K0.out.trans K1.out⟩
  subst h0
  have hch := HEE.out
  obtain ⟨e1, e2, e3, e4⟩ := fstE_four hch
  obtain ⟨c1, c2, c3⟩ := cl_ok e4
  have H31 := Lib.hid (hear_any A B C D n c m d p q u v ms fs day found cls w1 (HS.out.kept K1.out) (HFO.out.kept K1.out) (HCL.out.kept K1.out) hch)
  have C2 := Lib.hid c2
  have C3 := Lib.hid c3
  clear hch e1 e2 e3 e4 c1 c2 c3
  go_wp2_with fail
  refine H31.out.mono ?_
  rintro e w2 ⟨F, cF, fb, fo, rfl, hfit, _, hk2⟩
  have K2 := Lib.hid (K1.out.trans hk2)
  obtain ⟨wt, hwt⟩ : ∃ x, wtL cls = x := ⟨_, rfl⟩
  obtain ⟨cl, hclx⟩ : ∃ x, clN cls = x := ⟨_, rfl⟩
  have hw := wtL_len cls
  have hwb := wtL_bd C3.out (fun x hx => (claim_bd (C2.out x hx)).1) (fun x hx => (claim_bd (C2.out x hx)).2)
  have h41 := clN_41 C2.out
  have hc0 := clN_0 C2.out
  have hfit' : FitR w2 F p cF fb fo (fitsN ms fs day found cls) := hfit
  obtain ⟨fits, hfits⟩ : ∃ x, fitsN ms fs day found cls = x := ⟨_, rfl⟩
  rw [hfits] at hfit'
  rw [hwt] at hw hwb ⊢
  rw [hclx] at h41 hc0 ⊢
  have h60 := hfit'.sz
  have hmk := make43 p h60
  have HFT := Lib.hid hfit'
  have HFS := Lib.hid hfits
  have HWT := Lib.hid hwt
  have HCX := Lib.hid hclx
  clear hfit hk2 hfit' hfits hwt hclx
  go_upto_region 5 with (refine wpList_store_row rfl 153 (.tmp 11) (.tmp 29) rfl w2.heap.size (hrL F p cF cl wt).toArray rfl rfl 153 zero43.toArray (heap_alloc_new w2 _) (by rw [hi]; simp [hrL, hw]) (by simp [hrL, hw, zero43]) (by simp [hrL, Value.oneCell']) ?_)
  obtain ⟨Wv, hWv⟩ : ∃ Wv, Wv = (w2.alloc (.cells zero43.toArray 153)).setRow w2.heap.size (hrL F p cF cl wt).toArray := ⟨_, rfl⟩
  have hbb : Wv.heap[w2.heap.size]? = some (.cells (hrL F p cF cl wt).toArray 153 (0, 0)) := by rw [hWv]; exact setRow_heap _ _ _ _ _ _ (heap_alloc_new w2 _)
  have RB := Lib.hid (show RowC Wv w2.heap.size (hrL F p cF cl wt) from fun j v hv => ⟨by rw [cell_of_row _ _ _ _ _ _ hbb]; simpa using hv, frozen_of_row _ _ _ _ _ hbb⟩)
  have hkv : Kept w2 Wv := by rw [hWv]; exact ((Kept.refl w2).alloc _).setRow (Nat.le_refl _) _
  have HZZ : RowKit.Hid (Wv = (w2.alloc (.cells #[.slice none 0 0, .int .u64 0, .int .i64 0, .int .i64 0, .int .i64 0, .int .i64 0, .int .i64 0, .int .i64 0, .int .i64 0, .int .i64 0, .int .i64 0, .int .i64 0, .int .i64 0, .int .i64 0, .int .i64 0, .int .i64 0, .int .i64 0, .int .i64 0, .int .i64 0, .int .i64 0, .int .i64 0, .int .i64 0, .int .i64 0, .int .i64 0, .int .i64 0, .int .i64 0, .int .i64 0, .int .i64 0, .int .i64 0, .int .i64 0, .int .i64 0, .int .i64 0, .int .i64 0, .int .i64 0, .int .i64 0, .int .i64 0, .int .i64 0, .int .i64 0, .int .i64 0, .int .i64 0, .int .i64 0, .int .i64 0, .int .i64 0] 153)).setRow w2.heap.size (hrL F p cF cl wt).toArray) := Lib.hid (by rw [hWv]; rfl)
  have KV := Lib.hid (show Kept w Wv from (K0.out.trans K2.out).trans hkv)
  have HFV := Lib.hid (HFT.out.kept hkv)
  have HEV := Lib.hid (HE.out.kept (K2.out.trans hkv))
  rw [← HZZ.out]
  have HRG : RowKit.Hid (Wv.rangeAt w2.heap.size 0 (hrL F p cF cl wt)) := Lib.hid (fun j v hv => by rw [Nat.zero_add]; exact (RB.out j v hv).1)
  have HSZ : RowKit.Hid ((Tryz.prog.info? 153).map (·.size) = some (hrL F p cF cl wt).length) := Lib.hid (by rw [hi]; simp [hrL, hw])
  have HM1 := Lib.hid (meet_any F p cF fb fo cl wt fits Wv HFV.out hw hwb h41 hc0 HEV.out)
  clear hWv hbb hkv b0 b1 lb
  go_wp2_with (first | (refine wpList_load_mid rfl 153 (.tmp 11) rfl w2.heap.size 0 rfl (hrL F p cF cl wt) _ HRG.out Tryz.underlying153 rfl HSZ.out ?_) | fail)
  refine HM1.out.mono ?_
  rintro e w3 ⟨⟨hb, ow, rfl, hh, hmt, hle⟩ | ⟨rfl, hsh⟩, hk3⟩
  rotate_left
  · have HSH := Lib.hid hsh
    have HKE := Lib.hid (KV.out.trans hk3)
    clear hsh hk3
    go_wp2_with fail
    go_ret2
    exact ⟨.inr ⟨HEE.out, by rw [HFS.out, HWT.out, HCX.out]; exact .inr ⟨rfl, HSH.out⟩⟩, HKE.out⟩
  have RB3 := Lib.hid (RB.out.kept hk3)
  have HH := Lib.hid hh
  have HMT := Lib.hid hmt
  have K3 := Lib.hid (KV.out.trans hk3)
  have KV3 := Lib.hid hk3
  clear hh hmt hk3 HM1
  go_upto_region 8 with fail
  go_upto_region 9 with fail
  obtain ⟨W5, hW5⟩ : ∃ W5, W5 = w3.alloc (.cells (zer p).toArray 3) := ⟨_, rfl⟩
  have k5 : Kept w3 W5 := by rw [hW5]; exact (Kept.refl _).alloc _
  have hr5 : HasR W5 (some ⟨w3.heap.size, 0, none⟩) p p w3.heap.size 0 (List.replicate p 0) := by rw [hW5]; exact has_new w3 p 3 h60
  have HR5 := Lib.hid hr5
  have K5 := Lib.hid k5
  rw [← hW5]
  clear hW5 k5 hr5
  go_wp2_with fail
  go_loopw [42] (fun i wr => ∃ k : Nat, k ≤ p ∧ i = .int .i64 k ∧ (∃ res, HasR wr (some ⟨w3.heap.size, 0, none⟩) p p w3.heap.size 0 res ∧ CtQ fits cl wt ow k res) ∧ Kept w3 wr) (fun i _ => p - (intOf i).toNat)
  case atStart => exact ⟨0, by omega, by first | rfl | go_num, ⟨_, HR5.out, CtQ.zero p⟩, K5.out⟩
  case round =>
    obtain ⟨k, hk, rfl, ⟨res, hr, hq⟩, hkr⟩ := hrel
    have HR := Lib.hid hr
    have HQ := Lib.hid hq
    have HKR := Lib.hid hkr
    clear hr hq hkr
    have hsz := HKR.out.size
    have hlo := HH.out.lt
    by_cases hlt : k < p
    · obtain ⟨x, hx⟩ : ∃ x, ow[k]? = some x := ⟨_, List.getElem?_eq_getElem (by rw [HH.out.ln]; exact hlt)⟩
      obtain ⟨f, hf⟩ : ∃ f, fits[k]? = some f := ⟨_, List.getElem?_eq_getElem (by rw [HFT.out.ln]; exact hlt)⟩
      have HX := Lib.hid hx
      have HFK := Lib.hid hf
      have h1 := ((HH.out.kept HKR.out).rh k x hx).1
      rw [Nat.zero_add] at h1
      have l1 := cell_lt h1
      have hgd : fits.getD k 0 = f := by simp [hf]
      have HGD := Lib.hid hgd
      clear hx hf hgd
      by_cases hx0 : x = 0
      · subst hx0
        go_wp2_with fail
        go_roundw
        case rel => exact ⟨k + 1, by omega, by go_num, ⟨res, HR.out, HQ.out.keep HX.out (.inr ⟨rfl, .inl rfl⟩)⟩, HKR.out⟩
        case measure => simp [intOf]; omega
      · obtain ⟨hx1, hx2, _⟩ := HMT.out.1.2 k x HX.out hx0
        obtain ⟨o, ho⟩ := Int.eq_ofNat_of_zero_le (a := x) (by omega)
        have hne : (x != 0) = true := by simpa using hx0
        have HO : RowKit.Hid (1 ≤ o ∧ o ≤ 40) := Lib.hid ⟨by omega, by omega⟩
        have RBr := Lib.hid (RB3.out.kept HKR.out)
        have HRG2 : RowKit.Hid (wr.rangeAt w2.heap.size 0 (hrL F p cF cl wt)) := Lib.hid (fun j v hv => by rw [Nat.zero_add]; exact (RBr.out j v hv).1)
        have HXO : RowKit.Hid (x.toNat = o) := Lib.hid (by omega)
        have hct := certain_any F p cF fb fo cl wt fits wr (HFV.out.kept (KV3.out.trans HKR.out)) hw hwb h41 hc0 (HEV.out.kept (KV3.out.trans HKR.out)) k o f hlt HO.out.1 HO.out.2 HFK.out
        rw [show ((o : Nat) : Int) = x from ho.symm] at hct
        have HCT := Lib.hid hct
        have HX0 := Lib.hid hx0
        clear hx0 hx1 hx2 ho hct
        go_wp2_with (first | (refine wpList_load_midW (by first | rfl | (simp [Region.wanted, yielded, Act.put]; exact HX0.out)) 153 (.tmp 11) rfl w2.heap.size 0 rfl (hrL F p cF cl wt) _ HRG2.out Tryz.underlying153 rfl HSZ.out ?_) | fail)
        refine HCT.out.mono ?_
        rintro e w6 ⟨⟨b, rfl, hb1, hb0⟩, hk6⟩
        have HR6 := Lib.hid (HR.out.kept hk6)
        have K6 := Lib.hid (HKR.out.trans hk6)
        have HB1 := Lib.hid hb1
        have HB0 := Lib.hid hb0
        have hl6 := K6.out.size
        have hO := HO.out
        clear hk6 hb1 hb0 h1 l1 HCT
        cases b with
        | false =>
          go_wp2_with fail
          go_roundw
          case rel => exact ⟨k + 1, by omega, by go_num, ⟨res, HR6.out, HQ.out.keep HX.out (.inr ⟨rfl, .inr (by rw [HGD.out, HXO.out]; exact HB0.out trivial)⟩)⟩, K6.out⟩
          case measure => simp [intOf]; omega
        | true =>
          obtain ⟨y, hy⟩ : ∃ y, res[k]? = some y := ⟨_, List.getElem?_eq_getElem (by rw [HR6.out.ln]; exact hlt)⟩
          obtain ⟨g1, g2⟩ := HR6.out.rh k y hy
          rw [Nat.zero_add] at g1 g2
          have lg := cell_lt g1
          clear hy
          go_wp2_with fail
          go_roundw
          case rel => exact ⟨k + 1, by omega, by go_num, ⟨res.set k x, HR6.out.put hlt _, HQ.out.put HX.out (.inl ⟨HX0.out, rfl, by rw [HGD.out, HXO.out]; exact HB1.out trivial⟩)⟩, K6.out.setCell (p := ⟨w3.heap.size, k, none⟩) (Nat.le_refl _) _⟩
          case measure => simp [intOf]; omega
    · obtain rfl : k = p := by omega
      go_wp2_with fail
      go_ret2
      exact ⟨.inr ⟨HEE.out, by rw [HFS.out, HWT.out, HCX.out]; exact .inl ⟨_, ow, res, rfl, HR.out, HMT.out, HQ.out, by have := K3.out.size; omega⟩⟩, K3.out.trans HKR.out⟩
end Go.Proofs.YtologmoanaccpaaGreatDoor
