/-
  the hearing of claims: hear
  pairs of marks that can be mistaken: Mistaken
-/
import Derived.Test.YtologmoanaccpaaGreatDoorBF
import Derived.Test.YtologmoanaccpaaGreatDoorBD
import Derived.Test.YtologmoanaccpaaGreatDoorBB
import Derived.OrdersHeld
import Derived.Deep.MidRow
namespace Go.Proofs.YtologmoanaccpaaGreatDoor
set_option linter.all false
open Go.RowKit Go.Shelf

theorem hrL_len (F : Option Addr) (n c cl : Nat) (wt : List Int) : (hrL F n c cl wt).length = wt.length + 2 := by simp [hrL]
theorem hrL_cl (F : Option Addr) (n c cl cl' : Nat) (wt : List Int) : (hrL F n c cl wt).set 1 (.int .u64 (cl' : Int)) = hrL F n c cl' wt := rfl
theorem hrL_wt (F : Option Addr) (n c cl : Nat) (wt : List Int) (o : Nat) (x : Int) : (hrL F n c cl wt).set (2 + o) (.int .i64 x) = hrL F n c cl (wt.set o x) := by
  rw [Nat.add_comm]
  simp [hrL, List.map_set]
theorem hrL_fs (F F' : Option Addr) (n n' c c' cl : Nat) (wt : List Int) : (hrL F n c cl wt).set 0 (.slice F' n' c') = hrL F' n' c' cl wt := rfl
def uC (f : Nat) : List Value := [.int .u64 (f : Int)]
theorem flat_uC : ∀ xs : List Nat, xs.flatMap uC = xs.map (fun f : Nat => Value.int .u64 (f : Int))
  | [] => rfl
  | x :: xs => by rw [List.flatMap_cons, flat_uC xs]; rfl
theorem own_fit {w : World} {b nb : Nat} {v : Value} {xs : List Nat} (h : w.ownsRow b 117 1 v nb (xs.flatMap uC)) (hn : xs.length = nb) (h60 : nb ≤ 60) (hx : ∀ f ∈ xs, f < 2 ^ 64) (hw : 0 < w.heap.size) : ∃ F cF fb, v = .slice F nb cF ∧ FitR w F nb cF fb 0 xs ∧ (0 < nb → b ≤ fb) := by
  rcases h.2 with ⟨h1, h2⟩ | ⟨g, cap, cur, h1, hb, hh, hc, hm, hs, ht⟩
  · subst h2
    exact ⟨none, 0, 0, h1, ⟨hn, by omega, by omega, by omega, hx, fun hp => by omega, hw, fun i f hi => by rw [List.length_eq_zero_iff.1 hn] at hi; simp at hi⟩, fun hp => by omega⟩
  · refine ⟨_, cap, g, h1, ⟨hn, h60, hc, by unfold maxLen at hm; omega, hx, fun _ => rfl, (Array.getElem?_eq_some_iff.1 hh).1, fun i f hi => ?_⟩, fun _ => hb⟩
    have e : xs.flatMap uC = xs.map (fun f : Nat => Value.int .u64 (f : Int)) := flat_uC xs
    have hv : (xs.flatMap uC)[i]? = some (.int .u64 (f : Int)) := by rw [e, List.getElem?_map, hi]; rfl
    rw [← ht, List.getElem?_take] at hv
    split at hv
    · rw [cell_of_row _ _ _ _ _ _ hh, Nat.zero_add]; simpa using hv
    · cases hv
/-- the owners of claims; how many each claims -/
def clN (l : List Cl) : Nat := l.foldl (fun a x => a ||| 2 ^ x.own.toNat) 0
def wtL (l : List Cl) : List Int := l.foldl (fun a x => a.set x.own.toNat x.num) (List.replicate 41 0)
theorem clN_snoc (l : List Cl) (x : Cl) : clN (l ++ [x]) = clN l ||| 2 ^ x.own.toNat := by simp [clN]
theorem wtL_snoc (l : List Cl) (x : Cl) : wtL (l ++ [x]) = (wtL l).set x.own.toNat x.num := by simp [wtL]
theorem wtL_len (l : List Cl) : (wtL l).length = 41 := by
  unfold wtL
  suffices h : ∀ (l : List Cl) (a : List Int), (l.foldl (fun a x => a.set x.own.toNat x.num) a).length = a.length by rw [h]; simp
  intro l
  induction l with
  | nil => intro a; rfl
  | cons x l ih => intro a; rw [List.foldl_cons, ih, List.length_set]
theorem clN_lt : ∀ (l : List Cl) (a : Nat), a < 2 ^ 41 → (∀ x ∈ l, x.own ≤ 40) → l.foldl (fun a x => a ||| 2 ^ x.own.toNat) a < 2 ^ 41
  | [], a, h, _ => h
  | x :: l, a, h, hf => by
    rw [List.foldl_cons]
    refine clN_lt l _ ?_ (fun g hg => hf g (List.mem_cons_of_mem _ hg))
    have := hf x (List.mem_cons_self ..)
    exact Nat.or_lt_two_pow h (Nat.pow_lt_pow_right (by omega) (by omega))
theorem own_setc {W : World} {b q : Nat} {e : TypeId} {n : Nat} {v u : Value} {k : Nat} {ys : List Value} (h : W.ownsRow b e k v n ys) (hq : q < b) : (W.setCell ⟨q, 0, none⟩ u).ownsRow b e k v n ys := by
  refine ⟨h.1, ?_⟩
  rcases h.2 with h1 | ⟨g, cap, cur, h1, h2, h3, h4⟩
  · exact .inl h1
  · exact .inr ⟨g, cap, cur, h1, h2, by rw [heap_set (by simp; omega)]; exact h3, h4⟩
theorem info73 : (Tryz.prog.info? 117).map (fun i => (i.zero, i.size, i.bytes)) = some (some (.int .u64 0), 1, 8) := by kernel_rfl
theorem cell_heap {W W' : World} {b o : Nat} (h : W'.heap[b]? = W.heap[b]?) : W'.cell? ⟨b, o, none⟩ = W.cell? ⟨b, o, none⟩ := by
  unfold World.cell?
  simp only [h]
theorem frozen_heap {W W' : World} {b o : Nat} (h : W'.heap[b]? = W.heap[b]?) : W'.frozen? ⟨b, o, none⟩ = W.frozen? ⟨b, o, none⟩ := by
  unfold World.frozen?
  simp only [h]
set_option maxRecDepth 100000 in
set_option maxHeartbeats 3200000 in
theorem hear_any (A B C D : Option Addr) (n c m d p q u v : Nat) (ms : List Mk) (fs : List Fd) (day : Int) (found : List Sg) (cls : List Cl) (w : World) (hs : SmA w A n c ms B m d fs) (hfo : SlA sgV 6 Sg.ok w C p q found) (hcl : SlA clC 2 Cl.ok w D u v cls) (hce : chE ms fs day found cls = 0) :
    Calls Tryz.prog 114 #[.agg #[.slice A n c, .slice B m d], .int .i64 day, .slice C p q, .slice D u v] w fun e w' => ∃ F cF fb fo, e = .returned (.agg (hrL F p cF (clN cls) (wtL cls)).toArray) ∧ FitR w' F p cF fb fo (found.map fun s => ownD ms fs day s &&& clN cls) ∧ (0 < p → w.heap.size ≤ fb) ∧ Kept w w' := by
  have hi : (Tryz.prog.info? 153).map (·.size) = some 43 := by kernel_rfl
  obtain ⟨e1, e2, e3, e4⟩ := fstE_four hce
  obtain ⟨Wb, hWb⟩ : ∃ Wb, Wb = (w.alloc (.cells #[.slice A n c, .slice B m d] 25)).alloc (.cells #[.slice none 0 0, .int .u64 0, .int .i64 0, .int .i64 0, .int .i64 0, .int .i64 0, .int .i64 0, .int .i64 0, .int .i64 0, .int .i64 0, .int .i64 0, .int .i64 0, .int .i64 0, .int .i64 0, .int .i64 0, .int .i64 0, .int .i64 0, .int .i64 0, .int .i64 0, .int .i64 0, .int .i64 0, .int .i64 0, .int .i64 0, .int .i64 0, .int .i64 0, .int .i64 0, .int .i64 0, .int .i64 0, .int .i64 0, .int .i64 0, .int .i64 0, .int .i64 0, .int .i64 0, .int .i64 0, .int .i64 0, .int .i64 0, .int .i64 0, .int .i64 0, .int .i64 0, .int .i64 0, .int .i64 0, .int .i64 0, .int .i64 0] 153) := ⟨_, rfl⟩
  obtain ⟨W0, hW0⟩ : ∃ W0, W0 = Wb.alloc (.cells #[.slice none 0 0, .int .u64 0, .int .i64 0, .int .i64 0, .int .i64 0, .int .i64 0, .int .i64 0, .int .i64 0, .int .i64 0, .int .i64 0, .int .i64 0, .int .i64 0, .int .i64 0, .int .i64 0, .int .i64 0, .int .i64 0, .int .i64 0, .int .i64 0, .int .i64 0, .int .i64 0, .int .i64 0, .int .i64 0, .int .i64 0, .int .i64 0, .int .i64 0, .int .i64 0, .int .i64 0, .int .i64 0, .int .i64 0, .int .i64 0, .int .i64 0, .int .i64 0, .int .i64 0, .int .i64 0, .int .i64 0, .int .i64 0, .int .i64 0, .int .i64 0, .int .i64 0, .int .i64 0, .int .i64 0, .int .i64 0, .int .i64 0] 153) := ⟨_, rfl⟩
  have zb : Wb.heap.size = w.heap.size + 1 + 1 := by rw [hWb]; simp
  have kb : Kept w Wb := by rw [hWb]; exact ((Kept.refl _).alloc _).alloc _
  have k0 : Kept Wb W0 := by rw [hW0]; exact (Kept.refl _).alloc _
  have r9 : RowC W0 (w.heap.size + 1 + 1) (hrL none 0 0 0 (List.replicate 41 0)) := by rw [hW0, ← zb]; exact RowC.new Wb (hrL none 0 0 0 (List.replicate 41 0)) 153
  have r4 : RowC Wb w.heap.size [.slice A n c, .slice B m d] := by rw [hWb]; exact (RowC.new w [.slice A n c, .slice B m d] 25).kept ((Kept.refl _).alloc _)
  have HB8 := Lib.hid (show Wb.heap[w.heap.size + 1]? = some (.cells (hrL none 0 0 0 (List.replicate 41 0)).toArray 153 (0, 0)) by
    rw [hWb]
    have h := heap_alloc_new (w.alloc (.cells #[.slice A n c, .slice B m d] 25)) (.cells (hrL none 0 0 0 (List.replicate 41 0)).toArray 153)
    rw [World.size_alloc] at h
    exact h)
  have HS := Lib.hid (hs.kept (kb.trans k0))
  have HSB0 := Lib.hid (hs.kept kb)
  have HFO := Lib.hid (hfo.kept kb)
  have HCL := Lib.hid (hcl.kept kb)
  have HCV : RowKit.Hid (∀ x ∈ cls, claimB x = true) := Lib.hid (by
    unfold clE at e4
    split at e4
    · omega
    · split at e4
      · rename_i h1
        exact fun x hx => List.all_eq_true.1 h1 x hx
      · omega)
  have HR4 := Lib.hid r4
  have HR9 := Lib.hid r9
  have HK0 := Lib.hid k0
  have HKB := Lib.hid kb
  have HWZ := Lib.hid (show W0 = ((w.alloc (.cells #[.slice A n c, .slice B m d] 25)).alloc (.cells #[.slice none 0 0, .int .u64 0, .int .i64 0, .int .i64 0, .int .i64 0, .int .i64 0, .int .i64 0, .int .i64 0, .int .i64 0, .int .i64 0, .int .i64 0, .int .i64 0, .int .i64 0, .int .i64 0, .int .i64 0, .int .i64 0, .int .i64 0, .int .i64 0, .int .i64 0, .int .i64 0, .int .i64 0, .int .i64 0, .int .i64 0, .int .i64 0, .int .i64 0, .int .i64 0, .int .i64 0, .int .i64 0, .int .i64 0, .int .i64 0, .int .i64 0, .int .i64 0, .int .i64 0, .int .i64 0, .int .i64 0, .int .i64 0, .int .i64 0, .int .i64 0, .int .i64 0, .int .i64 0, .int .i64 0, .int .i64 0, .int .i64 0] 153)).alloc (.cells #[.slice none 0 0, .int .u64 0, .int .i64 0, .int .i64 0, .int .i64 0, .int .i64 0, .int .i64 0, .int .i64 0, .int .i64 0, .int .i64 0, .int .i64 0, .int .i64 0, .int .i64 0, .int .i64 0, .int .i64 0, .int .i64 0, .int .i64 0, .int .i64 0, .int .i64 0, .int .i64 0, .int .i64 0, .int .i64 0, .int .i64 0, .int .i64 0, .int .i64 0, .int .i64 0, .int .i64 0, .int .i64 0, .int .i64 0, .int .i64 0, .int .i64 0, .int .i64 0, .int .i64 0, .int .i64 0, .int .i64 0, .int .i64 0, .int .i64 0, .int .i64 0, .int .i64 0, .int .i64 0, .int .i64 0, .int .i64 0, .int .i64 0] 153) by rw [hW0, hWb])
  have ZB := Lib.hid zb
  have hnu := hcl.2.1
  have hnv := hcl.2.2.1
  have hpq := hfo.2.1
  have hqm := hfo.2.2.1
  clear hs hfo hcl hce hWb hW0 zb kb k0 r9 r4 e4
  go_enter Tryz.func114, Tryz.ntmps114
  go_upto_region 3 with (fail)
  rw [← HWZ.out]
  go_loopw [17] (fun i wr => ∃ k : Nat, k ≤ u ∧ i = .int .i64 k ∧ RowC wr (w.heap.size + 1 + 1) (hrL none 0 0 (clN (cls.take k)) (wtL (cls.take k))) ∧ Kept Wb wr) (fun i _ => u - (intOf i).toNat)
  case atStart => exact ⟨0, by omega, by first | rfl | go_num, HR9.out, HK0.out⟩
  case round =>
    obtain ⟨k, hk, rfl, hr, hkr⟩ := hrel
    have HR := Lib.hid hr
    have HKR := Lib.hid hkr
    clear hr hkr
    by_cases hlt : k < u
    · obtain ⟨x, hx⟩ : ∃ x, cls[k]? = some x := ⟨_, List.getElem?_eq_getElem (by rw [HCL.out.1]; exact hlt)⟩
      obtain ⟨b, off, hA, ht⟩ := HCL.out.2.2.2.2 (by omega)
      subst hA
      have hcc := fun j v hv => (HKR.out.cells _ _ (cell_lt (ht k x hx j v hv))).trans (ht k x hx j v hv)
      have c0 := hcc 0 _ rfl
      have c1 := hcc 1 _ rfl
      simp only [Nat.add_zero] at c0
      have hxc := HCV.out x (List.mem_of_getElem? hx)
      unfold claimB at hxc
      rw [Bool.and_eq_true, inB_iff, inB_iff] at hxc
      obtain ⟨xo, xn⟩ := x
      dsimp only at c0 c1 hxc
      obtain ⟨on, rfl⟩ : ∃ on : Nat, xo = (on : Int) := ⟨xo.toNat, by omega⟩
      have ho1 : 1 ≤ on := by omega
      have ho2 : on ≤ 40 := by omega
      have hcl41 : clN (cls.take k) < 2 ^ 41 := clN_lt _ 0 (by decide) (fun y hy => by
        have := HCV.out y (List.mem_of_mem_take hy)
        unfold claimB at this
        rw [Bool.and_eq_true, inB_iff] at this
        exact this.1.2)
      obtain ⟨S, hS⟩ : ∃ S, clN (cls.take k) = S := ⟨_, rfl⟩
      obtain ⟨wt, hwt⟩ : ∃ l, wtL (cls.take k) = l := ⟨_, rfl⟩
      have hwl : wt.length = 41 := by rw [← hwt]; exact wtL_len _
      rw [hS] at hcl41
      have HT1 : RowKit.Hid (clN (cls.take (k + 1)) = S ||| 2 ^ on) := Lib.hid (by rw [take_snoc' hx, clN_snoc, hS]; simp)
      have HT2 : RowKit.Hid (wtL (cls.take (k + 1)) = wt.set on xn) := Lib.hid (by rw [take_snoc' hx, wtL_snoc, hwt]; simp)
      have hor : bits BinOp.or IntKind.u64 (S : Int) ((2 : Int) ^ on) = ((S ||| 2 ^ on : Nat) : Int) := by
        have h := bits_or_u64_nat S (2 ^ on) (by omega) (by simpa using Nat.pow_lt_pow_right (a := 2) (by omega) (show on < 64 by omega))
        rw [show ((2 ^ on : Nat) : Int) = (2 : Int) ^ on by push_cast; rfl] at h
        exact h
      have hr := HR.out
      rw [hS, hwt] at hr
      have HR1 := Lib.hid hr
      obtain ⟨Wa, hWa⟩ : ∃ Wa, Wa = wr.alloc (.cells #[.int .i64 (on : Int), .int .i64 xn] 94) := ⟨_, rfl⟩
      have ka : Kept wr Wa := by rw [hWa]; exact (Kept.refl _).alloc _
      have HWA := Lib.hid hWa
      have HKA := Lib.hid (HKR.out.trans ka)
      have RX := Lib.hid (show RowC Wa wr.heap.size [.int .i64 (on : Int), .int .i64 xn] by rw [hWa]; exact RowC.new wr [.int .i64 (on : Int), .int .i64 xn] 94)
      have RA := Lib.hid (hr.kept ka)
      have hlr := cell_lt (hr 0 _ rfl).1
      have HJ : RowKit.Hid (∀ W, Calls Tryz.prog 108 #[.int .i64 (on : Int)] W fun e w' => e = .returned (.int .u64 ((2 : Int) ^ on)) ∧ W = w') := Lib.hid (fun W => just_any on (by omega) W)
      obtain ⟨S2, hS2⟩ : ∃ S2, S2 = S ||| 2 ^ on := ⟨_, rfl⟩
      rw [← hS2] at hor HT1
      clear hx ht hcc hWa ka hS hwt hr hS2 hcl41
      go_upto_region 5 with (fail)
      rw [← HWA.out]
      clear c0 c1
      go_cut [] (fun wx => RowC wx (w.heap.size + 1 + 1) (hrL none 0 0 S2 wt) ∧ RowC wx wr.heap.size [.int .i64 (on : Int), .int .i64 xn] ∧ Kept Wb wx)
      case first =>
        have a0 := (RX.out 0 _ rfl).1
        have a1 := (RA.out 1 _ rfl).1
        have a2 := (RA.out 1 _ rfl).2
        have l0 := cell_lt a0
        go_region_law (first | (rw [if_pos (by rfl)]; go_simp; refine (HJ.out _).mono ?_; rintro e w1 ⟨rfl, rfl⟩; go_wp2_with fail) | fail)
        all_goals go_wp2
        all_goals go_meet
        all_goals exact ⟨((RA.out.put (j := 1) (by simp [hrL]) (.int .u64 (S2 : Int)))).drew, (RX.out.far (by omega) _).drew, (HKA.out.setCell (p := ⟨w.heap.size + 1 + 1, 1, none⟩) (by have := ZB.out; simp; omega) _).drew⟩
      case rest =>
        obtain ⟨q1, q2, q3⟩ := hcut
        obtain ⟨W5, rfl⟩ : ∃ wd, wd = wc := ⟨_, rfl⟩
        have Q1 := Lib.hid q1
        have Q3 := Lib.hid q3
        have b0 := (q2 0 _ rfl).1
        have b1 := (q2 1 _ rfl).1
        have lb := cell_lt b0
        obtain ⟨y, hy⟩ : ∃ y, wt[on]? = some y := ⟨_, List.getElem?_eq_getElem (by omega)⟩
        have b2 := q1 (2 + on) (.int .i64 y) (by rw [Nat.add_comm]; simp [hrL, hy])
        have b3 := b2.1
        have b4 := b2.2
        clear q1 q2 q3 b2 hy
        go_wp2_with fail
        go_roundw
        case rel => exact ⟨k + 1, by omega, by go_num, by rw [HT1.out, HT2.out, ← hrL_wt]; exact Q1.out.put (j := 2 + on) (by rw [hrL_len]; omega) _, Q3.out.setCell (p := ⟨w.heap.size + 1 + 1, 2 + on, none⟩) (by have := ZB.out; simp; omega) _⟩
        case measure => simp [intOf]; omega
    · obtain rfl : k = u := by omega
      have hT : cls.take k = cls := List.take_of_length_le (by rw [HCL.out.1]; exact Nat.le_refl _)
      have hr := HR.out
      rw [hT] at hr
      have HR9' := Lib.hid hr
      have HR4' := Lib.hid (HR4.out.kept HKR.out)
      have a0 := (HR4'.out 0 _ rfl).1
      have a1 := (HR4'.out 1 _ rfl).1
      have la := cell_lt a0
      have hmv := (sm_ok e1).2.2.1
      have hfv := (sm_ok e1).2.2.2.1
      have hm1 := (sm_ok e1).1
      have hn100 : n ≤ 1000 := by rw [← HS.out.1.1]; omega
      have hfn := fn_ok e3
      have hp60 : p ≤ 60 := by rw [← HFO.out.1]; exact hfn.1
      have HMV := Lib.hid hmv
      have HFV := Lib.hid hfv
      have HFN := Lib.hid hfn.2
      have HSB : RowKit.Hid (SmA wr A n c ms B m d fs) := Lib.hid (HSB0.out.kept HKR.out)
      have HVW := Lib.hid (viewOf2_any A B n c m d ms fs day wr HSB.out hn100 hmv hfv)
      have hi7 : (Tryz.prog.info? 122).map (·.size) = some 31 := by kernel_rfl
      clear hr hT e1 e2 e3 hmv hfv hm1 hfn
      go_wp2_with fail
      refine HVW.out.mono ?_
      rintro e w4 ⟨A5, c5, l5, rfl, p1, p2, sl5, fr5, hk4⟩
      have HP1 := Lib.hid p1
      have SL5 := Lib.hid sl5
      have FR5 := Lib.hid fr5
      have K4 := Lib.hid hk4
      clear hk4 p1 p2 sl5 fr5 a0 a1 la
      go_wp2_with (refine wpList_store_row rfl 122 (.tmp 12) (.tmp 37) rfl w4.heap.size (Value.slice A5 l5.length c5 :: lkL (lkX fs)).toArray rfl rfl 122 zero31.toArray (heap_alloc_new w4 _) (by rw [hi7]; simp [lkL_len]) (by simp [zero31, lkL_len]) (by simp [lkL, Value.oneCell']) ?_)
      obtain ⟨Wv, hWv⟩ : ∃ Wv, Wv = (w4.alloc (.cells zero31.toArray 122)).setRow w4.heap.size (Value.slice A5 l5.length c5 :: lkL (lkX fs)).toArray := ⟨_, rfl⟩
      have hbb : Wv.heap[w4.heap.size]? = some (.cells (Value.slice A5 l5.length c5 :: lkL (lkX fs)).toArray 122 (0, 0)) := by rw [hWv]; exact setRow_heap _ _ _ _ _ _ (heap_alloc_new w4 _)
      have RB := Lib.hid (show RowC Wv w4.heap.size (Value.slice A5 l5.length c5 :: lkL (lkX fs)) from fun j v hv => ⟨by rw [cell_of_row _ _ _ _ _ _ hbb]; simpa using hv, frozen_of_row _ _ _ _ _ hbb⟩)
      have hkv : Kept w4 Wv := by rw [hWv]; exact ((Kept.refl w4).alloc _).setRow (Nat.le_refl _) _
      have HZZ : RowKit.Hid (Wv = (w4.alloc (.cells #[.slice none 0 0, .int .u8 0, .int .u8 0, .int .u8 0, .int .u8 0, .int .u8 0, .int .u8 0, .int .u8 0, .int .u8 0, .int .u8 0, .int .u8 0, .int .u8 0, .int .u8 0, .int .u8 0, .int .u8 0, .int .u8 0, .int .u8 0, .int .u8 0, .int .u8 0, .int .u8 0, .int .u8 0, .int .u8 0, .int .u8 0, .int .u8 0, .int .u8 0, .int .u8 0, .int .u8 0, .int .u8 0, .int .u8 0, .int .u8 0, .int .u8 0] 122)).setRow w4.heap.size (Value.slice A5 l5.length c5 :: lkL (lkX fs)).toArray) := Lib.hid (by rw [hWv]; rfl)
      have hvs : w4.heap.size < Wv.heap.size := by
        have := (Array.getElem?_eq_some_iff.1 hbb).1
        exact this
      have KV := Lib.hid hkv
      have HR9v := Lib.hid (HR9'.out.kept (K4.out.trans hkv))
      have hsl := cell_lt (HR9'.out 0 _ rfl).1
      have hz4 := K4.out.size
      have SLV := Lib.hid (SL5.out.kept hkv)
      rw [← HZZ.out]
      clear hWv hbb hkv
      obtain ⟨i0, hi0, hz0, hz1, hz2⟩ := info_parts info73
      obtain ⟨wo, rfl⟩ : ∃ a, a = wr := ⟨_, rfl⟩
      go_loopw [40] (fun i wr2 => ∃ (k2 : Nat) (vv : Value), k2 ≤ p ∧ i = .int .i64 k2 ∧ RowC wr2 (w.heap.size + 1 + 1) (vv :: .int .u64 (clN cls : Int) :: (wtL cls).map (Value.int .i64)) ∧ wr2.ownsRow Wv.heap.size 117 1 vv k2 (((found.take k2).map fun s => ownD ms fs day s &&& clN cls).flatMap uC) ∧ (∀ b, b < Wv.heap.size → b ≠ w.heap.size + 1 + 1 → wr2.heap[b]? = Wv.heap[b]?) ∧ Wv.heap.size ≤ wr2.heap.size ∧ Kept Wb wr2) (fun i _ => p - (intOf i).toNat)
      case atStart => exact ⟨0, .slice none 0 0, by omega, by first | rfl | go_num, HR9v.out, World.ownsRow_nil _ _ _ _, fun b _ _ => rfl, Nat.le_refl _, HKR.out.trans (K4.out.trans KV.out)⟩
      case round =>
        obtain ⟨wr2, rfl⟩ : ∃ a, a = wr := ⟨_, rfl⟩
        obtain ⟨k2, vv, hk2, rfl, hr9, hown, hsame, hsz, hkb⟩ := hrel
        have R9 := Lib.hid hr9
        have OW := Lib.hid hown
        have SM := Lib.hid hsame
        have KB := Lib.hid hkb
        clear hr9 hown hsame hkb
        by_cases hlt2 : k2 < p
        · obtain ⟨s, hsk⟩ : ∃ s, found[k2]? = some s := ⟨_, List.getElem?_eq_getElem (by rw [HFO.out.1]; exact hlt2)⟩
          obtain ⟨b, off, hA, ht⟩ := HFO.out.2.2.2.2 (by omega)
          subst hA
          have hsm := List.mem_of_getElem? hsk
          have hok := HFO.out.2.2.2.1 s hsm
          have hss := HFN.out s hsm
          have hcc := fun j v hv => (KB.out.cells _ _ (cell_lt (ht k2 s hsk j v hv))).trans (ht k2 s hsk j v hv)
          have c0 := hcc 0 _ rfl
          have c1 := hcc 1 _ rfl
          have c2 := hcc 2 _ rfl
          have c3 := hcc 3 _ rfl
          have c4 := hcc 4 _ rfl
          have c5' := hcc 5 _ rfl
          simp only [Nat.add_zero] at c0
          obtain ⟨S1, hS1⟩ : ∃ S, ownD ms fs day s = S := ⟨_, rfl⟩
          obtain ⟨cl, hcl⟩ : ∃ S, clN cls = S := ⟨_, rfl⟩
          have h2 := ownN_perm fs s HP1.out
          have hSLr : SlA mkC 9 Mk.ok wr2 A5 l5.length c5 l5 := by
            have h := SLV.out
            refine ⟨h.1, h.2.1, h.2.2.1, h.2.2.2.1, fun hn => ?_⟩
            obtain ⟨b5, o5, e5, t5⟩ := h.2.2.2.2 hn
            have hfr := FR5.out b5 o5 none e5
            refine ⟨b5, o5, e5, fun i x hx j v hv => ?_⟩
            have hc := t5 i x hx j v hv
            rw [cell_heap (SM.out b5 (cell_lt hc) (by omega))]
            exact hc
          obtain ⟨Wa, hWa⟩ : ∃ Wa, Wa = wr2.alloc (.cells #[.int .u8 s.s0, .int .u8 s.s1, .int .u8 s.s2, .int .u8 s.s3, .int .u8 s.s4, .int .u8 s.s5] 39) := ⟨_, rfl⟩
          have ka : Kept wr2 Wa := by rw [hWa]; exact (Kept.refl _).alloc _
          have za : Wa.heap.size = wr2.heap.size + 1 := by rw [hWa]; simp
          have KA := Lib.hid ka
          have ZA := Lib.hid za
          have HWA := Lib.hid hWa
          have H20 : RowKit.Hid (∀ W, Kept Wa W → Calls Tryz.prog 91 #[.agg (Value.slice A5 l5.length c5 :: lkL (lkX fs)).toArray, .agg #[.int .u8 s.s0, .int .u8 s.s1, .int .u8 s.s2, .int .u8 s.s3, .int .u8 s.s4, .int .u8 s.s5]] W fun e w' => e = .returned (.int .u64 ((S1 : Nat) : Int)) ∧ Kept W w') := Lib.hid (fun W hW => by
            rw [← hS1]
            unfold ownD
            rw [← h2]
            exact owners_any A5 l5.length c5 l5 fs s W (hSLr.kept (ka.trans hW)) (fun x hx => HMV.out x (List.mem_filter.1 (HP1.out.mem_iff.1 hx)).1) (fade4 HFV.out) hok hss)
          have RS := Lib.hid (show RowC Wa wr2.heap.size (sgV s) by rw [hWa]; exact RowC.new wr2 (sgV s) 39)
          have RV := Lib.hid (show RowC Wa w4.heap.size (Value.slice A5 l5.length c5 :: lkL (lkX fs)) from RowC.kept (fun j v hv => by
            have h := RB.out j v hv
            have hh := SM.out w4.heap.size hvs (by omega)
            exact ⟨by rw [cell_heap hh]; exact h.1, by rw [frozen_heap hh]; exact h.2⟩) ka)
          have R9a := Lib.hid (R9.out.kept ka)
          rw [hcl] at R9a
          have HSP : RowKit.Hid (∀ W, RowC W (w.heap.size + 1 + 1) [] → W.cell? ⟨w.heap.size + 1 + 1, 1, none⟩ = some (.int .u64 (cl : Int)) → RowC W w4.heap.size (Value.slice A5 l5.length c5 :: lkL (lkX fs)) → RowC W wr2.heap.size (sgV s) → (W.cell? ⟨w.heap.size + 1 + 1, 1, none⟩ = some (.int .u64 (cl : Int)) ∧ W.rangeAt w4.heap.size 0 (Value.slice A5 l5.length c5 :: lkL (lkX fs)) ∧ W.cell? ⟨wr2.heap.size, 0, none⟩ = some (.int .u8 s.s0) ∧ W.cell? ⟨wr2.heap.size, 1, none⟩ = some (.int .u8 s.s1) ∧ W.cell? ⟨wr2.heap.size, 2, none⟩ = some (.int .u8 s.s2) ∧ W.cell? ⟨wr2.heap.size, 3, none⟩ = some (.int .u8 s.s3) ∧ W.cell? ⟨wr2.heap.size, 4, none⟩ = some (.int .u8 s.s4) ∧ W.cell? ⟨wr2.heap.size, 5, none⟩ = some (.int .u8 s.s5))) := Lib.hid (fun W _ h1 h2 h3 => ⟨h1, fun j v hv => by rw [Nat.zero_add]; exact (h2 j v hv).1, (h3 0 _ rfl).1, (h3 1 _ rfl).1, (h3 2 _ rfl).1, (h3 3 _ rfl).1, (h3 4 _ rfl).1, (h3 5 _ rfl).1⟩)
          have HSKK := Lib.hid hsk
          have HS1 := Lib.hid hS1
          have hSl := ownN_lt fs s (frcL ms day) 0 (by omega) (fun x hx => by
            have := HMV.out x (List.mem_filter.1 hx).1
            unfold markB at this
            simp [inB] at this
            omega)
          have hS1l : S1 < 18446744073709551616 := by
            have : ownN fs s (frcL ms day) = S1 := hS1
            unfold ownN at this
            omega
          have hcll : cl < 18446744073709551616 := by
            have h41 := clN_lt cls 0 (by decide) (fun y hy => by
              have := HCV.out y hy
              unfold claimB at this
              rw [Bool.and_eq_true, inB_iff] at this
              exact this.1.2)
            have : clN cls = cl := hcl
            unfold clN at this
            omega
          clear hSl hsk hsm hok hss ht hcc hS1 h2 hSLr hWa ka za
          go_upto_region 12 with (fail)
          rw [← HWA.out]
          clear c0 c1 c2 c3 c4 c5'
          obtain ⟨S2, hS2⟩ : ∃ S2, S2 = S1 &&& cl := ⟨_, rfl⟩
          have hand : bits BinOp.and IntKind.u64 (S1 : Int) (cl : Int) = (S2 : Int) := by rw [hS2]; exact bits_and_u64_nat S1 cl hS1l hcll
          have HSK : RowKit.Hid (∀ W, Kept Wa W → (W.cell? ⟨w.heap.size + 1 + 1, 1, none⟩ = some (.int .u64 (cl : Int)) ∧ W.rangeAt w4.heap.size 0 (Value.slice A5 l5.length c5 :: lkL (lkX fs)) ∧ W.cell? ⟨wr2.heap.size, 0, none⟩ = some (.int .u8 s.s0) ∧ W.cell? ⟨wr2.heap.size, 1, none⟩ = some (.int .u8 s.s1) ∧ W.cell? ⟨wr2.heap.size, 2, none⟩ = some (.int .u8 s.s2) ∧ W.cell? ⟨wr2.heap.size, 3, none⟩ = some (.int .u8 s.s3) ∧ W.cell? ⟨wr2.heap.size, 4, none⟩ = some (.int .u8 s.s4) ∧ W.cell? ⟨wr2.heap.size, 5, none⟩ = some (.int .u8 s.s5))) := Lib.hid (fun W hW => HSP.out W (fun j v hv => by simp at hv) ((R9a.kept hW) 1 _ rfl).1 (RV.out.kept hW) (RS.out.kept hW))
          have HC0 : RowKit.Hid (∀ W, Kept Wa W → W.cell? ⟨w.heap.size + 1 + 1, 0, none⟩ = some vv) := Lib.hid (fun W hW => ((R9a.kept hW) 0 _ rfl).1)
          have hwbv := Lib.hid (show Wb.heap.size ≤ Wv.heap.size by have := ZB.out; omega)
          have HS2 := Lib.hid hS2
          clear hS2 hS1l hcll
          refine wp_region_held_drew (S := fun W' => W'.cell? ⟨w.heap.size + 1 + 1, 1, none⟩ = some (.int .u64 (cl : Int)) ∧ W'.rangeAt w4.heap.size 0 (Value.slice A5 l5.length c5 :: lkL (lkX fs)) ∧ W'.cell? ⟨wr2.heap.size, 0, none⟩ = some (.int .u8 s.s0) ∧ W'.cell? ⟨wr2.heap.size, 1, none⟩ = some (.int .u8 s.s1) ∧ W'.cell? ⟨wr2.heap.size, 2, none⟩ = some (.int .u8 s.s2) ∧ W'.cell? ⟨wr2.heap.size, 3, none⟩ = some (.int .u8 s.s3) ∧ W'.cell? ⟨wr2.heap.size, 4, none⟩ = some (.int .u8 s.s4) ∧ W'.cell? ⟨wr2.heap.size, 5, none⟩ = some (.int .u8 s.s5)) (by kernel_rfl) (HSK.out _ (Kept.refl Wa).drew) (fun hHeld => ?_)
          refine take_at (i := 0) (d := some 44) (v := ?_) rfl rfl (by kernel_rfl) (by kernel_rfl) (by kernel_rfl) (fun _ _ _ h => h) (Or.inl ⟨by rfl, ?_⟩) hHeld ?_
          rotate_left
          · intro w hSw
            try dsimp only at hSw
            go_simp
            try (with_reducible rfl)
          try simp only [Act.put, List.setIfInBounds_toArray, List.set_cons_zero, List.set_cons_succ]
          refine take_at (i := 2) (d := some 46) (v := .agg (Value.slice A5 l5.length c5 :: lkL (lkX fs)).toArray) rfl rfl (by kernel_rfl) (by kernel_rfl) (by kernel_rfl) (fun _ _ _ h => h) (yieldsIf_load_mid (by rfl) 122 (.tmp 12) rfl w4.heap.size 0 rfl (Value.slice A5 l5.length c5 :: lkL (lkX fs)) _ (fun W hW => hW.2.1) Tryz.underlying122 rfl (by rw [hi7]; simp [lkL_len])) hHeld ?_
          try simp only [Act.put, List.setIfInBounds_toArray, List.set_cons_zero, List.set_cons_succ]
          refine take_at (i := 3) (d := some 47) (v := ?_) rfl rfl (by kernel_rfl) (by kernel_rfl) (by kernel_rfl) (fun _ _ _ h => h) (Or.inl ⟨by rfl, ?_⟩) hHeld ?_
          rotate_left
          · intro w hSw
            try dsimp only at hSw
            go_simp
            try (with_reducible rfl)
          try simp only [Act.put, List.setIfInBounds_toArray, List.set_cons_zero, List.set_cons_succ]
          refine take_at (i := 5) (d := some 49) (v := ?_) rfl rfl (by kernel_rfl) (by kernel_rfl) (by kernel_rfl) (fun _ _ _ h => h) (Or.inl ⟨by rfl, ?_⟩) hHeld ?_
          rotate_left
          · intro w hSw
            try dsimp only at hSw
            go_simp
            try (with_reducible rfl)
          try simp only [Act.put, List.setIfInBounds_toArray, List.set_cons_zero, List.set_cons_succ]
          refine take_at (i := 6) (d := some 50) (v := ?_) rfl rfl (by kernel_rfl) (by kernel_rfl) (by kernel_rfl) (fun _ _ _ h => h) (Or.inl ⟨by rfl, ?_⟩) hHeld ?_
          rotate_left
          · intro w hSw
            try dsimp only at hSw
            go_simp
            try (with_reducible rfl)
          try simp only [Act.put, List.setIfInBounds_toArray, List.set_cons_zero, List.set_cons_succ]
          refine wpAnyH_ready (rs := [1, 4]) (by kernel_rfl) (by simp) ?_
          refine AllReadyH.cons rfl (fun K hK => ?_) (AllReadyH.cons rfl (fun K hK => ?_) AllReadyH.nil)
          · rw [if_pos (by rfl)]
            have b0 := HC0.out _ (Kept.refl Wa).drew
            have lb0 := cell_lt b0
            go_wp2_with fail
            clear b0 lb0
            refine hK.out _ _ (HSK.out _ (Kept.refl Wa).drew) (fun hHeld => ?_)
            clear hK K
            try simp only [Act.put, List.setIfInBounds_toArray, List.set_cons_zero, List.set_cons_succ]
            refine wpAnyH_ready (rs := [4]) (by kernel_rfl) (by simp) ?_
            refine AllReadyH.cons rfl (fun K hK => ?_) AllReadyH.nil
            rw [if_pos (by rfl)]
            go_simp
            refine (H20.out _ (Kept.refl Wa).drew).mono ?_
            rintro e w5 ⟨rfl, hk5⟩
            have K5 := Lib.hid (((Kept.refl Wa).drew).trans hk5)
            clear hk5
            go_wp2_with fail
            refine hK.out _ _ (HSK.out _ K5.out) (fun hHeld => ?_)
            clear hK K
            try simp only [Act.put, List.setIfInBounds_toArray, List.set_cons_zero, List.set_cons_succ]
            refine take_at (i := 7) (d := some 51) (v := ?_) rfl rfl (by kernel_rfl) (by kernel_rfl) (by kernel_rfl) (fun _ _ _ h => h) (Or.inl ⟨by rfl, ?_⟩) hHeld ?_
            rotate_left
            · intro w hSw
              try dsimp only at hSw
              go_simp
              try (with_reducible rfl)
            try simp only [Act.put, List.setIfInBounds_toArray, List.set_cons_zero, List.set_cons_succ]
            refine wpAnyH_ready (rs := [8]) (by kernel_rfl) (by simp) ?_
            refine AllReadyH.cons rfl (fun K hK => ?_) AllReadyH.nil
            rw [if_pos (by rfl)]
            go_wp2_with fail
            refine hK.out _ _ (HSK.out _ (K5.out.alloc _)) (fun hHeld => ?_)
            clear hK K
            try simp only [Act.put, List.setIfInBounds_toArray, List.set_cons_zero, List.set_cons_succ]
            refine wpAnyH_ready (rs := [9]) (by kernel_rfl) (by simp) ?_
            refine AllReadyH.cons rfl (fun K hK => ?_) AllReadyH.nil
            have HOA := Lib.hid (own_kept OW.out (KA.out.trans K5.out))
            have HNW := Lib.hid (news_of (W := w5) (cs := uC S2) (t := 117) (m := w5.heap.size) rfl)
            have z5 := K5.out.size
            refine step_append_lies _ (by rfl) (.tmp 45) (.tmp 52) 149 (by rfl) Wv.heap.size 117 i0 _ 1 8 Tryz.underlying149 hi0 hz0 hz1 hz2 rfl (by decide) _ k2 _ (by rfl) (own_kept HOA.out ((Kept.refl _).alloc _)) ⟨w5.heap.size, 0, none⟩ 1 1 (uC S2) (by rfl) (by rfl) HNW.out (fun u hu => by simp [uC] at hu; subst hu; rfl) (by decide) (by unfold maxLen; omega) (by omega) (by have := ZA.out; simp; omega) _ (by rfl) ?_
            intro g cap w6 hown6 hgrow6 hat6 hlt6
            have hgs : ∀ b, b < wr2.heap.size + 1 → vv.ownBlock ≠ some b → w6.heap[b]? = Wa.heap[b]? := fun b hb hne => by
              rw [hgrow6.block b (by have := ZA.out; simp; omega) (fun e => hne e.symm)]
              exact (K5.out.alloc _).block b (by have := ZA.out; omega)
            have hog : ∀ b, vv.ownBlock = some b → Wv.heap.size ≤ b ∧ b < wr2.heap.size := fun b hb => ⟨own_ge OW.out hb, own_lt OW.out hb⟩
            have q9 : RowC w6 (w.heap.size + 1 + 1) (vv :: .int .u64 (cl : Int) :: (wtL cls).map (Value.int .i64)) := fun j v hv => by
              have hh := hgs (w.heap.size + 1 + 1) (by omega) (fun e => by have := (hog _ e).1; omega)
              have h := R9a j v hv
              exact ⟨by rw [cell_heap hh]; exact h.1, by rw [frozen_heap hh]; exact h.2⟩
            have qv : RowC w6 w4.heap.size (Value.slice A5 l5.length c5 :: lkL (lkX fs)) := fun j v hv => by
              have hh := hgs w4.heap.size (by omega) (fun e => by have := (hog _ e).1; omega)
              have h := RV.out j v hv
              exact ⟨by rw [cell_heap hh]; exact h.1, by rw [frozen_heap hh]; exact h.2⟩
            have qs : RowC w6 wr2.heap.size (sgV s) := fun j v hv => by
              have hh := hgs wr2.heap.size (by omega) (fun e => by have := (hog _ e).2; omega)
              have h := RS.out j v hv
              exact ⟨by rw [cell_heap hh]; exact h.1, by rw [frozen_heap hh]; exact h.2⟩
            have hsz6 : wr2.heap.size ≤ w6.heap.size := by
              have h1 := hgrow6.size
              rw [World.size_alloc] at h1
              have := ZA.out
              omega
            have Q9 := Lib.hid q9
            have QV := Lib.hid qv
            have QS := Lib.hid qs
            have GS := Lib.hid hgs
            have OG := Lib.hid hog
            have HK6 := Lib.hid (((KB.out.trans KA.out).trans (K5.out.alloc _)).grown hgrow6 (fun r hr => by have := (hog r hr).1; have := hwbv.out; omega))
            have HOW6 := Lib.hid hown6
            clear hown6 hgrow6 hat6 hlt6 hgs hog q9 qv qs
            try go_simp
            refine hK.out _ _ (HSP.out _ (fun j v hv => by simp at hv) (Q9.out 1 _ rfl).1 QV.out QS.out) (fun hHeld => ?_)
            clear hK K
            try simp only [Act.put, List.setIfInBounds_toArray, List.set_cons_zero, List.set_cons_succ]
            refine take_at (i := 10) (d := some 54) (v := ?_) rfl rfl (by kernel_rfl) (by kernel_rfl) (by kernel_rfl) (fun _ _ _ h => h) (Or.inl ⟨by rfl, ?_⟩) hHeld ?_
            rotate_left
            · intro w hSw
              try dsimp only at hSw
              go_simp
              try (with_reducible rfl)
            try simp only [Act.put, List.setIfInBounds_toArray, List.set_cons_zero, List.set_cons_succ]
            refine wpAnyH_ready (rs := [11]) (by kernel_rfl) (by simp) ?_
            refine AllReadyH.cons rfl (fun K hK => ?_) AllReadyH.nil
            rw [if_pos (by rfl)]
            have d0 := (Q9.out 0 _ rfl).1
            have d1 := (Q9.out 0 _ rfl).2
            have ld := cell_lt d0
            go_wp2_with fail
            clear d0 d1 ld
            refine hK.out _ _ (HSP.out _ (fun j v hv => by simp at hv) ((Q9.out.put (j := 0) (by simp) _) 1 _ rfl).1 (QV.out.far (by omega) _) (QS.out.far (by omega) _)) (fun hHeld => ?_)
            clear hK K
            try simp only [Act.put, List.setIfInBounds_toArray, List.set_cons_zero, List.set_cons_succ]
            refine wpAnyH_done (by kernel_rfl) ?_ _
            go_wp2_with fail
            go_roundw
            case rel =>
              refine ⟨k2 + 1, .slice (some ⟨g, 0, none⟩) (k2 + 1) cap, by omega, by go_num, ?_, ?_, ?_, ?_, ?_⟩
              · rw [hcl]; exact Q9.out.put (j := 0) (by simp) _
              · rw [take_snoc' HSKK.out]
                simp only [List.map_append, List.map_cons, List.map_nil, List.flatMap_append, List.flatMap_cons, List.flatMap_nil, List.append_nil]
                rw [hcl, HS1.out, ← HS2.out]
                exact own_setc (by rw [← hcl]; exact HOW6.out) (by have := hsl; omega)
              · intro b hb hne
                rw [heap_set (by simpa using hne), GS.out b (by omega) (fun e => by have := (OG.out _ e).1; omega)]
                exact (KA.out.block b (by omega)).trans (SM.out b hb hne)
              · rw [size_set]; omega
              · exact HK6.out.setCell (p := ⟨w.heap.size + 1 + 1, 0, none⟩) (by have := ZB.out; simp; omega) _
            case measure => simp [intOf]; omega
          · rw [if_pos (by rfl)]
            go_simp
            refine (H20.out _ (Kept.refl Wa).drew).mono ?_
            rintro e w5 ⟨rfl, hk5⟩
            have K5 := Lib.hid (((Kept.refl Wa).drew).trans hk5)
            clear hk5
            go_wp2_with fail
            refine hK.out _ _ (HSK.out _ K5.out) (fun hHeld => ?_)
            clear hK K
            try simp only [Act.put, List.setIfInBounds_toArray, List.set_cons_zero, List.set_cons_succ]
            refine take_at (i := 7) (d := some 51) (v := ?_) rfl rfl (by kernel_rfl) (by kernel_rfl) (by kernel_rfl) (fun _ _ _ h => h) (Or.inl ⟨by rfl, ?_⟩) hHeld ?_
            rotate_left
            · intro w hSw
              try dsimp only at hSw
              go_simp
              try (with_reducible rfl)
            try simp only [Act.put, List.setIfInBounds_toArray, List.set_cons_zero, List.set_cons_succ]
            refine wpAnyH_ready (rs := [1, 8]) (by kernel_rfl) (by simp) ?_
            refine AllReadyH.cons rfl (fun K hK => ?_) (AllReadyH.cons rfl (fun K hK => ?_) AllReadyH.nil)
            · rw [if_pos (by rfl)]
              have b0 := HC0.out _ K5.out
              have lb0 := cell_lt b0
              go_wp2_with fail
              clear b0 lb0
              refine hK.out _ _ (HSK.out _ K5.out) (fun hHeld => ?_)
              clear hK K
              try simp only [Act.put, List.setIfInBounds_toArray, List.set_cons_zero, List.set_cons_succ]
              refine wpAnyH_ready (rs := [8]) (by kernel_rfl) (by simp) ?_
              refine AllReadyH.cons rfl (fun K hK => ?_) AllReadyH.nil
              rw [if_pos (by rfl)]
              go_wp2_with fail
              refine hK.out _ _ (HSK.out _ (K5.out.alloc _)) (fun hHeld => ?_)
              clear hK K
              try simp only [Act.put, List.setIfInBounds_toArray, List.set_cons_zero, List.set_cons_succ]
              refine wpAnyH_ready (rs := [9]) (by kernel_rfl) (by simp) ?_
              refine AllReadyH.cons rfl (fun K hK => ?_) AllReadyH.nil
              have HOA := Lib.hid (own_kept OW.out (KA.out.trans K5.out))
              have HNW := Lib.hid (news_of (W := w5) (cs := uC S2) (t := 117) (m := w5.heap.size) rfl)
              have z5 := K5.out.size
              refine step_append_lies _ (by rfl) (.tmp 45) (.tmp 52) 149 (by rfl) Wv.heap.size 117 i0 _ 1 8 Tryz.underlying149 hi0 hz0 hz1 hz2 rfl (by decide) _ k2 _ (by rfl) (own_kept HOA.out ((Kept.refl _).alloc _)) ⟨w5.heap.size, 0, none⟩ 1 1 (uC S2) (by rfl) (by rfl) HNW.out (fun u hu => by simp [uC] at hu; subst hu; rfl) (by decide) (by unfold maxLen; omega) (by omega) (by have := ZA.out; simp; omega) _ (by rfl) ?_
              intro g cap w6 hown6 hgrow6 hat6 hlt6
              have hgs : ∀ b, b < wr2.heap.size + 1 → vv.ownBlock ≠ some b → w6.heap[b]? = Wa.heap[b]? := fun b hb hne => by
                rw [hgrow6.block b (by have := ZA.out; simp; omega) (fun e => hne e.symm)]
                exact (K5.out.alloc _).block b (by have := ZA.out; omega)
              have hog : ∀ b, vv.ownBlock = some b → Wv.heap.size ≤ b ∧ b < wr2.heap.size := fun b hb => ⟨own_ge OW.out hb, own_lt OW.out hb⟩
              have q9 : RowC w6 (w.heap.size + 1 + 1) (vv :: .int .u64 (cl : Int) :: (wtL cls).map (Value.int .i64)) := fun j v hv => by
                have hh := hgs (w.heap.size + 1 + 1) (by omega) (fun e => by have := (hog _ e).1; omega)
                have h := R9a j v hv
                exact ⟨by rw [cell_heap hh]; exact h.1, by rw [frozen_heap hh]; exact h.2⟩
              have qv : RowC w6 w4.heap.size (Value.slice A5 l5.length c5 :: lkL (lkX fs)) := fun j v hv => by
                have hh := hgs w4.heap.size (by omega) (fun e => by have := (hog _ e).1; omega)
                have h := RV.out j v hv
                exact ⟨by rw [cell_heap hh]; exact h.1, by rw [frozen_heap hh]; exact h.2⟩
              have qs : RowC w6 wr2.heap.size (sgV s) := fun j v hv => by
                have hh := hgs wr2.heap.size (by omega) (fun e => by have := (hog _ e).2; omega)
                have h := RS.out j v hv
                exact ⟨by rw [cell_heap hh]; exact h.1, by rw [frozen_heap hh]; exact h.2⟩
              have hsz6 : wr2.heap.size ≤ w6.heap.size := by
                have h1 := hgrow6.size
                rw [World.size_alloc] at h1
                have := ZA.out
                omega
              have Q9 := Lib.hid q9
              have QV := Lib.hid qv
              have QS := Lib.hid qs
              have GS := Lib.hid hgs
              have OG := Lib.hid hog
              have HK6 := Lib.hid (((KB.out.trans KA.out).trans (K5.out.alloc _)).grown hgrow6 (fun r hr => by have := (hog r hr).1; have := hwbv.out; omega))
              have HOW6 := Lib.hid hown6
              clear hown6 hgrow6 hat6 hlt6 hgs hog q9 qv qs
              try go_simp
              refine hK.out _ _ (HSP.out _ (fun j v hv => by simp at hv) (Q9.out 1 _ rfl).1 QV.out QS.out) (fun hHeld => ?_)
              clear hK K
              try simp only [Act.put, List.setIfInBounds_toArray, List.set_cons_zero, List.set_cons_succ]
              refine take_at (i := 10) (d := some 54) (v := ?_) rfl rfl (by kernel_rfl) (by kernel_rfl) (by kernel_rfl) (fun _ _ _ h => h) (Or.inl ⟨by rfl, ?_⟩) hHeld ?_
              rotate_left
              · intro w hSw
                try dsimp only at hSw
                go_simp
                try (with_reducible rfl)
              try simp only [Act.put, List.setIfInBounds_toArray, List.set_cons_zero, List.set_cons_succ]
              refine wpAnyH_ready (rs := [11]) (by kernel_rfl) (by simp) ?_
              refine AllReadyH.cons rfl (fun K hK => ?_) AllReadyH.nil
              rw [if_pos (by rfl)]
              have d0 := (Q9.out 0 _ rfl).1
              have d1 := (Q9.out 0 _ rfl).2
              have ld := cell_lt d0
              go_wp2_with fail
              clear d0 d1 ld
              refine hK.out _ _ (HSP.out _ (fun j v hv => by simp at hv) ((Q9.out.put (j := 0) (by simp) _) 1 _ rfl).1 (QV.out.far (by omega) _) (QS.out.far (by omega) _)) (fun hHeld => ?_)
              clear hK K
              try simp only [Act.put, List.setIfInBounds_toArray, List.set_cons_zero, List.set_cons_succ]
              refine wpAnyH_done (by kernel_rfl) ?_ _
              go_wp2_with fail
              go_roundw
              case rel =>
                refine ⟨k2 + 1, .slice (some ⟨g, 0, none⟩) (k2 + 1) cap, by omega, by go_num, ?_, ?_, ?_, ?_, ?_⟩
                · rw [hcl]; exact Q9.out.put (j := 0) (by simp) _
                · rw [take_snoc' HSKK.out]
                  simp only [List.map_append, List.map_cons, List.map_nil, List.flatMap_append, List.flatMap_cons, List.flatMap_nil, List.append_nil]
                  rw [hcl, HS1.out, ← HS2.out]
                  exact own_setc (by rw [← hcl]; exact HOW6.out) (by have := hsl; omega)
                · intro b hb hne
                  rw [heap_set (by simpa using hne), GS.out b (by omega) (fun e => by have := (OG.out _ e).1; omega)]
                  exact (KA.out.block b (by omega)).trans (SM.out b hb hne)
                · rw [size_set]; omega
                · exact HK6.out.setCell (p := ⟨w.heap.size + 1 + 1, 0, none⟩) (by have := ZB.out; simp; omega) _
              case measure => simp [intOf]; omega
            · rw [if_pos (by rfl)]
              go_wp2_with fail
              refine hK.out _ _ (HSK.out _ (K5.out.alloc _)) (fun hHeld => ?_)
              clear hK K
              try simp only [Act.put, List.setIfInBounds_toArray, List.set_cons_zero, List.set_cons_succ]
              refine wpAnyH_ready (rs := [1]) (by kernel_rfl) (by simp) ?_
              refine AllReadyH.cons rfl (fun K hK => ?_) AllReadyH.nil
              rw [if_pos (by rfl)]
              have b0 := HC0.out _ (K5.out.alloc (.cells #[.int .u64 (S2 : Int)] 117))
              have lb0 := cell_lt b0
              go_wp2_with fail
              clear b0 lb0
              refine hK.out _ _ (HSK.out _ (K5.out.alloc (.cells #[.int .u64 (S2 : Int)] 117))) (fun hHeld => ?_)
              clear hK K
              try simp only [Act.put, List.setIfInBounds_toArray, List.set_cons_zero, List.set_cons_succ]
              refine wpAnyH_ready (rs := [9]) (by kernel_rfl) (by simp) ?_
              refine AllReadyH.cons rfl (fun K hK => ?_) AllReadyH.nil
              have HOA := Lib.hid (own_kept OW.out (KA.out.trans K5.out))
              have HNW := Lib.hid (news_of (W := w5) (cs := uC S2) (t := 117) (m := w5.heap.size) rfl)
              have z5 := K5.out.size
              refine step_append_lies _ (by rfl) (.tmp 45) (.tmp 52) 149 (by rfl) Wv.heap.size 117 i0 _ 1 8 Tryz.underlying149 hi0 hz0 hz1 hz2 rfl (by decide) _ k2 _ (by rfl) (own_kept HOA.out ((Kept.refl _).alloc _)) ⟨w5.heap.size, 0, none⟩ 1 1 (uC S2) (by rfl) (by rfl) HNW.out (fun u hu => by simp [uC] at hu; subst hu; rfl) (by decide) (by unfold maxLen; omega) (by omega) (by have := ZA.out; simp; omega) _ (by rfl) ?_
              intro g cap w6 hown6 hgrow6 hat6 hlt6
              have hgs : ∀ b, b < wr2.heap.size + 1 → vv.ownBlock ≠ some b → w6.heap[b]? = Wa.heap[b]? := fun b hb hne => by
                rw [hgrow6.block b (by have := ZA.out; simp; omega) (fun e => hne e.symm)]
                exact (K5.out.alloc _).block b (by have := ZA.out; omega)
              have hog : ∀ b, vv.ownBlock = some b → Wv.heap.size ≤ b ∧ b < wr2.heap.size := fun b hb => ⟨own_ge OW.out hb, own_lt OW.out hb⟩
              have q9 : RowC w6 (w.heap.size + 1 + 1) (vv :: .int .u64 (cl : Int) :: (wtL cls).map (Value.int .i64)) := fun j v hv => by
                have hh := hgs (w.heap.size + 1 + 1) (by omega) (fun e => by have := (hog _ e).1; omega)
                have h := R9a j v hv
                exact ⟨by rw [cell_heap hh]; exact h.1, by rw [frozen_heap hh]; exact h.2⟩
              have qv : RowC w6 w4.heap.size (Value.slice A5 l5.length c5 :: lkL (lkX fs)) := fun j v hv => by
                have hh := hgs w4.heap.size (by omega) (fun e => by have := (hog _ e).1; omega)
                have h := RV.out j v hv
                exact ⟨by rw [cell_heap hh]; exact h.1, by rw [frozen_heap hh]; exact h.2⟩
              have qs : RowC w6 wr2.heap.size (sgV s) := fun j v hv => by
                have hh := hgs wr2.heap.size (by omega) (fun e => by have := (hog _ e).2; omega)
                have h := RS.out j v hv
                exact ⟨by rw [cell_heap hh]; exact h.1, by rw [frozen_heap hh]; exact h.2⟩
              have hsz6 : wr2.heap.size ≤ w6.heap.size := by
                have h1 := hgrow6.size
                rw [World.size_alloc] at h1
                have := ZA.out
                omega
              have Q9 := Lib.hid q9
              have QV := Lib.hid qv
              have QS := Lib.hid qs
              have GS := Lib.hid hgs
              have OG := Lib.hid hog
              have HK6 := Lib.hid (((KB.out.trans KA.out).trans (K5.out.alloc _)).grown hgrow6 (fun r hr => by have := (hog r hr).1; have := hwbv.out; omega))
              have HOW6 := Lib.hid hown6
              clear hown6 hgrow6 hat6 hlt6 hgs hog q9 qv qs
              try go_simp
              refine hK.out _ _ (HSP.out _ (fun j v hv => by simp at hv) (Q9.out 1 _ rfl).1 QV.out QS.out) (fun hHeld => ?_)
              clear hK K
              try simp only [Act.put, List.setIfInBounds_toArray, List.set_cons_zero, List.set_cons_succ]
              refine take_at (i := 10) (d := some 54) (v := ?_) rfl rfl (by kernel_rfl) (by kernel_rfl) (by kernel_rfl) (fun _ _ _ h => h) (Or.inl ⟨by rfl, ?_⟩) hHeld ?_
              rotate_left
              · intro w hSw
                try dsimp only at hSw
                go_simp
                try (with_reducible rfl)
              try simp only [Act.put, List.setIfInBounds_toArray, List.set_cons_zero, List.set_cons_succ]
              refine wpAnyH_ready (rs := [11]) (by kernel_rfl) (by simp) ?_
              refine AllReadyH.cons rfl (fun K hK => ?_) AllReadyH.nil
              rw [if_pos (by rfl)]
              have d0 := (Q9.out 0 _ rfl).1
              have d1 := (Q9.out 0 _ rfl).2
              have ld := cell_lt d0
              go_wp2_with fail
              clear d0 d1 ld
              refine hK.out _ _ (HSP.out _ (fun j v hv => by simp at hv) ((Q9.out.put (j := 0) (by simp) _) 1 _ rfl).1 (QV.out.far (by omega) _) (QS.out.far (by omega) _)) (fun hHeld => ?_)
              clear hK K
              try simp only [Act.put, List.setIfInBounds_toArray, List.set_cons_zero, List.set_cons_succ]
              refine wpAnyH_done (by kernel_rfl) ?_ _
              go_wp2_with fail
              go_roundw
              case rel =>
                refine ⟨k2 + 1, .slice (some ⟨g, 0, none⟩) (k2 + 1) cap, by omega, by go_num, ?_, ?_, ?_, ?_, ?_⟩
                · rw [hcl]; exact Q9.out.put (j := 0) (by simp) _
                · rw [take_snoc' HSKK.out]
                  simp only [List.map_append, List.map_cons, List.map_nil, List.flatMap_append, List.flatMap_cons, List.flatMap_nil, List.append_nil]
                  rw [hcl, HS1.out, ← HS2.out]
                  exact own_setc (by rw [← hcl]; exact HOW6.out) (by have := hsl; omega)
                · intro b hb hne
                  rw [heap_set (by simpa using hne), GS.out b (by omega) (fun e => by have := (OG.out _ e).1; omega)]
                  exact (KA.out.block b (by omega)).trans (SM.out b hb hne)
                · rw [size_set]; omega
                · exact HK6.out.setCell (p := ⟨w.heap.size + 1 + 1, 0, none⟩) (by have := ZB.out; simp; omega) _
              case measure => simp [intOf]; omega
        · obtain rfl : k2 = p := by omega
          have hT : found.take k2 = found := List.take_of_length_le (by rw [HFO.out.1]; exact Nat.le_refl _)
          have how := OW.out
          rw [hT] at how
          obtain ⟨F, cF, fb, rfl, hfr, hfb⟩ := own_fit how (by rw [List.length_map]; exact HFO.out.1) hp60 (fun f hf => by
            obtain ⟨s, hs, rfl⟩ := List.mem_map.1 hf
            refine Nat.lt_of_le_of_lt Nat.and_le_right ?_
            have h41 := clN_lt cls 0 (by decide) (fun y hy => by
              have := HCV.out y hy
              unfold claimB at this
              rw [Bool.and_eq_true, inB_iff] at this
              exact this.1.2)
            have e : clN cls = cls.foldl (fun a x => a ||| 2 ^ x.own.toNat) 0 := rfl
            rw [e]
            omega) (by omega)
          have HFR := Lib.hid hfr
          have R9L := Lib.hid (show RowC wr2 (w.heap.size + 1 + 1) (hrL F k2 cF (clN cls) (wtL cls)) from R9.out)
          have HRG := Lib.hid (show wr2.rangeAt (w.heap.size + 1 + 1) 0 (hrL F k2 cF (clN cls) (wtL cls)) from fun j v hv => by rw [Nat.zero_add]; exact (R9L.out j v hv).1)
          have hwl := wtL_len cls
          have H8 := Lib.hid ((KB.out.block (w.heap.size + 1) (by have := ZB.out; omega)).trans HB8.out)
          clear hT how hfr
          go_wp2_with (first | (refine wpList_load_mid rfl 153 (.tmp 9) rfl (w.heap.size + 1 + 1) 0 rfl (hrL F k2 cF (clN cls) (wtL cls)) _ HRG.out Tryz.underlying153 rfl (by rw [hi]; simp [hrL_len, hwl]) ?_) | (refine wpList_store_row rfl 153 (.tmp 8) (.tmp 56) rfl (w.heap.size + 1) (hrL F k2 cF (clN cls) (wtL cls)).toArray rfl rfl 153 (hrL none 0 0 0 (List.replicate 41 0)).toArray H8.out (by rw [hi]; simp [hrL_len, hwl]) (by simp [hrL_len, hwl]) (by simp [hrL, Value.oneCell']) ?_) | fail)
          refine bodyPost_ret (v := .agg (hrL F k2 cF (clN cls) (wtL cls)).toArray) (results_cell_row (fn := Tryz.f114) (p := 8) (ty := 153) rfl _ _ (w.heap.size + 1) 153 (hrL F k2 cF (clN cls) (wtL cls)).toArray (0, 0) _ rfl (setRow_heap _ _ _ _ _ _ H8.out) Tryz.underlying153 rfl (by rw [hi]; simp [hrL_len, hwl])) rfl ⟨F, cF, fb, 0, rfl, ?_, ?_, ?_⟩
          · have h := HFR.out
            refine ⟨h.ln, h.sz, h.nc, h.cm, h.fs, h.fa, by rw [setRow_size]; exact h.lt, fun i f hi' => ?_⟩
            have hik : 0 < k2 := by
              have := (List.getElem?_eq_some_iff.1 hi').1
              rw [h.ln] at this
              omega
            rw [cell_setRow_other _ _ _ _ (by have := hfb hik; simp; omega)]
            exact h.rf i f hi'
          · intro hp
            have := hfb hp
            have := ZB.out
            omega
          · exact (HKB.out.trans KB.out).setRow (by omega) _
end Go.Proofs.YtologmoanaccpaaGreatDoor

namespace Go.Proofs.YtologmoanaccpaaGreatDoor
set_option linter.all false
open Go.RowKit Go.Shelf

structure Pr where
  (a b : Int)
deriving DecidableEq
def prC (x : Pr) : List Value := [.int .i64 x.a, .int .i64 x.b]
def mis1 (fs : List Fd) (x : Mk) (t : List Mk) : List Pr := (t.filter fun y => apK fs x.sg y.sg 6 == 0).map fun y => ⟨x.own, y.own⟩
def misK (fs : List Fd) (l : List Mk) (k : Nat) : List Pr := (List.range k).flatMap fun i => match l[i]? with | some x => mis1 fs x (l.drop (i + 1)) | none => []
def misL (fs : List Fd) (l : List Mk) : List Pr := misK fs l l.length
theorem misK_succ {fs : List Fd} {l : List Mk} {k : Nat} {x : Mk} (h : l[k]? = some x) : misK fs l (k + 1) = misK fs l k ++ mis1 fs x (l.drop (k + 1)) := by
  unfold misK
  rw [List.range_succ, List.flatMap_append]
  simp [h]
theorem mis1_snoc {fs : List Fd} {x : Mk} {t : List Mk} {j : Nat} {y : Mk} (h : t[j]? = some y) : mis1 fs x (t.take (j + 1)) = if (apK fs x.sg y.sg 6 == 0) = true then mis1 fs x (t.take j) ++ [⟨x.own, y.own⟩] else mis1 fs x (t.take j) := by
  unfold mis1
  rw [take_snoc' h, List.filter_append, List.map_append]
  by_cases hb : (apK fs x.sg y.sg 6 == 0) = true
  · simp [hb]
  · simp [hb]
theorem mis1_len (fs : List Fd) (x : Mk) (t : List Mk) : (mis1 fs x t).length ≤ t.length := by
  unfold mis1
  rw [List.length_map]
  exact List.length_filter_le _ _
theorem misK_len (fs : List Fd) (l : List Mk) : ∀ k, (misK fs l k).length ≤ k * l.length
  | 0 => by simp [misK]
  | k + 1 => by
    have ih := misK_len fs l k
    cases h : l[k]? with
    | none =>
      have : misK fs l (k + 1) = misK fs l k := by unfold misK; rw [List.range_succ, List.flatMap_append]; simp [h]
      rw [this, Nat.succ_mul]
      omega
    | some x =>
      rw [misK_succ h, List.length_append, Nat.succ_mul]
      have := mis1_len fs x (l.drop (k + 1))
      rw [List.length_drop] at this
      omega
theorem mk_sg {m : Mk} (h : m.ok) : m.sg.ok := h.2.2.2
theorem mark_clear {m : Mk} (h : markB m = true) : clearB m.sg = true := by
  unfold markB at h
  simp only [Bool.and_eq_true] at h
  exact h.2
def inE (ms : List Mk) (fs : List Fd) (day : Int) : Int := fstE [smE ms fs, errB (inB day 0 100000)]
theorem fstE_two {a b : Int} (h : fstE [a, b] = 0) : a = 0 ∧ b = 0 := by
  unfold fstE at h
  by_cases ha : a = 0
  · rw [if_pos ha] at h
    unfold fstE at h
    by_cases hb : b = 0
    · exact ⟨ha, hb⟩
    · rw [if_neg hb] at h; exact absurd h hb
  · rw [if_neg ha] at h; exact absurd h ha
theorem info90 : (Tryz.prog.info? 90).map (fun i => (i.zero, i.size, i.bytes)) = some (some (.agg #[.int .i64 0, .int .i64 0]), 2, 16) := by kernel_rfl
def MisP (w : World) (ms : List Mk) (fs : List Fd) (day : Int) (e : Ending) (w' : World) : Prop :=
  ((inE ms fs day ≠ 0 ∧ e = .returned (.tuple #[.slice none 0 0, .int .i64 (inE ms fs day)])) ∨
   (inE ms fs day = 0 ∧ ∃ l v, e = .returned (.tuple #[v, .int .i64 0]) ∧ l.Perm (frcL ms day) ∧ l.Pairwise (fun a b => a.own ≤ b.own) ∧ w'.ownsRow w.heap.size 90 2 v (misL fs l).length ((misL fs l).flatMap prC))) ∧ Kept w w'
set_option maxRecDepth 100000 in
set_option maxHeartbeats 6400000 in
theorem mistaken_any (A B : Option Addr) (n c m d : Nat) (ms : List Mk) (fs : List Fd) (day : Int) (w : World) (hs : SmA w A n c ms B m d fs) :
    Calls Tryz.prog 37 #[.agg #[.slice A n c, .slice B m d], .int .i64 day] w (MisP w ms fs day) := by
  obtain ⟨W0, hW0⟩ : ∃ W0, W0 = w.alloc (.cells #[.slice A n c, .slice B m d] 25) := ⟨_, rfl⟩
  have K0 : RowKit.Hid (Kept w W0) := Lib.hid (by rw [hW0]; exact (Kept.refl _).alloc _)
  have R0 : RowKit.Hid (RowC W0 w.heap.size [.slice A n c, .slice B m d]) := Lib.hid (by rw [hW0]; exact RowC.new w [.slice A n c, .slice B m d] 25)
  have HW := Lib.hid hW0
  have HS := Lib.hid (hs.kept K0.out)
  obtain ⟨E1, hE1⟩ : ∃ E, smE ms fs = E := ⟨_, rfl⟩
  obtain ⟨b2, hb2⟩ : ∃ b, inB day 0 100000 = b := ⟨_, rfl⟩
  obtain ⟨v2, hv2⟩ : ∃ v, errB b2 = v := ⟨_, rfl⟩
  obtain ⟨E, hE⟩ : ∃ E, fstE [E1, v2] = E := ⟨_, rfl⟩
  have HE : RowKit.Hid (inE ms fs day = E) := Lib.hid (by unfold inE; rw [hE1, hb2, hv2, hE])
  have H25 : RowKit.Hid (∀ W, Kept W0 W → Calls Tryz.prog 25 #[.agg #[.slice A n c, .slice B m d]] W fun e w' => e = .returned (.int .i64 E1) ∧ Kept W w') := Lib.hid (fun W hW => by rw [← hE1]; exact checkSmits_any A B n c m d ms fs W (HS.out.kept hW))
  have H75 : RowKit.Hid (∀ W, Calls Tryz.prog 75 #[.int .i64 day] W fun e w' => e = .returned (.bool b2) ∧ W = w') := Lib.hid (fun W => by rw [← hb2]; exact isDay_any _ W)
  have HV2 : RowKit.Hid (∀ W, Calls Tryz.prog 74 #[.bool b2] W fun e w' => e = .returned (.int .i64 v2) ∧ W = w') := Lib.hid (fun W => by rw [← hv2]; exact valid_any b2 W)
  have H73 : RowKit.Hid (∀ W g, RowC W g [.int .i64 E1, .int .i64 v2] → Calls Tryz.prog 73 #[.slice (some ⟨g, 0, none⟩) 2 2] W fun e w' => e = .returned (.int .i64 E) ∧ W = w') := Lib.hid (fun W g hr => by
    rw [← hE]
    exact firstError_any g 0 2 2 [E1, v2] rfl (by omega) W (intsR hr))
  have a0 := (R0.out 0 _ rfl).1
  have a1 := (R0.out 1 _ rfl).1
  have la := cell_lt a0
  clear hW0 hs hE1 hb2 hv2 hE
  go_enter Tryz.func37, Tryz.ntmps37
  go_upto_region 1 with (fail)
  rw [← HW.out]
  go_wp2_with fail
  refine (H25.out _ (Kept.refl _)).mono ?_
  rintro e w1 ⟨rfl, hk1⟩
  have K1 := Lib.hid hk1
  have R1 := Lib.hid (R0.out.kept hk1)
  clear hk1 a0 a1 la
  go_wp2_with fail
  refine (H75.out _).mono ?_
  rintro e w2 ⟨rfl, rfl⟩
  go_wp2_with fail
  refine (HV2.out _).mono ?_
  rintro e w2 ⟨rfl, rfl⟩
  go_wp2_with fail
  refine (H73.out _ _ (RowC.new _ _ _)).mono ?_
  rintro e w3 ⟨rfl, rfl⟩
  obtain ⟨w3, hw3⟩ : ∃ w3, w3 = w1.alloc (.cells #[.int .i64 E1, .int .i64 v2] 27) := ⟨_, rfl⟩
  have K3 := Lib.hid (show Kept W0 w3 by rw [hw3]; exact K1.out.alloc _)
  have R3 := Lib.hid (R0.out.kept K3.out)
  rw [← hw3]
  have HW3 := Lib.hid hw3
  clear hw3
  by_cases h0 : E = 0
  rotate_left
  · have h1 : (E == 0) = false := by simpa using h0
    have H0 := Lib.hid h0
    clear h0
    go_wp2_with fail
    go_ret2
    exact ⟨.inl ⟨by rw [HE.out]; exact H0.out, by rw [HE.out]; rfl⟩, K0.out.trans K3.out⟩
  · subst h0
    obtain ⟨e1, e2⟩ := fstE_two HE.out
    obtain ⟨hm1, hm2, hmv, hfv, _, _⟩ := sm_ok e1
    have HMV := Lib.hid hmv
    have HFV := Lib.hid hfv
    have hn100 : n ≤ 1000 := by rw [← HS.out.1.1]; omega
    have hl100 := hm1
    have HVW := Lib.hid (viewOf2_any A B n c m d ms fs day w3 (HS.out.kept K3.out) hn100 hmv hfv)
    have hi7 : (Tryz.prog.info? 122).map (·.size) = some 31 := by kernel_rfl
    have hi2 : (Tryz.prog.info? 120).map (·.size) = some 30 := by kernel_rfl
    have a0 := (R3.out 0 _ rfl).1
    have a1 := (R3.out 1 _ rfl).1
    have la := cell_lt a0
    clear e1 e2 hm1 hm2 hmv hfv
    go_wp2_with fail
    refine HVW.out.mono ?_
    rintro e w4 ⟨A5, c5, l5, rfl, p1, p2, sl5, fr5, hk4⟩
    have HP1 := Lib.hid p1
    have HP2 := Lib.hid p2
    have SL5 := Lib.hid sl5
    have K4 := Lib.hid (K3.out.trans hk4)
    have hlen : l5.length ≤ 100 := by
      have h1 := p1.length_eq
      have h2 : (frcL ms day).length ≤ ms.length := List.length_filter_le _ _
      omega
    clear hk4 p1 p2 sl5 fr5 a0 a1 la
    go_upto_region 5 with (refine wpList_store_row rfl 122 (.tmp 7) (.tmp 25) rfl w4.heap.size (Value.slice A5 l5.length c5 :: lkL (lkX fs)).toArray rfl rfl 122 zero31.toArray (heap_alloc_new w4 _) (by rw [hi7]; simp [lkL_len]) (by simp [zero31, lkL_len]) (by simp [lkL, Value.oneCell']) ?_)
    obtain ⟨Wv, hWv⟩ : ∃ Wv, Wv = (w4.alloc (.cells zero31.toArray 122)).setRow w4.heap.size (Value.slice A5 l5.length c5 :: lkL (lkX fs)).toArray := ⟨_, rfl⟩
    have hbb : Wv.heap[w4.heap.size]? = some (.cells (Value.slice A5 l5.length c5 :: lkL (lkX fs)).toArray 122 (0, 0)) := by rw [hWv]; exact setRow_heap _ _ _ _ _ _ (heap_alloc_new w4 _)
    have RB := Lib.hid (show RowC Wv w4.heap.size (Value.slice A5 l5.length c5 :: lkL (lkX fs)) from fun j v hv => ⟨by rw [cell_of_row _ _ _ _ _ _ hbb]; simpa using hv, frozen_of_row _ _ _ _ _ hbb⟩)
    have hkv : Kept w4 Wv := by rw [hWv]; exact ((Kept.refl w4).alloc _).setRow (Nat.le_refl _) _
    have HZZ : RowKit.Hid (Wv = (w4.alloc (.cells #[.slice none 0 0, .int .u8 0, .int .u8 0, .int .u8 0, .int .u8 0, .int .u8 0, .int .u8 0, .int .u8 0, .int .u8 0, .int .u8 0, .int .u8 0, .int .u8 0, .int .u8 0, .int .u8 0, .int .u8 0, .int .u8 0, .int .u8 0, .int .u8 0, .int .u8 0, .int .u8 0, .int .u8 0, .int .u8 0, .int .u8 0, .int .u8 0, .int .u8 0, .int .u8 0, .int .u8 0, .int .u8 0, .int .u8 0, .int .u8 0, .int .u8 0] 122)).setRow w4.heap.size (Value.slice A5 l5.length c5 :: lkL (lkX fs)).toArray) := Lib.hid (by rw [hWv]; rfl)
    have KV := Lib.hid hkv
    have SLV := Lib.hid (SL5.out.kept hkv)
    have HKW := Lib.hid (K4.out.trans hkv)
    have r0 := (RB.out 0 _ rfl).1
    have lr := cell_lt r0
    have hnc5 := SL5.out.2.1
    have hcm5 := SL5.out.2.2.1
    obtain ⟨N, hN⟩ : ∃ N, l5.length = N := ⟨_, rfl⟩
    have HN := Lib.hid hN
    rw [hN] at r0 hnc5 hlen HZZ
    rw [← hN] at HZZ
    rw [← HZZ.out]
    rw [hN] at HZZ ⊢
    clear hWv hbb hkv hN
    obtain ⟨i0, hi0, hz0, hz1, hz2⟩ := info_parts info90
    have HQ4 : RowKit.Hid (w4.heap.size < Wv.heap.size) := Lib.hid lr
    go_wp2_with fail
    go_loopw [8, 29] (fun v i wr => ∃ k : Nat, k ≤ N ∧ i = .int .i64 k ∧ wr.ownsRow Wv.heap.size 90 2 v (misK fs l5 k).length ((misK fs l5 k).flatMap prC) ∧ Kept Wv wr) (fun _ i _ => N - (intOf i).toNat)
    case atStart => exact ⟨0, by omega, by first | rfl | go_num, World.ownsRow_nil _ _ _ _, Kept.refl _⟩
    case round =>
      obtain ⟨k, hk, rfl, hown, hkr⟩ := hrel
      obtain ⟨wo, rfl⟩ : ∃ wo, wo = wr := ⟨_, rfl⟩
      have HO := Lib.hid hown
      have HKR := Lib.hid hkr
      clear hown hkr
      by_cases hlt : k < N
      · obtain ⟨x, hx⟩ : ∃ x, l5[k]? = some x := ⟨_, List.getElem?_eq_getElem (by rw [HN.out]; exact hlt)⟩
        have hne : 0 < l5.length := by rw [HN.out]; omega
        obtain ⟨b, off, hA, ht⟩ := SLV.out.2.2.2.2 hne
        subst hA
        have CX : RowKit.Hid (∀ (q : Nat) (z : Mk), l5[q]? = some z → ∀ W, Kept Wv W → ∀ j v, (mkC z)[j]? = some v → W.cell? ⟨b, off + q * 9 + j, none⟩ = some v) := Lib.hid (fun q z hz W hW j v hv => (hW.cells _ _ (cell_lt (ht q z hz j v hv))).trans (ht q z hz j v hv))
        have HX := Lib.hid hx
        have hcc := CX.out k x hx wo HKR.out
        have c0 := hcc 0 _ rfl
        have c1 := hcc 1 _ rfl
        have c2 := hcc 2 _ rfl
        have c3 := hcc 3 _ rfl
        have c4 := hcc 4 _ rfl
        have c5' := hcc 5 _ rfl
        have c6 := hcc 6 _ rfl
        have c7 := hcc 7 _ rfl
        have c8 := hcc 8 _ rfl
        rw [Nat.add_zero] at c0
        have lc := cell_lt c0
        obtain ⟨Wa, hWa⟩ : ∃ Wa, Wa = wo.alloc (.cells (mkC x).toArray 32) := ⟨_, rfl⟩
        have ka : Kept wo Wa := by rw [hWa]; exact (Kept.refl _).alloc _
        have RX := Lib.hid (show RowC Wa wo.heap.size (mkC x) by rw [hWa]; exact RowC.new wo (mkC x) 32)
        have KA := Lib.hid (HKR.out.trans ka)
        have HOA := Lib.hid (own_kept HO.out ka)
        have HWA : RowKit.Hid (wo.alloc (.cells #[.int .i64 x.own, .int .i64 x.frm, .int .i64 x.unt, .int .u8 x.sg.s0, .int .u8 x.sg.s1, .int .u8 x.sg.s2, .int .u8 x.sg.s3, .int .u8 x.sg.s4, .int .u8 x.sg.s5] 32) = Wa) := Lib.hid (by rw [hWa]; rfl)
        have r0a := (RB.out.kept KA.out 0 _ rfl).1
        rw [HN.out] at r0a
        have lra := cell_lt r0a
        have hza : Wa.heap.size = wo.heap.size + 1 := by rw [hWa]; simp
        clear ht hcc hx hWa ka r0 lr
        go_upto_region 9 with (fail)
        rw [HWA.out]
        clear c0 c1 c2 c3 c4 c5' c6 c7 c8 lc
        have hkN : (k : Int) + 1 ≤ (N : Int) := by omega
        have hkc : (k : Int) + 1 ≤ (c5 : Int) := by omega
        by_cases hce : c5 = k + 1
        · obtain rfl : N = k + 1 := by omega
          have hm := misK_succ (fs := fs) HX.out
          have hdr : l5.drop (k + 1) = [] := List.drop_eq_nil_of_le (by rw [HN.out]; exact Nat.le_refl _)
          have HO3 : RowKit.Hid (Wa.ownsRow Wv.heap.size 90 2 u8 (misK fs l5 (k + 1)).length ((misK fs l5 (k + 1)).flatMap prC)) := Lib.hid (by
            have h := HOA.out
            rw [hm, hdr]
            simpa [mis1] using h)
          have hz0 : ((k + 1 - (k + 1) : Nat) : Int) = 0 := by omega
          clear hm hdr
          go_wp2_with fail
          go_loopw [8, 40] (fun v i wr => v = u8 ∧ i = .int .i64 0 ∧ wr = Wa) (fun _ _ _ => 0)
          case atStart => exact ⟨rfl, by first | rfl | go_num, rfl⟩
          case round =>
            obtain ⟨rfl, rfl, rfl⟩ := hrel
            go_wp2_with fail
            go_roundw
            case rel => exact ⟨k + 1, by omega, by go_num, HO3.out, KA.out⟩
            case measure => first | (simp [intOf]; done) | (simp [intOf]; omega)
        go_wp2_with fail
        go_loopw [8, 40] (fun v i wr => ∃ j : Nat, j ≤ N - (k + 1) ∧ i = .int .i64 j ∧ wr.ownsRow Wv.heap.size 90 2 v (misK fs l5 k ++ mis1 fs x ((l5.drop (k + 1)).take j)).length ((misK fs l5 k ++ mis1 fs x ((l5.drop (k + 1)).take j)).flatMap prC) ∧ Kept Wv wr ∧ RowC wr wo.heap.size (mkC x) ∧ (∀ g, v.ownBlock = some g → g ≠ wo.heap.size)) (fun _ i _ => (N - (k + 1)) - (intOf i).toNat)
        case atStart => exact ⟨0, by omega, by first | rfl | go_num, by simpa [mis1] using HOA.out, KA.out, RX.out, fun g hg => by have := own_lt HO.out hg; omega⟩
        case round =>
          obtain ⟨j, hj, rfl, hown, hkr, hrx, hnb⟩ := hrel
          have HO2 := Lib.hid hown
          have HKR2 := Lib.hid hkr
          have RXR := Lib.hid hrx
          have HNB := Lib.hid hnb
          have hzr := cell_lt (hrx 0 _ rfl).1
          clear hown hkr hrx hnb
          by_cases hlt2 : j < N - (k + 1)
          · obtain ⟨y, hy⟩ : ∃ y, l5[k + 1 + j]? = some y := ⟨_, List.getElem?_eq_getElem (by rw [HN.out]; omega)⟩
            have hyd : (l5.drop (k + 1))[j]? = some y := by rw [List.getElem?_drop]; exact hy
            have HY := Lib.hid hy
            have KR := Lib.hid HKR2.out
            have hcc : ∀ j' v, (mkC y)[j']? = some v → wr.cell? ⟨b, off + (k + 1) * 9 + j * 9 + j', none⟩ = some v := fun j' v hv => by
              have h := CX.out (k + 1 + j) y hy wr KR.out j' v hv
              rw [show off + (k + 1 + j) * 9 + j' = off + (k + 1) * 9 + j * 9 + j' by omega] at h
              exact h
            have c0 := hcc 0 _ rfl
            have c1 := hcc 1 _ rfl
            have c2 := hcc 2 _ rfl
            have c3 := hcc 3 _ rfl
            have c4 := hcc 4 _ rfl
            have c5' := hcc 5 _ rfl
            have c6 := hcc 6 _ rfl
            have c7 := hcc 7 _ rfl
            have c8 := hcc 8 _ rfl
            rw [Nat.add_zero] at c0
            have lc := cell_lt c0
            obtain ⟨Wb, hWb⟩ : ∃ Wb, Wb = wr.alloc (.cells (mkC y).toArray 32) := ⟨_, rfl⟩
            have kb : Kept wr Wb := by rw [hWb]; exact (Kept.refl _).alloc _
            have RY := Lib.hid (show RowC Wb wr.heap.size (mkC y) by rw [hWb]; exact RowC.new wr (mkC y) 32)
            have KB := Lib.hid (HKR2.out.trans kb)
            have HOB := Lib.hid (own_kept HO2.out kb)
            have HWB : RowKit.Hid (wr.alloc (.cells #[.int .i64 y.own, .int .i64 y.frm, .int .i64 y.unt, .int .u8 y.sg.s0, .int .u8 y.sg.s1, .int .u8 y.sg.s2, .int .u8 y.sg.s3, .int .u8 y.sg.s4, .int .u8 y.sg.s5] 32) = Wb) := Lib.hid (by rw [hWb]; rfl)
            have RXb := Lib.hid (RXR.out.kept kb)
            have hzb : wr.heap.size + 1 = Wb.heap.size := by rw [hWb]; simp
            have HM := Lib.hid (mis1_snoc (fs := fs) (x := x) hyd)
            have HRG : RowKit.Hid (∀ W, Kept Wb W → W.rangeAt w4.heap.size 1 (lkL (lkX fs))) := Lib.hid (fun W hW j' v hv => by
              have h := (RB.out.kept (KB.out.trans hW) (1 + j') v (by rw [Nat.add_comm]; simpa using hv)).1
              exact h)
            have hmx := HMV.out x (List.mem_filter.1 (HP1.out.mem_iff.1 (List.mem_of_getElem? HX.out))).1
            have hmy := HMV.out y (List.mem_filter.1 (HP1.out.mem_iff.1 (List.mem_of_getElem? hy))).1
            have hxs := SL5.out.2.2.2.1 x (List.mem_of_getElem? HX.out)
            have hys := SL5.out.2.2.2.1 y (List.mem_of_getElem? hy)
            have HAP := Lib.hid (apart_any fs x.sg y.sg (fade4 HFV.out) (mk_sg hxs) (mk_sg hys) (mark_clear hmx) (mark_clear hmy))
            obtain ⟨M, hM⟩ : ∃ M, apK fs x.sg y.sg 6 = M := ⟨_, rfl⟩
            rw [hM] at HAP HM
            have d0 := (RXb.out 0 _ rfl).1
            have d3 := (RXb.out 3 _ rfl).1
            have d4 := (RXb.out 4 _ rfl).1
            have d5 := (RXb.out 5 _ rfl).1
            have d6 := (RXb.out 6 _ rfl).1
            have d7 := (RXb.out 7 _ rfl).1
            have d8 := (RXb.out 8 _ rfl).1
            have g0 := (RY.out 0 _ rfl).1
            have g3 := (RY.out 3 _ rfl).1
            have g4 := (RY.out 4 _ rfl).1
            have g5 := (RY.out 5 _ rfl).1
            have g6 := (RY.out 6 _ rfl).1
            have g7 := (RY.out 7 _ rfl).1
            have g8 := (RY.out 8 _ rfl).1
            have ld := cell_lt d0
            have lg := cell_lt g0
            have HRGb := HRG.out Wb (Kept.refl _)
            have HRGH := Lib.hid HRGb
            clear hcc hy hyd hWb kb hmx hmy hxs hys hM HRGb d0 d3 d4 d5 d6 d7 d8 g0 g3 g4 g5 g6 g7 g8 ld lg
            go_upto_region 12 with (fail)
            rw [HWB.out]
            clear c0 c1 c2 c3 c4 c5' c6 c7 c8 lc
            have d0 := (RXb.out 0 _ rfl).1
            have d3 := (RXb.out 3 _ rfl).1
            have d4 := (RXb.out 4 _ rfl).1
            have d5 := (RXb.out 5 _ rfl).1
            have d6 := (RXb.out 6 _ rfl).1
            have d7 := (RXb.out 7 _ rfl).1
            have d8 := (RXb.out 8 _ rfl).1
            have g0 := (RY.out 0 _ rfl).1
            have g3 := (RY.out 3 _ rfl).1
            have g4 := (RY.out 4 _ rfl).1
            have g5 := (RY.out 5 _ rfl).1
            have g6 := (RY.out 6 _ rfl).1
            have g7 := (RY.out 7 _ rfl).1
            have g8 := (RY.out 8 _ rfl).1
            have ld := cell_lt d0
            have lg := cell_lt g0
            go_wp2_with (first | (refine wpList_load_mid rfl 120 (.tmp 44) rfl w4.heap.size 1 rfl (lkL (lkX fs)) _ HRGH.out Tryz.underlying120 rfl (by rw [hi2]; simp [lkL_len]) ?_) | fail)
            refine (HAP.out _).mono ?_
            rintro e w5 ⟨rfl, hk5⟩
            have RX5 := Lib.hid (RXb.out.kept hk5)
            have RY5 := Lib.hid (RY.out.kept hk5)
            have HO5 := Lib.hid (own_kept HOB.out hk5)
            have K5 := Lib.hid (KB.out.trans hk5)
            have hz5 := hk5.size
            clear d0 d3 d4 d5 d6 d7 d8 g0 g3 g4 g5 g6 g7 g8 ld lg hk5
            have d0 := (RX5.out 0 _ rfl).1
            have g0 := (RY5.out 0 _ rfl).1
            have ld := cell_lt d0
            have lg := cell_lt g0
            by_cases hM0 : M = 0
            · subst hM0
              have HM0 : RowKit.Hid (mis1 fs x ((l5.drop (k + 1)).take (j + 1)) = mis1 fs x ((l5.drop (k + 1)).take j) ++ [⟨x.own, y.own⟩]) := Lib.hid (by rw [HM.out, if_pos (by simp)])
              obtain ⟨L, hL⟩ : ∃ L, misK fs l5 k ++ mis1 fs x ((l5.drop (k + 1)).take j) = L := ⟨_, rfl⟩
              have hLl : L.length ≤ 20000 := by
                rw [← hL, List.length_append]
                have h1 := misK_len fs l5 k
                have h2 := mis1_len fs x ((l5.drop (k + 1)).take j)
                have h3 : ((l5.drop (k + 1)).take j).length ≤ l5.length := Nat.le_trans (List.length_take_le' _ _) (by rw [List.length_drop]; omega)
                have h4 : k * l5.length ≤ 100 * 100 := Nat.mul_le_mul (by omega) (by rw [HN.out]; omega)
                rw [HN.out] at h3 h1
                rw [HN.out] at h4
                omega
              have HLN : RowKit.Hid (misK fs l5 k ++ mis1 fs x ((l5.drop (k + 1)).take (j + 1)) = L ++ [⟨x.own, y.own⟩]) := Lib.hid (by rw [HM0.out, ← List.append_assoc, hL])
              have HO6 := Lib.hid (show w5.ownsRow Wv.heap.size 90 2 u8 L.length (L.flatMap prC) by rw [← hL]; exact HO5.out)
              have HN1 := Lib.hid (news_of (W := w5) (cs := [.int .i64 x.own, .int .i64 y.own]) (t := 90) (m := w5.heap.size) rfl)
              have HV1 : RowKit.Hid (∀ z ∈ ([.int .i64 x.own, .int .i64 y.own] : List Value), z.oneCell' = true) := Lib.hid (fun z hz => by simp at hz; rcases hz with h | h <;> subst h <;> rfl)
              have HA3 : RowKit.Hid (L.length + 1 ≤ maxLen) := Lib.hid (by unfold maxLen; omega)
              have HA4 : RowKit.Hid ((L.length + 1) * 16 ≤ 140737488355328) := Lib.hid (by omega)
              have HB1 : RowKit.Hid (Wv.heap.size ≤ (w5.alloc (.cells #[.int .i64 x.own, .int .i64 y.own] 90)).heap.size) := Lib.hid (by have := K5.out.size; simp; omega)
              generalize hLg : L.length = Ln at HO6 HA3 HA4
              have HLG := Lib.hid hLg
              clear hL hLl hLg
              go_wp2_with (first
                | (at_builtin; refine wpList_append_lies _ rfl (.tmp 52) (.tmp 58) 52 rfl Wv.heap.size 90 i0 _ 2 16 Tryz.underlying52 hi0 hz0 hz1 hz2 rfl (by decide) _ Ln _ rfl (own_kept HO6.out ((Kept.refl _).alloc _)) ⟨w5.heap.size, 0, none⟩ 1 1 [.int .i64 x.own, .int .i64 y.own] rfl rfl HN1.out HV1.out (by decide) HA3.out HA4.out HB1.out _ rfl ?_; intro g' cap w6 hown6 hgrow6 hat6 hlt6
                   have HO7 := Lib.hid hown6
                   have HK7 := Lib.hid ((K5.out.alloc _).grown hgrow6 (fun r hr => (HO6.out.lt r hr).1))
                   have RX7 := Lib.hid (show RowC w6 wo.heap.size (mkC x) from fun j' v' hv' => by
                     have e : w6.heap[wo.heap.size]? = (w5.alloc (.cells #[.int .i64 x.own, .int .i64 y.own] 90)).heap[wo.heap.size]? := hgrow6.block _ (by simp; omega) (fun e => HNB.out _ e.symm rfl)
                     have h := ((RX5.out.kept ((Kept.refl w5).alloc (.cells #[.int .i64 x.own, .int .i64 y.own] 90))) j' v' hv')
                     exact ⟨(cell_heap e).trans h.1, (frozen_heap e).trans h.2⟩)
                   have NB7 : RowKit.Hid (g' ≠ wo.heap.size) := Lib.hid (by
                     rcases hat6 with h | h
                     · exact HNB.out _ h
                     · rw [h]; simp; omega)
                   clear hown6 hgrow6 hat6 hlt6)
                | fail)
              go_roundw
              case rel =>
                refine ⟨j + 1, by omega, by go_num, ?_, HK7.out, RX7.out, fun g hg => by simp [Value.ownBlock] at hg; rw [← hg]; exact NB7.out⟩
                rw [HLN.out, List.length_append, List.flatMap_append, HLG.out]
                simpa [prC] using HO7.out
              case measure => simp [intOf]; omega
            · have hM2 : ((M : Int) == 0) = false := by simp; omega
              have HM0 : RowKit.Hid (mis1 fs x ((l5.drop (k + 1)).take (j + 1)) = mis1 fs x ((l5.drop (k + 1)).take j)) := Lib.hid (by rw [HM.out, if_neg (by simp; omega)])
              go_wp2_with fail
              go_roundw
              case rel => exact ⟨j + 1, by omega, by go_num, by rw [HM0.out]; exact HO5.out, K5.out, RX5.out, HNB.out⟩
              case measure => simp [intOf]; omega
          · obtain rfl : j = N - (k + 1) := by omega
            have hm := misK_succ (fs := fs) HX.out
            have ht2 : (l5.drop (k + 1)).take (N - (k + 1)) = l5.drop (k + 1) := List.take_of_length_le (by rw [List.length_drop, HN.out]; exact Nat.le_refl _)
            have HO3 : RowKit.Hid (wr.ownsRow Wv.heap.size 90 2 u8 (misK fs l5 (k + 1)).length ((misK fs l5 (k + 1)).flatMap prC)) := Lib.hid (by
              have h := HO2.out
              rw [ht2, ← hm] at h
              exact h)
            have KR := Lib.hid HKR2.out
            clear hm ht2
            go_wp2_with fail
            go_roundw
            case rel => exact ⟨k + 1, by omega, by go_num, HO3.out, KR.out⟩
            case measure => simp [intOf]; omega
      · obtain rfl : k = N := by omega
        clear r0 lr
        go_wp2
        go_ret2
        refine ⟨.inr ⟨HE.out, l5, _, rfl, HP1.out, HP2.out, ?_⟩, K0.out.trans (HKW.out.trans HKR.out)⟩
        have h := HO.out
        rw [← HN.out] at h
        exact own_le h (by have := K0.out.size; have := HKW.out.size; omega)
end Go.Proofs.YtologmoanaccpaaGreatDoor
