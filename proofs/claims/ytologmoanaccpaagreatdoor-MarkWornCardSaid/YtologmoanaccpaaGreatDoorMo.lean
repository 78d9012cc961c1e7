/-
  mark: inForce
-/
import Derived.Test.YtologmoanaccpaaGreatDoorMn
import Derived.Shelf.SlSortCmp.NoneTotal
namespace Go.Proofs.YtologmoanaccpaaGreatDoor
set_option linter.all false
open Go Go.RowKit Go.Shelf Go.Proofs

/-- the marks in force -/
def frcL (ms : List Mk) (day : Int) : List Mk := ms.filter fun m => inB day m.frm m.unt
theorem frcL_snoc (ms : List Mk) (m : Mk) (day : Int) : frcL (ms ++ [m]) day = if inB day m.frm m.unt = true then frcL ms day ++ [m] else frcL ms day := by
  unfold frcL
  rw [List.filter_append]
  cases h : inB day m.frm m.unt
  · simp [h]
  · simp [h]
def FrcP (w : World) (ms : List Mk) (day : Int) (e : Ending) (w' : World) : Prop :=
  ∃ A c l, e = .returned (.slice A l.length c) ∧ l.Perm (frcL ms day) ∧ l.Pairwise (fun a b => a.own ≤ b.own) ∧ SlA mkC 9 Mk.ok w' A l.length c l ∧ (∀ b o s, A = some ⟨b, o, s⟩ → w.heap.size ≤ b) ∧ Kept w w'
theorem sortNone (p : Option Addr) (cap : Nat) (fv : Value) (w : World) : Calls Tryz.prog 148 #[.slice p 0 cap, fv] w fun e w' => e = .returned (.tuple #[]) ∧ w' = w := AnyF.slices_SortFunc_none Tryz.sortMk p cap fv w
set_option maxRecDepth 100000 in
set_option maxHeartbeats 3200000 in
theorem inForce_any (A B : Option Addr) (n c m d : Nat) (ms : List Mk) (fs : List Fd) (day : Int) (w : World) (hs : SmA w A n c ms B m d fs) (hn : n ≤ 1000) (hv : ∀ m ∈ ms, markB m = true) :
    Calls Tryz.prog 76 #[.agg #[.slice A n c, .slice B m d], .int .i64 day] w (FrcP w ms day) := by
  obtain ⟨i0, hi0, hz0, hz1, hz2⟩ := info_parts info32
  obtain ⟨W0, hW0⟩ : ∃ W0, W0 = w.alloc (.cells #[.slice A n c, .slice B m d] 25) := ⟨_, rfl⟩
  have K0 : RowKit.Hid (Kept w W0) := Lib.hid (by rw [hW0]; exact (Kept.refl _).alloc _)
  have R0 : RowKit.Hid (RowC W0 w.heap.size [.slice A n c, .slice B m d]) := Lib.hid (by rw [hW0]; exact RowC.new w [.slice A n c, .slice B m d] 25)
  have HW := Lib.hid hW0
  have HS := Lib.hid (hs.1.kept K0.out)
  have HV := Lib.hid hv
  have hnc := hs.1.2.1
  have hcm := hs.1.2.2.1
  have a0 := (R0.out 0 _ rfl).1
  have a1 := (R0.out 1 _ rfl).1
  have la := cell_lt a0
  clear hW0 hs hv
  go_enter Tryz.func76, Tryz.ntmps76
  go_upto_region 1 with (fail)
  rw [← HW.out]
  go_wp2_with fail
  go_loopw [5, 11] (fun v i wr => ∃ k : Nat, k ≤ n ∧ i = .int .i64 k ∧ wr.ownsRow W0.heap.size 32 9 v (frcL (ms.take k) day).length ((frcL (ms.take k) day).flatMap mkC) ∧ Kept W0 wr) (fun _ i _ => n - (intOf i).toNat)
  case atStart => exact ⟨0, by omega, by first | rfl | go_num, ⟨by simp [frcL], .inl ⟨rfl, by simp [frcL]⟩⟩, Kept.refl _⟩
  case round =>
    obtain ⟨k, hk, rfl, ho, hkr⟩ := hrel
    have HO := Lib.hid ho
    have HKR := Lib.hid hkr
    clear ho hkr a0 a1 la
    by_cases hlt : k < n
    · obtain ⟨x, hx⟩ : ∃ x, ms[k]? = some x := ⟨_, List.getElem?_eq_getElem (by rw [HS.out.1]; exact hlt)⟩
      obtain ⟨b, off, hA, ht⟩ := HS.out.2.2.2.2 (by omega)
      subst hA
      have hcc := fun j v hv => (HKR.out.cells _ _ (cell_lt (ht k x hx j v hv))).trans (ht k x hx j v hv)
      have c0 := hcc 0 _ rfl
      have c1 := hcc 1 _ rfl
      have c2 := hcc 2 _ rfl
      have c3 := hcc 3 _ rfl
      have c4 := hcc 4 _ rfl
      have c5 := hcc 5 _ rfl
      have c6 := hcc 6 _ rfl
      have c7 := hcc 7 _ rfl
      have c8 := hcc 8 _ rfl
      simp only [Nat.add_zero] at c0
      have Hx := Lib.hid hx
      obtain ⟨q, hq⟩ : ∃ q, inB day x.frm x.unt = q := ⟨_, rfl⟩
      have HQ := Lib.hid hq
      have HC : RowKit.Hid (∀ W, Calls Tryz.prog 147 #[.int .i64 day, .int .i64 x.frm, .int .i64 x.unt] W fun e w' => e = .returned (.bool q) ∧ W = w') := Lib.hid (fun W => by rw [← hq]; exact within_any _ _ _ W)
      have HT : RowKit.Hid (frcL (ms.take (k + 1)) day = if q = true then frcL (ms.take k) day ++ [x] else frcL (ms.take k) day) := Lib.hid (by rw [take_snoc' hx, frcL_snoc, hq])
      have hlen : (frcL (ms.take k) day).length ≤ 1000 := Nat.le_trans (List.length_filter_le _ _) (by rw [List.length_take]; omega)
      obtain ⟨N, hN⟩ : ∃ N, (frcL (ms.take k) day).length = N := ⟨_, rfl⟩
      rw [hN] at hlen
      have HN := Lib.hid hN
      clear hx ht hcc hq hN
      go_wp2_with fail
      refine (HC.out _).mono ?_
      rintro e w1 ⟨rfl, rfl⟩
      cases q
      · go_wp2
        go_roundw
        case rel => exact ⟨k + 1, by omega, by go_num, by rw [HT.out]; exact own_kept HO.out ((Kept.refl _).alloc _), HKR.out.alloc _⟩
        case measure => simp [intOf]; omega
      · obtain ⟨Wa, hWa⟩ : ∃ Wa, Wa = wr.alloc (.cells #[.int .i64 x.own, .int .i64 x.frm, .int .i64 x.unt, .int .u8 x.sg.s0, .int .u8 x.sg.s1, .int .u8 x.sg.s2, .int .u8 x.sg.s3, .int .u8 x.sg.s4, .int .u8 x.sg.s5] 32) := ⟨_, rfl⟩
        have ka : Kept wr Wa := by rw [hWa]; exact (Kept.refl _).alloc _
        have ra : RowC Wa wr.heap.size (mkC x) := by rw [hWa]; exact RowC.new wr (mkC x) 32
        have d0 := (ra 0 _ rfl).1
        have d1 := (ra 1 _ rfl).1
        have d2 := (ra 2 _ rfl).1
        have d3 := (ra 3 _ rfl).1
        have d4 := (ra 4 _ rfl).1
        have d5 := (ra 5 _ rfl).1
        have d6 := (ra 6 _ rfl).1
        have d7 := (ra 7 _ rfl).1
        have d8 := (ra 8 _ rfl).1
        have ld := cell_lt d0
        rw [← hWa]
        have HKA := Lib.hid (HKR.out.trans ka)
        have ho := own_kept HO.out ka
        rw [HN.out] at ho
        have HOA := Lib.hid ho
        have HNW := Lib.hid (news_of (W := Wa) (cs := mkC x) (t := 32) (m := Wa.heap.size) rfl)
        have HA3 : RowKit.Hid (N + 1 ≤ maxLen) := Lib.hid (by unfold maxLen; omega)
        have HA4 : RowKit.Hid ((N + 1) * 32 ≤ 140737488355328) := Lib.hid (by omega)
        have HB1 : RowKit.Hid (W0.heap.size ≤ (Wa.alloc (.cells #[.int .i64 x.own, .int .i64 x.frm, .int .i64 x.unt, .int .u8 x.sg.s0, .int .u8 x.sg.s1, .int .u8 x.sg.s2, .int .u8 x.sg.s3, .int .u8 x.sg.s4, .int .u8 x.sg.s5] 32)).heap.size) := Lib.hid (by have := HKA.out.size; simp; omega)
        clear hWa ka ra ho
        go_wp2_with (at_builtin; refine wpList_append_lies _ rfl (.tmp 21) (.tmp 23) 22 rfl W0.heap.size 32 i0 _ 9 32 Tryz.underlying22 hi0 hz0 hz1 hz2 rfl (by decide) _ N _ rfl (own_kept HOA.out ((Kept.refl _).alloc _)) ⟨Wa.heap.size, 0, none⟩ 1 1 (mkC x) rfl rfl HNW.out (mk_one x) (by decide) HA3.out HA4.out HB1.out _ rfl ?_; intro g cap w6 hown6 hgrow6 hat6 hlt6)
        have HO6 := Lib.hid hown6
        have HK6 := Lib.hid ((HKA.out.alloc _).grown hgrow6 (fun r hr => (HOA.out.lt r hr).1))
        clear hown6 hgrow6 hat6 hlt6
        go_roundw
        case rel => exact ⟨k + 1, by omega, by go_num, by rw [HT.out, if_pos trivial, List.length_append, HN.out, flat_snoc]; exact HO6.out, HK6.out⟩
        case measure => simp [intOf]; omega
    · obtain rfl : k = n := by omega
      have hT : ms.take k = ms := List.take_of_length_le (by rw [HS.out.1]; exact Nat.le_refl _)
      have ho := HO.out
      rw [hT] at ho
      have hok : ∀ m ∈ frcL ms day, m.ok := fun m hm => HS.out.2.2.2.1 m (List.mem_filter.1 hm).1
      have hbd : ∀ m ∈ frcL ms day, 0 ≤ m.own ∧ m.own ≤ 1000 := fun m hm => by
        have := HV.out m (List.mem_filter.1 hm).1
        unfold markB at this
        simp [inB] at this
        omega
      obtain ⟨l, hl⟩ : ∃ l, frcL ms day = l := ⟨_, rfl⟩
      rw [hl] at ho hok hbd
      have HL := Lib.hid hl
      have HOK := Lib.hid hok
      have HBD := Lib.hid hbd
      have hlen : l.length ≤ 1000 := by rw [← hl]; exact Nat.le_trans (List.length_filter_le _ _) (by rw [HS.out.1]; omega)
      rcases ho.2 with ⟨rfl, h0⟩ | ⟨g, cap, cur, rfl, hb, hh, h1, h2, _⟩
      · have e0 : l = [] := List.length_eq_zero_iff.1 h0
        have HE := Lib.hid e0
        have HSN := Lib.hid (sortNone none 0 (.func (.func 149) #[] #[]) wr)
        clear e0 h0 ho hok hbd hl hT
        go_wp2_with fail
        refine HSN.out.mono ?_
        rintro e w1 ⟨rfl, rfl⟩
        go_wp2
        go_ret
        refine ⟨none, 0, [], rfl, by rw [HL.out, HE.out], List.Pairwise.nil, ⟨rfl, by simp, by omega, (fun m hm => by cases hm), fun h => absurd h (by simp)⟩, (fun b o s e => by cases e), K0.out.trans HKR.out⟩
      · have hg : g < wr.heap.size := (Array.getElem?_eq_some_iff.1 hh).1
        have hrow := own_rowC ho
        obtain ⟨N, hN⟩ : ∃ N, l.length = N := ⟨_, rfl⟩
        have HSM := Lib.hid (sortMk_any g N cap l wr hN (by omega) hg hrow hbd)
        rw [hN] at h1 hlen ⊢
        unfold maxLen at h2
        have HN := Lib.hid hN
        clear ho hok hbd hl hT hrow hh hN
        go_wp2_with fail
        refine HSM.out.mono ?_
        rintro e w1 ⟨rfl, l', p1, p2, r1, k1⟩
        have HK := Lib.hid (k1 W0 HKR.out hb)
        have HP1 := Lib.hid p1
        have HP2 := Lib.hid p2
        have HR1 := Lib.hid r1
        clear p1 p2 r1 k1
        go_wp2
        go_ret
        have hl' : l'.length = N := by rw [HP1.out.length_eq, HN.out]
        refine ⟨some ⟨g, 0, none⟩, cap, l', by rw [hl']; rfl, by rw [HL.out]; exact HP1.out, HP2.out, ⟨rfl, by omega, h2, fun m hm => HOK.out m (HP1.out.mem_iff.1 hm), fun _ => ⟨g, 0, rfl, fun i x hx j v hv => ?_⟩⟩, (fun b o s e => by have := K0.out.size; injection e with e; injection e with e1; omega), K0.out.trans HK.out⟩
        rw [Nat.zero_add]
        exact (HR1.out _ _ (flat_at mkC_len _ _ _ _ _ hx hv)).1
end Go.Proofs.YtologmoanaccpaaGreatDoor
