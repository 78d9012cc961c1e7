/-
  mark: checkFound, Range
-/
import Derived.Test.YtologmoanaccpaaGreatDoorMr
namespace Go.Proofs.YtologmoanaccpaaGreatDoor
set_option linter.all false
open Go Go.RowKit Go.Shelf Go.Proofs

def fnE (l : List Sg) : Int := if 60 < l.length then 2 else errB (l.all sightB)
theorem checkFound_any (A : Option Addr) (n c : Nat) (l : List Sg) (w : World) (hs : SlA sgV 6 Sg.ok w A n c l) :
    Calls Tryz.prog 107 #[.slice A n c] w fun e w' => e = .returned (.int .i64 (fnE l)) ∧ Kept w w' := by
  have hl := Lib.hid hs.1
  have hnc := hs.2.1
  have hcm := hs.2.2.1
  obtain ⟨b, hb⟩ : ∃ b, l.all sightB = b := ⟨_, rfl⟩
  have HB : RowKit.Hid (fnE l = if 60 < n then 2 else errB b) := Lib.hid (by unfold fnE; rw [hl.out, hb])
  have H1 : RowKit.Hid (∀ W, Kept w W → Calls Tryz.prog 168 #[.slice A n c, .func (.func 89) #[] #[]] W fun e w' => e = .returned (.bool b) ∧ Kept W w') := Lib.hid (fun W hW => by rw [← hb]; exact every_sg 89 #[] sightB e89 A n c l W (hs.kept hW) (pred89 W))
  clear hb hs
  by_cases h1 : 60 < n
  · have g1 : (60 : Int) < (n : Int) := by omega
    have HN := Lib.hid h1
    clear h1
    go_enter Tryz.func107, Tryz.ntmps107
    go_wp2
    go_ret
    exact ⟨ret_int (by rw [HB.out, if_pos HN.out]), Kept.refl _⟩
  · have g1 : ¬ (60 : Int) < (n : Int) := by omega
    have HN := Lib.hid h1
    clear h1
    go_enter Tryz.func107, Tryz.ntmps107
    go_wp2_with fail
    refine (H1.out _ (Kept.refl _)).mono ?_
    rintro e w1 ⟨rfl, hk1⟩
    have K1 := Lib.hid hk1
    clear hk1
    go_wp2_with fail
    refine (valid_any b _).mono ?_
    rintro e w2 ⟨rfl, rfl⟩
    go_wp2
    go_ret
    exact ⟨ret_int (by rw [HB.out, if_neg HN.out]), K1.out⟩
theorem testBit_ext {a b : Nat} (h : ∀ i, a.testBit i = b.testBit i) : a = b := Nat.eq_of_testBit_eq h
theorem ownN_perm (fs : List Fd) (s : Sg) {l l' : List Mk} (h : l.Perm l') : ownN fs s l = ownN fs s l' := by
  apply testBit_ext
  intro i
  unfold ownN
  rw [ownN_bit, ownN_bit]
  congr 1
  rw [Bool.eq_iff_iff, List.any_eq_true, List.any_eq_true]
  exact ⟨fun ⟨x, hx, hp⟩ => ⟨x, h.mem_iff.1 hx, hp⟩, fun ⟨x, hx, hp⟩ => ⟨x, h.mem_iff.2 hx, hp⟩⟩
/-- the owners whom a sight fits on a day -/
def ownD (ms : List Mk) (fs : List Fd) (day : Int) (s : Sg) : Nat := ownN fs s (frcL ms day)
def sureB (ms : List Mk) (fs : List Fd) (day : Int) (o : Nat) (s : Sg) : Bool := ((ownD ms fs day s : Nat) : Int) == (2 : Int) ^ o
def perB (ms : List Mk) (fs : List Fd) (day : Int) (o : Nat) (s : Sg) : Bool := !sureB ms fs day o s && (ownD ms fs day s).testBit o
def cntN (p : Sg → Bool) (l : List Sg) : Nat := (l.filter p).length
theorem cntN_snoc (p : Sg → Bool) (l : List Sg) (s : Sg) : cntN p (l ++ [s]) = if p s = true then cntN p l + 1 else cntN p l := by
  unfold cntN
  rw [List.filter_append, List.length_append]
  cases h : p s
  · simp [h]
  · simp [h]
theorem cntN_le (p : Sg → Bool) (l : List Sg) : cntN p l ≤ l.length := List.length_filter_le _ _
/-- the first error of Range -/
def rgE (ms : List Mk) (fs : List Fd) (day : Int) (found : List Sg) (owner : Int) : Int := fstE [smE ms fs, errB (inB day 0 100000), errB (inB owner 1 40), fnE found]
def RgP (w : World) (ms : List Mk) (fs : List Fd) (day : Int) (found : List Sg) (owner : Int) (e : Ending) (w' : World) : Prop :=
  ((rgE ms fs day found owner ≠ 0 ∧ e = .returned (.tuple #[.int .i64 0, .int .i64 0, .int .i64 (rgE ms fs day found owner)])) ∨
   (rgE ms fs day found owner = 0 ∧ e = .returned (.tuple #[.int .i64 ((cntN (sureB ms fs day owner.toNat) found : Nat) : Int), .int .i64 ((cntN (perB ms fs day owner.toNat) found : Nat) : Int), .int .i64 0]))) ∧ Kept w w'
theorem sm_ok {ms : List Mk} {fs : List Fd} (h : smE ms fs = 0) : ms.length ≤ 100 ∧ fs.length ≤ 20 ∧ (∀ m ∈ ms, markB m = true) ∧ (∀ f ∈ fs, fadeB f = true) ∧ fs.Nodup ∧ clashB ms = false := by
  unfold smE at h
  split at h
  · omega
  · rename_i h1
    split at h
    · rename_i h2
      split at h
      · omega
      · rename_i h3
        simp only [Bool.and_eq_true, List.all_eq_true] at h2
        simp only [Bool.or_eq_true, not_or, Bool.not_eq_true] at h3
        refine ⟨by omega, by omega, h2.1, h2.2, ?_, h3.2⟩
        have := h3.1
        unfold repB at this
        simpa using this
    · omega
theorem fstE_four {a b c d : Int} (h : fstE [a, b, c, d] = 0) : a = 0 ∧ b = 0 ∧ c = 0 ∧ d = 0 := by
  unfold fstE at h
  by_cases ha : a = 0
  · rw [if_pos ha] at h
    unfold fstE at h
    by_cases hb : b = 0
    · rw [if_pos hb] at h
      unfold fstE at h
      by_cases hc : c = 0
      · rw [if_pos hc] at h
        unfold fstE at h
        by_cases hd : d = 0
        · exact ⟨ha, hb, hc, hd⟩
        · rw [if_neg hd] at h; exact absurd h hd
      · rw [if_neg hc] at h; exact absurd h hc
    · rw [if_neg hb] at h; exact absurd h hb
  · rw [if_neg ha] at h; exact absurd h ha
theorem errB_ok {b : Bool} (h : errB b = 0) : b = true := by cases b <;> simp_all [errB]
theorem fn_ok {l : List Sg} (h : fnE l = 0) : l.length ≤ 60 ∧ ∀ s ∈ l, sightB s = true := by
  unfold fnE at h
  split at h
  · omega
  · exact ⟨by omega, fun s hs => List.all_eq_true.1 (errB_ok h) s hs⟩
theorem fade4 {fs : List Fd} (h : ∀ f ∈ fs, fadeB f = true) : ∀ f ∈ fs, f.seen ≤ 4 := fun f hf => by
  have := h f hf
  unfold fadeB at this
  simp at this
  exact this.1.2
theorem intsR {W : World} {b : Nat} {l : List Int} (h : RowC W b (l.map (Value.int .i64))) : ∀ j x, l[j]? = some x → W.cell? ⟨b, 0 + j, none⟩ = some (.int .i64 x) := fun j x hj => by
  rw [Nat.zero_add]
  exact (h j _ (by rw [List.getElem?_map, hj]; rfl)).1
set_option maxRecDepth 100000 in
set_option maxHeartbeats 6400000 in
theorem range_any (A B C : Option Addr) (n c m d p q : Nat) (ms : List Mk) (fs : List Fd) (day owner : Int) (found : List Sg) (w : World) (hs : SmA w A n c ms B m d fs) (hfo : SlA sgV 6 Sg.ok w C p q found) :
    Calls Tryz.prog 44 #[.agg #[.slice A n c, .slice B m d], .int .i64 day, .slice C p q, .int .i64 owner] w (RgP w ms fs day found owner) := by
  obtain ⟨W0, hW0⟩ : ∃ W0, W0 = w.alloc (.cells #[.slice A n c, .slice B m d] 25) := ⟨_, rfl⟩
  have K0 : RowKit.Hid (Kept w W0) := Lib.hid (by rw [hW0]; exact (Kept.refl _).alloc _)
  have R0 : RowKit.Hid (RowC W0 w.heap.size [.slice A n c, .slice B m d]) := Lib.hid (by rw [hW0]; exact RowC.new w [.slice A n c, .slice B m d] 25)
  have HW := Lib.hid hW0
  have HS := Lib.hid (hs.kept K0.out)
  have HFO := Lib.hid (hfo.kept K0.out)
  have hpq := hfo.2.1
  have hqm := hfo.2.2.1
  obtain ⟨E1, hE1⟩ : ∃ E, smE ms fs = E := ⟨_, rfl⟩
  obtain ⟨b2, hb2⟩ : ∃ b, inB day 0 100000 = b := ⟨_, rfl⟩
  obtain ⟨b3, hb3⟩ : ∃ b, inB owner 1 40 = b := ⟨_, rfl⟩
  obtain ⟨E4, hE4⟩ : ∃ E, fnE found = E := ⟨_, rfl⟩
  obtain ⟨E, hE⟩ : ∃ E, fstE [E1, errB b2, errB b3, E4] = E := ⟨_, rfl⟩
  have HE : RowKit.Hid (rgE ms fs day found owner = E) := Lib.hid (by unfold rgE; rw [hE1, hb2, hb3, hE4, hE])
  have H25 : RowKit.Hid (∀ W, Kept W0 W → Calls Tryz.prog 25 #[.agg #[.slice A n c, .slice B m d]] W fun e w' => e = .returned (.int .i64 E1) ∧ Kept W w') := Lib.hid (fun W hW => by rw [← hE1]; exact checkSmits_any A B n c m d ms fs W (HS.out.kept hW))
  have H75 : RowKit.Hid (∀ W, Calls Tryz.prog 75 #[.int .i64 day] W fun e w' => e = .returned (.bool b2) ∧ W = w') := Lib.hid (fun W => by rw [← hb2]; exact isDay_any _ W)
  have H79 : RowKit.Hid (∀ W, Calls Tryz.prog 79 #[.int .i64 owner] W fun e w' => e = .returned (.bool b3) ∧ W = w') := Lib.hid (fun W => by rw [← hb3]; exact isOwner_any _ W)
  have H107 : RowKit.Hid (∀ W, Kept W0 W → Calls Tryz.prog 107 #[.slice C p q] W fun e w' => e = .returned (.int .i64 E4) ∧ Kept W w') := Lib.hid (fun W hW => by rw [← hE4]; exact checkFound_any C p q found W (HFO.out.kept hW))
  have H73 : RowKit.Hid (∀ W g, RowC W g [.int .i64 E1, .int .i64 (errB b2), .int .i64 (errB b3), .int .i64 E4] → Calls Tryz.prog 73 #[.slice (some ⟨g, 0, none⟩) 4 4] W fun e w' => e = .returned (.int .i64 E) ∧ W = w') := Lib.hid (fun W g hr => by
    rw [← hE]
    exact firstError_any g 0 4 4 [E1, errB b2, errB b3, E4] rfl (by omega) W (intsR hr))
  have HE1 := Lib.hid hE1
  have HB2 := Lib.hid hb2
  have HB3 := Lib.hid hb3
  have HE4 := Lib.hid hE4
  have HEE := Lib.hid hE
  obtain ⟨v2, hv2⟩ : ∃ v, errB b2 = v := ⟨_, rfl⟩
  obtain ⟨v3, hv3⟩ : ∃ v, errB b3 = v := ⟨_, rfl⟩
  have HV2 : RowKit.Hid (∀ W, Calls Tryz.prog 74 #[.bool b2] W fun e w' => e = .returned (.int .i64 v2) ∧ W = w') := Lib.hid (fun W => by rw [← hv2]; exact valid_any b2 W)
  have HV3 : RowKit.Hid (∀ W, Calls Tryz.prog 74 #[.bool b3] W fun e w' => e = .returned (.int .i64 v3) ∧ W = w') := Lib.hid (fun W => by rw [← hv3]; exact valid_any b3 W)
  rw [hv2, hv3] at H73
  have a0 := (R0.out 0 _ rfl).1
  have a1 := (R0.out 1 _ rfl).1
  have la := cell_lt a0
  clear hW0 hs hfo hE1 hb2 hb3 hE4 hE hv2 hv3
  go_enter Tryz.func44, Tryz.ntmps44
  go_upto_region 1 with (fail)
  rw [← HW.out]
  go_wp2_with fail
  refine (H25.out _ (Kept.refl _)).mono ?_
  rintro e w1 ⟨rfl, hk1⟩
  have K1 := Lib.hid hk1
  clear hk1 a0 a1 la
  go_wp2_with fail
  refine (H75.out _).mono ?_
  rintro e w2 ⟨rfl, rfl⟩
  go_wp2_with fail
  refine (HV2.out _).mono ?_
  rintro e w2 ⟨rfl, rfl⟩
  go_wp2_with fail
  refine (H79.out _).mono ?_
  rintro e w2 ⟨rfl, rfl⟩
  go_wp2_with fail
  refine (HV3.out _).mono ?_
  rintro e w2 ⟨rfl, rfl⟩
  go_wp2_with fail
  refine (H107.out _ K1.out).mono ?_
  rintro e w2 ⟨rfl, hk2⟩
  have K2 := Lib.hid (K1.out.trans hk2)
  clear hk2
  go_wp2_with fail
  refine (H73.out _ _ (RowC.new _ _ _)).mono ?_
  rintro e w3 ⟨rfl, rfl⟩
  obtain ⟨w3, hw3⟩ : ∃ w3, w3 = w2.alloc (.cells #[.int .i64 E1, .int .i64 v2, .int .i64 v3, .int .i64 E4] 27) := ⟨_, rfl⟩
  have K3 := Lib.hid (show Kept W0 w3 by rw [hw3]; exact K2.out.alloc _)
  rw [← hw3]
  clear hw3
  by_cases hz : E = 0
  · subst hz
    obtain ⟨e1, e2, e3, e4⟩ := fstE_four HEE.out
    obtain ⟨hm1, hm2, hmv, hfv, _, _⟩ := sm_ok (HE1.out.trans e1)
    obtain ⟨hf60, hfs⟩ := fn_ok (HE4.out.trans e4)
    have ho := HB3.out.trans (errB_ok e3)
    have ho' := inB_iff.1 ho
    obtain ⟨on, hon⟩ : ∃ on : Nat, owner = (on : Int) := ⟨owner.toNat, by omega⟩
    subst hon
    have hon1 : 1 ≤ on := by omega
    have hon40 : on ≤ 40 := by omega
    have HMV := Lib.hid hmv
    have HFV := Lib.hid hfv
    have HFS := Lib.hid hfs
    have hn100 : n ≤ 100 := by rw [← HS.out.1.1]; exact hm1
    have hp60 : p ≤ 60 := by rw [← HFO.out.1]; exact hf60
    have H90 : RowKit.Hid (∀ W, Kept W0 W → Calls Tryz.prog 90 #[.agg #[.slice A n c, .slice B m d], .int .i64 day] W (VwP W ms fs day)) := Lib.hid (fun W hW => viewOf_any A B n c m d ms fs day W (HS.out.kept hW) (by omega) HMV.out HFV.out)
    have a0 := (R0.out.kept K3.out 0 _ rfl).1
    have a1 := (R0.out.kept K3.out 1 _ rfl).1
    have la := cell_lt a0
    have hi : (Tryz.prog.info? 122).map (·.size) = some 31 := by kernel_rfl
    clear e1 e2 e3 e4 hm1 hm2 hmv hfv hf60 hfs ho ho'
    go_wp2_with fail
    refine (H90.out _ K3.out).mono ?_
    rintro e w4 ⟨A5, c5, l5, rfl, p1, p2, sl5, hk4⟩
    have HP1 := Lib.hid p1
    have SL5 := Lib.hid sl5
    have K4 := Lib.hid (K3.out.trans hk4)
    clear hk4 p1 p2 sl5 a0 a1 la
    go_wp2_with (refine wpList_store_row rfl 122 (.tmp 12) (.tmp 33) rfl w4.heap.size (Value.slice A5 l5.length c5 :: lkL (lkX fs)).toArray rfl rfl 122 zero31.toArray (heap_alloc_new w4 _) (by rw [hi]; simp [lkL_len]) (by simp [zero31, lkL_len]) (by simp [lkL, Value.oneCell']) ?_)
    obtain ⟨Wb, hWb⟩ : ∃ Wb, Wb = (w4.alloc (.cells zero31.toArray 122)).setRow w4.heap.size (Value.slice A5 l5.length c5 :: lkL (lkX fs)).toArray := ⟨_, rfl⟩
    have hbb : Wb.heap[w4.heap.size]? = some (.cells (Value.slice A5 l5.length c5 :: lkL (lkX fs)).toArray 122 (0, 0)) := by rw [hWb]; exact setRow_heap _ _ _ _ _ _ (heap_alloc_new w4 _)
    have RB := Lib.hid (show RowC Wb w4.heap.size (Value.slice A5 l5.length c5 :: lkL (lkX fs)) from fun j v hv => ⟨by rw [cell_of_row _ _ _ _ _ _ hbb]; simpa using hv, frozen_of_row _ _ _ _ _ hbb⟩)
    have hkb : Kept w4 Wb := by rw [hWb]; exact ((Kept.refl w4).alloc _).setRow (Nat.le_refl _) _
    have KB := Lib.hid (K4.out.trans hkb)
    have HZZ : RowKit.Hid (Wb = (w4.alloc (.cells #[.slice none 0 0, .int .u8 0, .int .u8 0, .int .u8 0, .int .u8 0, .int .u8 0, .int .u8 0, .int .u8 0, .int .u8 0, .int .u8 0, .int .u8 0, .int .u8 0, .int .u8 0, .int .u8 0, .int .u8 0, .int .u8 0, .int .u8 0, .int .u8 0, .int .u8 0, .int .u8 0, .int .u8 0, .int .u8 0, .int .u8 0, .int .u8 0, .int .u8 0, .int .u8 0, .int .u8 0, .int .u8 0, .int .u8 0, .int .u8 0, .int .u8 0] 122)).setRow w4.heap.size (Value.slice A5 l5.length c5 :: lkL (lkX fs)).toArray) := Lib.hid hWb
    have SLB := Lib.hid (SL5.out.kept hkb)
    rw [← HZZ.out]
    clear hWb hbb hkb
    go_wp2_with fail
    go_loopw [8, 9, 36] (fun u v i wr => ∃ k : Nat, k ≤ p ∧ i = .int .i64 k ∧ u = .int .i64 ((cntN (sureB ms fs day on) (found.take k) : Nat) : Int) ∧ v = .int .i64 ((cntN (perB ms fs day on) (found.take k) : Nat) : Int) ∧ Kept Wb wr) (fun _ _ i _ => p - (intOf i).toNat)
    case atStart => exact ⟨0, by omega, by first | rfl | go_num, by simp [cntN], by simp [cntN], Kept.refl _⟩
    case round =>
      obtain ⟨k, hk, rfl, rfl, rfl, hkr⟩ := hrel
      have HKR := Lib.hid hkr
      clear hkr
      by_cases hlt : k < p
      · obtain ⟨s, hsk⟩ : ∃ s, found[k]? = some s := ⟨_, List.getElem?_eq_getElem (by rw [HFO.out.1]; exact hlt)⟩
        have hsm := List.mem_of_getElem? hsk
        have hok := HFO.out.2.2.2.1 s hsm
        have hss := HFS.out s hsm
        obtain ⟨b, off, hA, ht⟩ := HFO.out.2.2.2.2 (by omega)
        subst hA
        have hcc := fun j v hv => ((KB.out.trans HKR.out).cells _ _ (cell_lt (ht k s hsk j v hv))).trans (ht k s hsk j v hv)
        have c0 := hcc 0 _ rfl
        have c1 := hcc 1 _ rfl
        have c2 := hcc 2 _ rfl
        have c3 := hcc 3 _ rfl
        have c4 := hcc 4 _ rfl
        have c5' := hcc 5 _ rfl
        simp only [Nat.add_zero] at c0
        have hS2 := ownN_perm fs s HP1.out
        have hSl := ownN_lt fs s (frcL ms day) 0 (by omega) (fun x hx => by
          have := HMV.out x (List.mem_filter.1 hx).1
          unfold markB at this
          simp [inB] at this
          omega)
        obtain ⟨S, hSe⟩ : ∃ S, ownD ms fs day s = S := ⟨_, rfl⟩
        have hS64 : S < 2 ^ 64 := by
          have : ownN fs s (frcL ms day) = S := hSe
          unfold ownN at this
          omega
        have H91 : RowKit.Hid (∀ W, Kept Wb W → Calls Tryz.prog 91 #[.agg (Value.slice A5 l5.length c5 :: lkL (lkX fs)).toArray, .agg #[.int .u8 s.s0, .int .u8 s.s1, .int .u8 s.s2, .int .u8 s.s3, .int .u8 s.s4, .int .u8 s.s5]] W fun e w' => e = .returned (.int .u64 ((S : Nat) : Int)) ∧ Kept W w') := Lib.hid (fun W hW => by
          rw [← hSe]
          unfold ownD
          rw [← hS2]
          exact owners_any A5 l5.length c5 l5 fs s W (SLB.out.kept hW) (fun x hx => HMV.out x (List.mem_filter.1 (HP1.out.mem_iff.1 hx)).1) (fade4 HFV.out) hok hss)
        obtain ⟨qb, hqb⟩ : ∃ q, ((S : Int) == (2 : Int) ^ on) = q := ⟨_, rfl⟩
        have HT1 : RowKit.Hid (cntN (sureB ms fs day on) (found.take (k + 1)) = if qb = true then cntN (sureB ms fs day on) (found.take k) + 1 else cntN (sureB ms fs day on) (found.take k)) := Lib.hid (by
          rw [take_snoc' hsk, cntN_snoc]
          have : sureB ms fs day on s = qb := by unfold sureB; rw [hSe]; exact hqb
          rw [this])
        have HT2 : RowKit.Hid (cntN (perB ms fs day on) (found.take (k + 1)) = if (!qb && S.testBit on) = true then cntN (perB ms fs day on) (found.take k) + 1 else cntN (perB ms fs day on) (found.take k)) := Lib.hid (by
          rw [take_snoc' hsk, cntN_snoc]
          have : perB ms fs day on s = (!qb && S.testBit on) := by unfold perB sureB; rw [hSe, hqb]
          rw [this])
        have hc1 := Nat.le_trans (cntN_le (sureB ms fs day on) (found.take k)) (List.length_take_le _ _)
        have hc2 := Nat.le_trans (cntN_le (perB ms fs day on) (found.take k)) (List.length_take_le _ _)
        obtain ⟨N1, hN1⟩ : ∃ N, cntN (sureB ms fs day on) (found.take k) = N := ⟨_, rfl⟩
        obtain ⟨N2, hN2⟩ : ∃ N, cntN (perB ms fs day on) (found.take k) = N := ⟨_, rfl⟩
        rw [hN1] at hc1
        rw [hN2] at hc2
        rw [hN1, hN2]
        have HN1 := Lib.hid hN1
        have HN2 := Lib.hid hN2
        have kr := HKR.out.trans ((Kept.refl wr).alloc (.cells #[.int .u8 s.s0, .int .u8 s.s1, .int .u8 s.s2, .int .u8 s.s3, .int .u8 s.s4, .int .u8 s.s5] 39))
        have HRG := Lib.hid (show (wr.alloc (.cells #[.int .u8 s.s0, .int .u8 s.s1, .int .u8 s.s2, .int .u8 s.s3, .int .u8 s.s4, .int .u8 s.s5] 39)).rangeAt w4.heap.size 0 (Value.slice A5 l5.length c5 :: lkL (lkX fs)) from fun j v hv => by
          rw [Nat.zero_add]
          exact (RB.out.kept kr j v hv).1)
        have KR := Lib.hid kr
        have hqb' := hqb
        clear hsk hsm hok hss ht hcc hS2 hSl hSe hN1 hN2 kr hqb
        go_wp2_with (refine wpList_load_mid rfl 122 (.tmp 12) rfl w4.heap.size 0 rfl (Value.slice A5 l5.length c5 :: lkL (lkX fs)) _ HRG.out Tryz.underlying122 rfl (by rw [hi]; simp [lkL_len]) ?_)
        refine (H91.out _ KR.out).mono ?_
        rintro e w5 ⟨rfl, hk5⟩
        have K5 := Lib.hid (KR.out.trans hk5)
        clear hk5
        go_wp2_with fail
        refine (just_any on (by omega) _).mono ?_
        rintro e w6 ⟨rfl, rfl⟩
        cases qb
        · obtain ⟨tb, htb⟩ : ∃ t, S.testBit on = t := ⟨_, rfl⟩
          have HHA : RowKit.Hid (∀ W, Calls Tryz.prog 92 #[.int .u64 (S : Int), .int .i64 (on : Int)] W fun e w' => e = .returned (.bool tb) ∧ W = w') := Lib.hid (fun W => by rw [← htb]; exact has_any S on hS64 hon1 hon40 W)
          rw [htb] at HT2
          clear htb
          go_wp2_with fail
          refine (HHA.out _).mono ?_
          rintro e w6 ⟨rfl, rfl⟩
          cases tb
          · go_wp2
            go_roundw
            case rel => exact ⟨k + 1, by omega, by go_num, by rw [HT1.out, HN1.out]; rfl, by rw [HT2.out, HN2.out]; rfl, K5.out⟩
            case measure => simp [intOf]; omega
          · go_wp2
            go_roundw
            case rel => exact ⟨k + 1, by omega, by go_num, by rw [HT1.out, HN1.out]; rfl, by rw [HT2.out, HN2.out]; rfl, K5.out⟩
            case measure => simp [intOf]; omega
        · go_wp2
          go_roundw
          case rel => exact ⟨k + 1, by omega, by go_num, by rw [HT1.out, HN1.out]; rfl, by rw [HT2.out, HN2.out]; rfl, K5.out⟩
          case measure => simp [intOf]; omega
      · obtain rfl : k = p := by omega
        have hT : found.take k = found := List.take_of_length_le (by rw [HFO.out.1]; exact Nat.le_refl _)
        rw [hT]
        clear hT
        go_wp2
        go_ret3
        refine ⟨.inr ⟨HE.out, by rw [Int.toNat_natCast]; rfl⟩, K0.out.trans (KB.out.trans HKR.out)⟩
  · have hne : (E != 0) = true := by simpa using hz
    have HZ := Lib.hid hz
    clear hz
    go_wp2
    go_ret3
    refine ⟨.inl ⟨by rw [HE.out]; exact HZ.out, by rw [HE.out]; rfl⟩, K0.out.trans K3.out⟩
end Go.Proofs.YtologmoanaccpaaGreatDoor
