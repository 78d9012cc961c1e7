/-
  valid smits: one mark of an owner on a day; the owners of a sight by the reference
  what is equal to itself: signs, marks, sights
  the marks in force: InForce of the code and of the reference; SameMarks of what is the same
-/
import Derived.Test.YtologmoanaccpaaGreatDoorYA
import Derived.Test.YtologmoanaccpaaGreatDoorBD
import Derived.Test.YtologmoanaccpaaGreatDoorBM
import Derived.Test.YtologmoanaccpaaGreatDoorBB
import Derived.Test.YtologmoanaccpaaGreatDoorBG
namespace Go.Proofs.YtologmoanaccpaaGreatDoor
set_option linter.all false

theorem clash_pw {ms : List Mk} (h : clashB ms = false) : ms.Pairwise fun a b => pairB b a = false := by
  rw [List.pairwise_iff_getElem]
  intro i j hi hj hij
  unfold clashB at h
  rw [List.any_eq_false] at h
  have := h j (List.mem_range.2 hj)
  rw [List.getElem?_eq_getElem hj] at this
  dsimp only at this
  rw [Bool.not_eq_true, clash_pair, List.any_eq_false] at this
  have h2 := this ms[i] (List.mem_of_getElem? (i := i) (by rw [List.getElem?_take, if_pos hij, List.getElem?_eq_getElem hi]))
  simpa using h2
theorem frc_ne {ms : List Mk} (h : clashB ms = false) (day : Int) : (frcL ms day).Pairwise fun a b => a.own ≠ b.own := by
  have h1 : (frcL ms day).Pairwise fun a b => pairB b a = false := (clash_pw h).sublist List.filter_sublist
  refine List.Pairwise.imp_of_mem (fun {a b} ha hb hp he => ?_) h1
  have fa := inB_iff.1 (List.mem_filter.1 ha).2
  have fb := inB_iff.1 (List.mem_filter.1 hb).2
  unfold pairB meetsB at hp
  rw [Bool.and_eq_false_iff] at hp
  rcases hp with hp | hp
  · simp at hp; omega
  · simp [he] at hp
theorem pw_uniq {l : List Mk} (h : l.Pairwise fun a b => a.own ≠ b.own) {a b : Mk} (ha : a ∈ l) (hb : b ∈ l) (e : a.own = b.own) : a = b := by
  induction l with
  | nil => cases ha
  | cons x l ih =>
    obtain ⟨h1, h2⟩ := List.pairwise_cons.1 h
    rcases List.mem_cons.1 ha with e1 | ha2
    · rcases List.mem_cons.1 hb with e2 | hb2
      · rw [e1, e2]
      · exact absurd (by rw [← e1]; exact e) (h1 b hb2)
    · rcases List.mem_cons.1 hb with e2 | hb2
      · exact absurd (by rw [← e2]; exact e.symm) (h1 a ha2)
      · exact ih h2 ha2 hb2
theorem mkAt_iff {ms : List Mk} (h : clashB ms = false) {day o : Int} {m : Mk} : mkAt ms day o = some m ↔ m ∈ frcL ms day ∧ m.own = o := by
  have hs : ∀ {x : Mk}, mkAt ms day o = some x → x ∈ frcL ms day ∧ x.own = o := fun {x} hx => by
    have h1 := List.find?_some hx
    have h2 := List.mem_of_find?_eq_some hx
    rw [Bool.and_eq_true, decide_eq_true_eq] at h1
    exact ⟨List.mem_filter.2 ⟨h2, h1.2⟩, h1.1⟩
  refine ⟨hs, fun ⟨h1, h2⟩ => ?_⟩
  cases e : mkAt ms day o with
  | none =>
    have := List.find?_eq_none.1 e m (List.mem_filter.1 h1).1
    rw [(List.mem_filter.1 h1).2, h2] at this
    simp at this
  | some x =>
    obtain ⟨h3, h4⟩ := hs e
    rw [pw_uniq (frc_ne h day) h3 h1 (by omega)]
/-- the marks in force, owner by owner -/
def rfL (ms : List Mk) (day : Int) (k : Nat) : List Mk := (List.range k).filterMap fun i : Nat => mkAt ms day ((i : Int) + 1)
theorem rfL_succ (ms : List Mk) (day : Int) (k : Nat) : rfL ms day (k + 1) = match mkAt ms day ((k : Int) + 1) with | some m => rfL ms day k ++ [m] | none => rfL ms day k := by
  unfold rfL
  rw [List.range_succ, List.filterMap_append]
  cases e : mkAt ms day ((k : Int) + 1) <;> simp [e]
theorem rfL_len (ms : List Mk) (day : Int) (k : Nat) : (rfL ms day k).length ≤ k := by
  unfold rfL
  exact Nat.le_trans (List.length_filterMap_le ..) (by simp)
theorem rfL_lt {ms : List Mk} (h : clashB ms = false) (day : Int) (k : Nat) : (rfL ms day k).Pairwise fun a b => a.own < b.own := by
  unfold rfL
  rw [List.pairwise_filterMap]
  refine List.Pairwise.imp (fun {i j} hij a ha b hb => ?_) List.pairwise_lt_range
  have h1 := ((mkAt_iff h).1 ha).2
  have h2 := ((mkAt_iff h).1 hb).2
  omega
theorem nodup_own {l : List Mk} (h : l.Pairwise fun a b => a.own ≠ b.own) : l.Nodup := h.imp fun hn e => hn (by rw [e])
theorem rf_eq {ms : List Mk} (h : clashB ms = false) (hv : ∀ m ∈ ms, markB m = true) {day : Int} {l : List Mk} (hp : l.Perm (frcL ms day)) (hs : l.Pairwise fun a b => a.own ≤ b.own) : l = rfL ms day 40 := by
  refine perm_sorted _ _ (hp.trans ?_) hs (rfL_lt h day 40)
  rw [List.perm_ext_iff_of_nodup (nodup_own (frc_ne h day)) (nodup_own ((rfL_lt h day 40).imp fun hlt e => by omega))]
  intro m
  constructor
  · intro hm
    have hb := hv m (List.mem_filter.1 hm).1
    unfold markB at hb
    simp only [Bool.and_eq_true] at hb
    have ho := inB_iff.1 hb.1.1.1.1
    unfold rfL
    rw [List.mem_filterMap]
    exact ⟨(m.own - 1).toNat, List.mem_range.2 (by omega), (mkAt_iff h).2 ⟨hm, by omega⟩⟩
  · intro hm
    unfold rfL at hm
    rw [List.mem_filterMap] at hm
    obtain ⟨i, _, hi⟩ := hm
    exact ((mkAt_iff h).1 hi).1
/-- a sight fits an owner, by the reference -/
def fitO (ms : List Mk) (fs : List Fd) (day : Int) (s : Sg) (o : Int) : Bool := match mkAt ms day o with | some m => fitB fs m.sg s | none => false
theorem ownD_bit {ms : List Mk} {fs : List Fd} {day : Int} {s : Sg} {o : Nat} (h : clashB ms = false) (hv : ∀ m ∈ ms, markB m = true) : (ownD ms fs day s).testBit o = fitO ms fs day s (o : Int) := by
  unfold ownD ownN fitO
  rw [ownN_bit, Nat.zero_testBit, Bool.false_or, Bool.eq_iff_iff, List.any_eq_true]
  constructor
  · rintro ⟨m, hm, hb⟩
    rw [Bool.and_eq_true, decide_eq_true_eq] at hb
    have hk := hv m (List.mem_filter.1 hm).1
    unfold markB at hk
    simp only [Bool.and_eq_true] at hk
    have ho := inB_iff.1 hk.1.1.1.1
    rw [(mkAt_iff h).2 ⟨hm, by omega⟩]
    exact hb.1
  · intro hb
    cases e : mkAt ms day (o : Int) with
    | none => rw [e] at hb; cases hb
    | some m =>
      rw [e] at hb
      obtain ⟨h1, h2⟩ := (mkAt_iff h).1 e
      exact ⟨m, h1, by rw [Bool.and_eq_true, decide_eq_true_eq]; exact ⟨hb, by omega⟩⟩
end Go.Proofs.YtologmoanaccpaaGreatDoor

namespace Go.Proofs.YtologmoanaccpaaGreatDoor
set_option linter.all false
open Go Go.RowKit

def sgAgg (s : Sg) : Value := .agg #[.int .u8 s.s0, .int .u8 s.s1, .int .u8 s.s2, .int .u8 s.s3, .int .u8 s.s4, .int .u8 s.s5]
theorem eq30r (d : Nat) (s : Sg) (w : World) : (Op.equalIn (d + 2) 30 (sgAgg s) (sgAgg s)).run Tryz.prog w = .ok true w := by
  obtain ⟨i5, hi5, hz0, hz1, hz2⟩ := info_parts (P := Tryz.prog) (e := 5) (z := .int .u8 0) (size := 1) (bytes := 1) (by kernel_rfl)
  have hc : Tryz.prog.cellsOf 5 = 1 := by kernel_rfl
  have hp : ∀ (xs : Array Value) (j : Nat) (v : Value), xs[j]? = some v → (part 5 xs j).run Tryz.prog w = .ok v w := by
    intro xs j v h
    have ha : (isAgg 5).run Tryz.prog w = .ok false w := by kernel_rfl
    simp [part, ha, h]
  unfold sgAgg
  rw [run_equalIn_array w (d + 1) _ _ Tryz.underlying30 hi5, hc]
  have hl : List.range 6 = [0, 1, 2, 3, 4, 5] := rfl
  rw [hl]
  have q : ∀ a b : Int, (Op.equalIn (d + 1) 5 (.int .u8 a) (.int .u8 b)).run Tryz.prog w = .ok (a == b) w := fun a b => run_equalIn_int w d 5 .u8 .u8 a b Tryz.underlying5
  simp only [Op.eqItems, Sem.run_bind, Nat.zero_mul, Nat.mul_one]
  rw [hp _ 0 (.int .u8 s.s0) rfl, Result.andThen_ok, hp _ 0 (.int .u8 s.s0) rfl]
  simp only [Result.andThen_ok, q, beq_self_eq_true, Bool.not_true, Bool.false_eq_true, if_false, Sem.run_bind]
  rw [hp _ 1 (.int .u8 s.s1) rfl, Result.andThen_ok, hp _ 1 (.int .u8 s.s1) rfl]
  simp only [Result.andThen_ok, q, beq_self_eq_true, Bool.not_true, Bool.false_eq_true, if_false, Sem.run_bind]
  rw [hp _ 2 (.int .u8 s.s2) rfl, Result.andThen_ok, hp _ 2 (.int .u8 s.s2) rfl]
  simp only [Result.andThen_ok, q, beq_self_eq_true, Bool.not_true, Bool.false_eq_true, if_false, Sem.run_bind]
  rw [hp _ 3 (.int .u8 s.s3) rfl, Result.andThen_ok, hp _ 3 (.int .u8 s.s3) rfl]
  simp only [Result.andThen_ok, q, beq_self_eq_true, Bool.not_true, Bool.false_eq_true, if_false, Sem.run_bind]
  rw [hp _ 4 (.int .u8 s.s4) rfl, Result.andThen_ok, hp _ 4 (.int .u8 s.s4) rfl]
  simp only [Result.andThen_ok, q, beq_self_eq_true, Bool.not_true, Bool.false_eq_true, if_false, Sem.run_bind]
  rw [hp _ 5 (.int .u8 s.s5) rfl, Result.andThen_ok, hp _ 5 (.int .u8 s.s5) rfl]
  simp [q]
set_option maxRecDepth 100000 in
theorem eq39r (s : Sg) (w : World) : (Op.equalIn 10000 39 (sgAgg s) (sgAgg s)).run Tryz.prog w = .ok true w := by
  have hp : (part 30 #[.int .u8 s.s0, .int .u8 s.s1, .int .u8 s.s2, .int .u8 s.s3, .int .u8 s.s4, .int .u8 s.s5] 0).run Tryz.prog w = .ok (sgAgg s) w := by kernel_rfl
  have he := eq30r 9997 s w
  have hf : (Tryz.prog.fieldsOf 39).toList.map (fun f => (f.name == "_", f.type, f.offset)) = [(false, 30, 0)] := by kernel_rfl
  unfold sgAgg at *
  rw [show (10000 : Nat) = 9999 + 1 from rfl, run_equalIn_agg w 9999 39 _ _ (by kernel_rfl) (by kernel_rfl)]
  obtain ⟨f, l, e, hf1, hr⟩ := List.map_eq_cons_iff.1 hf
  obtain rfl := List.map_eq_nil_iff.1 hr
  simp only [Prod.mk.injEq] at hf1
  obtain ⟨h1, h2, h3⟩ := hf1
  have h1' : f.name ≠ "_" := by simpa using h1
  rw [e]
  simp only [Op.eqFields]
  rw [if_pos h1', h2, h3]
  simp [Sem.run_bind, hp, he]
set_option maxRecDepth 100000 in
theorem eq32r (m : Mk) (w : World) : (Op.equalIn 10000 32 (.agg (mkC m).toArray) (.agg (mkC m).toArray)).run Tryz.prog w = .ok true w := by
  have hp0 : (part 3 (mkC m).toArray 0).run Tryz.prog w = .ok (.int .i64 m.own) w := by kernel_rfl
  have hp1 : (part 3 (mkC m).toArray 1).run Tryz.prog w = .ok (.int .i64 m.frm) w := by kernel_rfl
  have hp2 : (part 3 (mkC m).toArray 2).run Tryz.prog w = .ok (.int .i64 m.unt) w := by kernel_rfl
  have hp3 : (part 30 (mkC m).toArray 3).run Tryz.prog w = .ok (sgAgg m.sg) w := by kernel_rfl
  have he := eq30r 9997 m.sg w
  have q : ∀ a b : Int, (Op.equalIn 9999 3 (.int .i64 a) (.int .i64 b)).run Tryz.prog w = .ok (a == b) w := fun a b => run_equalIn_int w 9998 3 .i64 .i64 a b Tryz.underlying3
  have hf : (Tryz.prog.fieldsOf 32).toList.map (fun f => (f.name == "_", f.type, f.offset)) = [(false, 3, 0), (false, 3, 1), (false, 3, 2), (false, 30, 3)] := by kernel_rfl
  rw [show (10000 : Nat) = 9999 + 1 from rfl, run_equalIn_agg w 9999 32 _ _ (by kernel_rfl) (by kernel_rfl)]
  obtain ⟨f, l, e, hf1, hr⟩ := List.map_eq_cons_iff.1 hf
  obtain ⟨g, l, rfl, hg1, hr⟩ := List.map_eq_cons_iff.1 hr
  obtain ⟨h, l, rfl, hh1, hr⟩ := List.map_eq_cons_iff.1 hr
  obtain ⟨i, l, rfl, hi1, hr⟩ := List.map_eq_cons_iff.1 hr
  obtain rfl := List.map_eq_nil_iff.1 hr
  simp only [Prod.mk.injEq] at hf1 hg1 hh1 hi1
  obtain ⟨f1, f2, f3⟩ := hf1
  obtain ⟨g1, g2, g3⟩ := hg1
  obtain ⟨h1, h2, h3⟩ := hh1
  obtain ⟨i1, i2, i3⟩ := hi1
  have f1' : f.name ≠ "_" := by simpa using f1
  have g1' : g.name ≠ "_" := by simpa using g1
  have h1' : h.name ≠ "_" := by simpa using h1
  have i1' : i.name ≠ "_" := by simpa using i1
  rw [e]
  simp only [Op.eqFields]
  rw [if_pos f1', if_pos g1', if_pos h1', if_pos i1', f2, f3, g2, g3, h2, h3, i2, i3]
  simp [Sem.run_bind, hp0, hp1, hp2, hp3, he, q]
end Go.Proofs.YtologmoanaccpaaGreatDoor

namespace Go.Proofs.YtologmoanaccpaaGreatDoor
set_option linter.all false
open Go.RowKit Go.Shelf

theorem own_slaM {W : World} {B : Nat} {v : Value} {n : Nat} {l : List Mk} (h : W.ownsRow B 32 9 v n (l.flatMap mkC)) (hn : l.length = n) (hs : n ≤ 1000) (hok : ∀ m ∈ l, m.ok) : ∃ A c, v = .slice A n c ∧ SlA mkC 9 Mk.ok W A n c l := by
  rcases h.2 with ⟨h1, h0⟩ | ⟨g, cap, cur, h1, hb, hh, h2, h3, _⟩
  · subst h1
    have e0 : l = [] := List.length_eq_zero_iff.1 (by omega)
    subst e0
    refine ⟨none, 0, by rw [h0], hn, by omega, by omega, (fun m hm => by cases hm), fun hp => by omega⟩
  · subst h1
    unfold maxLen at h3
    have hr := own_rowC h
    refine ⟨some ⟨g, 0, none⟩, cap, rfl, hn, by omega, by omega, hok, fun _ => ⟨g, 0, rfl, fun i x hx j v hv => ?_⟩⟩
    rw [Nat.zero_add]
    exact (hr _ _ (flat_at mkC_len _ _ _ _ _ hx hv)).1
def InP (w : World) (ms : List Mk) (fs : List Fd) (day : Int) (e : Ending) (w' : World) : Prop :=
  ((inE ms fs day ≠ 0 ∧ e = .returned (.tuple #[.slice none 0 0, .int .i64 (inE ms fs day)])) ∨
   (inE ms fs day = 0 ∧ ∃ A n c, e = .returned (.tuple #[.slice A n c, .int .i64 0]) ∧ SlA mkC 9 Mk.ok w' A n c (rfL ms day 40))) ∧ Kept w w'
set_option maxRecDepth 100000 in
set_option maxHeartbeats 3200000 in
theorem inForceX_any (A B : Option Addr) (n c m d : Nat) (ms : List Mk) (fs : List Fd) (day : Int) (w : World) (hs : SmA w A n c ms B m d fs) :
    Calls Tryz.prog 20 #[.agg #[.slice A n c, .slice B m d], .int .i64 day] w (InP w ms fs day) := by
  obtain ⟨W0, hW0⟩ : ∃ W0, W0 = w.alloc (.cells #[.slice A n c, .slice B m d] 25) := ⟨_, rfl⟩
  have K0 : RowKit.Hid (Kept w W0) := Lib.hid (by rw [hW0]; exact (Kept.refl _).alloc _)
  have R0 : RowKit.Hid (RowC W0 w.heap.size [.slice A n c, .slice B m d]) := Lib.hid (by rw [hW0]; exact RowC.new w [.slice A n c, .slice B m d] 25)
  have HW := Lib.hid hW0
  have HS := Lib.hid (hs.kept K0.out)
  obtain ⟨E1, hE1⟩ : ∃ E, smE ms fs = E := ⟨_, rfl⟩
  obtain ⟨b2, hb2⟩ : ∃ b, inB day 0 100000 = b := ⟨_, rfl⟩
  obtain ⟨v2, hv2⟩ : ∃ v, errB b2 = v := ⟨_, rfl⟩
  obtain ⟨E, hE⟩ : ∃ E, fstE [E1, v2] = E := ⟨_, rfl⟩
  have HE : RowKit.Hid (inE ms fs day = E) := Lib.hid (by unfold inE; rw [hE1, hb2, hv2, hE])
  have H25 : RowKit.Hid (∀ W, Kept W0 W → Calls Tryz.prog 25 #[.agg #[.slice A n c, .slice B m d]] W fun e w' => e = .returned (.int .i64 E1) ∧ Kept W w') := Lib.hid (fun W hW => by rw [← hE1]; exact checkSmits_any A B n c m d ms fs W (HS.out.kept hW))
  have H75 : RowKit.Hid (∀ W, Calls Tryz.prog 75 #[.int .i64 day] W fun e w' => e = .returned (.bool b2) ∧ W = w') := Lib.hid (fun W => by rw [← hb2]; exact isDay_any _ W)
  have HV2 : RowKit.Hid (∀ W, Calls Tryz.prog 74 #[.bool b2] W fun e w' => e = .returned (.int .i64 v2) ∧ W = w') := Lib.hid (fun W => by rw [← hv2]; exact valid_any b2 W)
  have H73 : RowKit.Hid (∀ W g, RowC W g [.int .i64 E1, .int .i64 v2] → Calls Tryz.prog 73 #[.slice (some ⟨g, 0, none⟩) 2 2] W fun e w' => e = .returned (.int .i64 E) ∧ W = w') := Lib.hid (fun W g hr => by
    rw [← hE]
    exact firstError_any g 0 2 2 [E1, v2] rfl (by omega) W (intsR hr))
  have a0 := (R0.out 0 _ rfl).1
  have a1 := (R0.out 1 _ rfl).1
  have la := cell_lt a0
  clear hW0 hs hE1 hb2 hv2 hE
  go_enter Tryz.func20, Tryz.ntmps20
  go_upto_region 1 with (fail)
  rw [← HW.out]
  go_wp2_with fail
  refine (H25.out _ (Kept.refl _)).mono ?_
  rintro e w1 ⟨rfl, hk1⟩
  have K1 := Lib.hid hk1
  have R1 := Lib.hid (R0.out.kept hk1)
  clear hk1 a0 a1 la
  go_wp2_with fail
  refine (H75.out _).mono ?_
  rintro e w2 ⟨rfl, rfl⟩
  go_wp2_with fail
  refine (HV2.out _).mono ?_
  rintro e w2 ⟨rfl, rfl⟩
  go_wp2_with fail
  refine (H73.out _ _ (RowC.new _ _ _)).mono ?_
  rintro e w3 ⟨rfl, rfl⟩
  obtain ⟨w3, hw3⟩ : ∃ w3, w3 = w1.alloc (.cells #[.int .i64 E1, .int .i64 v2] 27) := ⟨_, rfl⟩
  have K3 := Lib.hid (show Kept W0 w3 by rw [hw3]; exact K1.out.alloc _)
  have R3 := Lib.hid (R0.out.kept K3.out)
  rw [← hw3]
  have HW3 := Lib.hid hw3
  clear hw3
  by_cases h0 : E = 0
  rotate_left
  · have h1 : (E == 0) = false := by simpa using h0
    have H0 := Lib.hid h0
    clear h0
    go_wp2_with fail
    go_ret2
    exact ⟨.inl ⟨by rw [HE.out]; exact H0.out, by rw [HE.out]; rfl⟩, K0.out.trans K3.out⟩
  · subst h0
    obtain ⟨e1, e2⟩ := fstE_two HE.out
    obtain ⟨hm1, hm2, hmv, hfv, _, _⟩ := sm_ok e1
    have HMV := Lib.hid hmv
    have HFV := Lib.hid hfv
    have hn100 : n ≤ 1000 := by rw [← HS.out.1.1]; omega
    have hl100 := hm1
    have HIF := Lib.hid (inForce_any A B n c m d ms fs day w3 (HS.out.kept K3.out) hn100 hmv)
    have HCL : RowKit.Hid (clashB ms = false) := Lib.hid (sm_ok e1).2.2.2.2.2
    have a0 := (R3.out 0 _ rfl).1
    have a1 := (R3.out 1 _ rfl).1
    have la := cell_lt a0
    clear e1 e2 hm1 hm2 hmv hfv
    go_wp2_with fail
    refine HIF.out.mono ?_
    rintro e w4 ⟨A5, c5, l5, rfl, p1, p2, sl5, fr5, hk4⟩
    have HP := Lib.hid (rf_eq HCL.out HMV.out p1 p2)
    have SL5 := Lib.hid sl5
    have K4 := Lib.hid (K3.out.trans hk4)
    clear p1 p2 sl5 fr5 hk4
    go_wp2_with fail
    go_ret2
    exact ⟨.inr ⟨HE.out, A5, l5.length, c5, rfl, by rw [← HP.out]; exact SL5.out⟩, K0.out.trans K4.out⟩
theorem stE_nil (ms : List Mk) (fs : List Fd) (day : Int) : stE ms fs day [] = inE ms fs day := by
  unfold stE inE
  rw [show errB (([] : List Int).all fun o => inB o 1 40) = 0 from rfl]
  unfold fstE
  by_cases h : smE ms fs = 0
  · rw [if_pos h, if_pos h]
    unfold fstE
    by_cases h2 : errB (inB day 0 100000) = 0
    · rw [if_pos h2, if_pos h2]; rfl
    · rw [if_neg h2, if_neg h2]
  · rw [if_neg h, if_neg h]
set_option maxRecDepth 100000 in
set_option maxHeartbeats 3200000 in
theorem rinForce_any (A B : Option Addr) (n c m d : Nat) (ms : List Mk) (fs : List Fd) (day : Int) (w : World) (hs : SmA w A n c ms B m d fs) :
    Calls Tryz.prog 21 #[.agg #[.slice A n c, .slice B m d], .int .i64 day] w (InP w ms fs day) := by
  obtain ⟨i0, hi0, hz0, hz1, hz2⟩ := info_parts info32
  obtain ⟨W0, hW0⟩ : ∃ W0, W0 = w.alloc (.cells #[.slice A n c, .slice B m d] 25) := ⟨_, rfl⟩
  have K0 : RowKit.Hid (Kept w W0) := Lib.hid (by rw [hW0]; exact (Kept.refl _).alloc _)
  have R0 : RowKit.Hid (RowC W0 w.heap.size [.slice A n c, .slice B m d]) := Lib.hid (by rw [hW0]; exact RowC.new w [.slice A n c, .slice B m d] 25)
  have HW := Lib.hid hW0
  have HS := Lib.hid (hs.kept K0.out)
  have HST := Lib.hid (rstart_any A B none n c m d 0 0 ms fs day [] W0 HS.out (IntA.nil W0) (by omega))
  have HMK : RowKit.Hid (∀ (o : Int) W, Kept W0 W → Calls Tryz.prog 78 #[.agg #[.slice A n c, .slice B m d], .int .i64 day, .int .i64 o] W (MkP W ms day o)) := Lib.hid (fun o W hW => rmark_any A B n c m d ms fs day o W (HS.out.kept hW))
  obtain ⟨E, hE⟩ : ∃ E, stE ms fs day [] = E := ⟨_, rfl⟩
  rw [hE] at HST
  have HE : RowKit.Hid (inE ms fs day = E) := Lib.hid (by rw [← stE_nil, hE])
  have a0 := (R0.out 0 _ rfl).1
  have a1 := (R0.out 1 _ rfl).1
  have la := cell_lt a0
  have HOKM : RowKit.Hid (∀ x ∈ ms, x.ok) := Lib.hid hs.1.2.2.2.1
  clear hW0 hs hE
  go_enter Tryz.func21, Tryz.ntmps21
  go_upto_region 1 with (fail)
  rw [← HW.out]
  go_wp2_with fail
  refine HST.out.mono ?_
  rintro e w1 ⟨rfl, hk1⟩
  have K1 := Lib.hid hk1
  have R1 := Lib.hid (R0.out.kept hk1)
  clear hk1 a0 a1 la
  by_cases h0 : E = 0
  rotate_left
  · have h1 : (E == 0) = false := by simpa using h0
    have H0 := Lib.hid h0
    clear h0
    go_wp2_with fail
    go_ret2
    exact ⟨.inl ⟨by rw [HE.out]; exact H0.out, by rw [HE.out]; rfl⟩, K0.out.trans K1.out⟩
  subst h0
  have HCL : RowKit.Hid (clashB ms = false) := Lib.hid (sm_ok (fstE_two HE.out).1).2.2.2.2.2
  go_wp2_with fail
  go_loopw [7, 8] (fun v i wr => ∃ k : Nat, k ≤ 40 ∧ i = .int .i64 ((k : Int) + 1) ∧ wr.ownsRow W0.heap.size 32 9 v (rfL ms day k).length ((rfL ms day k).flatMap mkC) ∧ Kept W0 wr) (fun _ i _ => 41 - (intOf i).toNat)
  case atStart => exact ⟨0, by omega, by first | rfl | go_num, ⟨by simp [rfL], .inl ⟨rfl, by simp [rfL]⟩⟩, K1.out⟩
  case round =>
    obtain ⟨k, hk, rfl, ho, hkr⟩ := hrel
    have HO := Lib.hid ho
    have HKR := Lib.hid hkr
    clear ho hkr
    by_cases hlt : k < 40
    · have a0 := ((R0.out.kept HKR.out) 0 _ rfl).1
      have a1 := ((R0.out.kept HKR.out) 1 _ rfl).1
      have la := cell_lt a0
      have HM := Lib.hid (HMK.out ((k : Int) + 1) wr HKR.out)
      have hk40 : ((k : Int) + 1) ≤ 40 := by omega
      go_wp2_with fail
      refine HM.out.mono ?_
      rintro e w2 ⟨he, hk2⟩
      have HK2 := Lib.hid hk2
      have HT := Lib.hid (rfL_succ ms day k)
      have hlen := rfL_len ms day k
      obtain ⟨N, hN⟩ : ∃ N, (rfL ms day k).length = N := ⟨_, rfl⟩
      rw [hN] at hlen
      have HN := Lib.hid hN
      clear hN hk2 a0 a1 la
      obtain ⟨mo, hmk⟩ : ∃ mo, mkAt ms day ((k : Int) + 1) = mo := ⟨_, rfl⟩
      have he' := he
      clear he
      rw [hmk] at he' HT
      cases mo with
      | none =>
        obtain rfl : e = .returned (.tuple #[.agg #[.int .i64 0, .int .i64 0, .int .i64 0, .int .u8 0, .int .u8 0, .int .u8 0, .int .u8 0, .int .u8 0, .int .u8 0], .bool false]) := he'
        clear hmk
        go_wp2_with fail
        go_roundw
        case rel => exact ⟨k + 1, by omega, by go_num, by rw [HT.out]; exact own_kept HO.out (HK2.out.alloc _), (HKR.out.trans HK2.out).alloc _⟩
        case measure => simp [intOf]; omega
      | some x =>
        have HXM := Lib.hid ((mkAt_iff HCL.out).1 hmk).1
        obtain rfl : e = .returned (.tuple #[.agg #[.int .i64 x.own, .int .i64 x.frm, .int .i64 x.unt, .int .u8 x.sg.s0, .int .u8 x.sg.s1, .int .u8 x.sg.s2, .int .u8 x.sg.s3, .int .u8 x.sg.s4, .int .u8 x.sg.s5], .bool true]) := he'
        clear hmk
        go_upto_region 9 with (fail)
        obtain ⟨Wa, hWa⟩ : ∃ Wa, Wa = w2.alloc (.cells #[.int .i64 x.own, .int .i64 x.frm, .int .i64 x.unt, .int .u8 x.sg.s0, .int .u8 x.sg.s1, .int .u8 x.sg.s2, .int .u8 x.sg.s3, .int .u8 x.sg.s4, .int .u8 x.sg.s5] 32) := ⟨_, rfl⟩
        have ka : Kept wr Wa := by rw [hWa]; exact HK2.out.alloc _
        have ra : RowC Wa w2.heap.size (mkC x) := by rw [hWa]; exact RowC.new w2 (mkC x) 32
        have d0 := (ra 0 _ rfl).1
        have d1 := (ra 1 _ rfl).1
        have d2 := (ra 2 _ rfl).1
        have d3 := (ra 3 _ rfl).1
        have d4 := (ra 4 _ rfl).1
        have d5 := (ra 5 _ rfl).1
        have d6 := (ra 6 _ rfl).1
        have d7 := (ra 7 _ rfl).1
        have d8 := (ra 8 _ rfl).1
        have ld := cell_lt d0
        rw [← hWa]
        have HKA := Lib.hid (HKR.out.trans ka)
        have ho := own_kept HO.out ka
        rw [HN.out] at ho
        have HOA := Lib.hid ho
        have HNW := Lib.hid (news_of (W := Wa) (cs := mkC x) (t := 32) (m := Wa.heap.size) rfl)
        have HA3 : RowKit.Hid (N + 1 ≤ maxLen) := Lib.hid (by unfold maxLen; omega)
        have HA4 : RowKit.Hid ((N + 1) * 32 ≤ 140737488355328) := Lib.hid (by omega)
        have HB1 : RowKit.Hid (W0.heap.size ≤ (Wa.alloc (.cells #[.int .i64 x.own, .int .i64 x.frm, .int .i64 x.unt, .int .u8 x.sg.s0, .int .u8 x.sg.s1, .int .u8 x.sg.s2, .int .u8 x.sg.s3, .int .u8 x.sg.s4, .int .u8 x.sg.s5] 32)).heap.size) := Lib.hid (by have := HKA.out.size; simp; omega)
        clear hWa ka ra ho
        go_wp2_with (at_builtin; refine wpList_append_lies _ rfl (.tmp 29) (.tmp 31) 22 rfl W0.heap.size 32 i0 _ 9 32 Tryz.underlying22 hi0 hz0 hz1 hz2 rfl (by decide) _ N _ rfl (own_kept HOA.out ((Kept.refl _).alloc _)) ⟨Wa.heap.size, 0, none⟩ 1 1 (mkC x) rfl rfl HNW.out (mk_one x) (by decide) HA3.out HA4.out HB1.out _ rfl ?_; intro g cap w6 hown6 hgrow6 hat6 hlt6)
        have HO6 := Lib.hid hown6
        have HK6 := Lib.hid ((HKA.out.alloc _).grown hgrow6 (fun r hr => (HOA.out.lt r hr).1))
        clear hown6 hgrow6 hat6 hlt6
        go_roundw
        case rel => exact ⟨k + 1, by omega, by go_num, by rw [HT.out, List.length_append, HN.out, flat_snoc]; exact HO6.out, HK6.out⟩
        case measure => simp [intOf]; omega
    · obtain rfl : k = 40 := by omega
      have hsl := own_slaM HO.out rfl (Nat.le_trans (rfL_len ms day 40) (by omega)) (fun x hx => by
        unfold rfL at hx
        rw [List.mem_filterMap] at hx
        obtain ⟨i, _, hi⟩ := hx
        exact HOKM.out x (List.mem_filter.1 ((mkAt_iff HCL.out).1 hi).1).1)
      obtain ⟨A5, c5, rfl, hsl⟩ := hsl
      have HSL := Lib.hid hsl
      clear hsl
      go_wp2_with fail
      go_ret2
      exact ⟨.inr ⟨HE.out, A5, _, c5, rfl, HSL.out⟩, K0.out.trans HKR.out⟩
set_option maxRecDepth 100000 in
set_option maxHeartbeats 1600000 in
theorem sameMarks_refl (A : Option Addr) (n c : Nat) (B : Option Addr) (m d : Nat) (l : List Mk) (w : World) (hx : SlA mkC 9 Mk.ok w A n c l) (hy : SlA mkC 9 Mk.ok w B m d l) :
    Calls Tryz.prog 24 #[.slice A n c, .slice B m d] w fun e w' => e = .returned (.bool true) ∧ Kept w w' := by
  have HX := Lib.hid hx
  have HY := Lib.hid hy
  have hnm : m = n := by rw [← hx.1, ← hy.1]
  subst hnm
  have hnc := hx.2.1
  have hcm := hx.2.2.1
  have hmd := hy.2.1
  have hdm := hy.2.2.1
  clear hx hy
  go_enter Tryz.func24, Tryz.ntmps24
  go_wp2_with fail
  go_loopw [5] (fun i wr => ∃ k : Nat, k ≤ m ∧ i = .int .i64 k ∧ Kept w wr) (fun i _ => m - (intOf i).toNat)
  case atStart => exact ⟨0, by omega, by first | rfl | go_num, Kept.refl _⟩
  case round =>
    obtain ⟨k, hk, rfl, hkr⟩ := hrel
    have HKR := Lib.hid hkr
    clear hkr
    by_cases hlt : k < m
    · obtain ⟨x, hx⟩ : ∃ x, l[k]? = some x := ⟨_, List.getElem?_eq_getElem (by rw [HX.out.1]; exact hlt)⟩
      obtain ⟨b, off, hA, ht⟩ := HX.out.2.2.2.2 (by omega)
      obtain ⟨b2, off2, hB, hu⟩ := HY.out.2.2.2.2 (by omega)
      subst hA hB
      have hcc := fun j v hv => (HKR.out.cells _ _ (cell_lt (ht k x hx j v hv))).trans (ht k x hx j v hv)
      have hdd := fun j v hv => (HKR.out.cells _ _ (cell_lt (hu k x hx j v hv))).trans (hu k x hx j v hv)
      have c0 := hcc 0 _ rfl
      have c1 := hcc 1 _ rfl
      have c2 := hcc 2 _ rfl
      have c3 := hcc 3 _ rfl
      have c4 := hcc 4 _ rfl
      have c5 := hcc 5 _ rfl
      have c6 := hcc 6 _ rfl
      have c7 := hcc 7 _ rfl
      have c8 := hcc 8 _ rfl
      have d0 := hdd 0 _ rfl
      have d1 := hdd 1 _ rfl
      have d2 := hdd 2 _ rfl
      have d3 := hdd 3 _ rfl
      have d4 := hdd 4 _ rfl
      have d5 := hdd 5 _ rfl
      have d6 := hdd 6 _ rfl
      have d7 := hdd 7 _ rfl
      have d8 := hdd 8 _ rfl
      simp only [Nat.add_zero] at c0 d0
      have hi0 : (0 : Int) ≤ (k : Int) := by omega
      have hi1 : (k : Int) < (m : Int) := by omega
      have heq : ∀ W, (binOp BinOp.neq 32 (.agg #[.int .i64 x.own, .int .i64 x.frm, .int .i64 x.unt, .int .u8 x.sg.s0, .int .u8 x.sg.s1, .int .u8 x.sg.s2, .int .u8 x.sg.s3, .int .u8 x.sg.s4, .int .u8 x.sg.s5]) (.agg #[.int .i64 x.own, .int .i64 x.frm, .int .i64 x.unt, .int .u8 x.sg.s0, .int .u8 x.sg.s1, .int .u8 x.sg.s2, .int .u8 x.sg.s3, .int .u8 x.sg.s4, .int .u8 x.sg.s5])).run Tryz.prog W = .ok (.bool false) W := fun W => by
        rw [run_neq_struct]
        have h := eq32r x W
        unfold mkC at h
        rw [h]
        rfl
      clear hx ht hu hcc hdd
      go_wp2_with fail
      go_quiet (fail)
      go_wp2_with fail
      go_roundw
      case rel => exact ⟨k + 1, by omega, by go_num, by first | exact HKR.out | exact HKR.out.drewN _ | exact HKR.out.drew⟩
      case measure => simp [intOf]; omega
    · obtain rfl : k = m := by omega
      go_wp2_with fail
      go_ret
      exact ⟨rfl, HKR.out⟩
end Go.Proofs.YtologmoanaccpaaGreatDoor
