/-
  mark: view.owners
  mark: viewOf
  what two marks have in common at a place: both, apart
  the view of marks, in memory of its own
  mark: checkFound, Range
-/
import Derived.Test.YtologmoanaccpaaGreatDoorBC
import Derived.Deep.MidRow
import Derived.OrdersHeld
namespace Go.Proofs.YtologmoanaccpaaGreatDoor
set_option linter.all false
open Go Go.RowKit Go.Shelf Go.Proofs

/-- the owners whom a sight fits, as bits -/
def ownN (fs : List Fd) (s : Sg) (l : List Mk) : Nat := l.foldl (fun a m => if fitB fs m.sg s = true then a ||| 2 ^ m.own.toNat else a) 0
theorem ownN_snoc (fs : List Fd) (s : Sg) (l : List Mk) (m : Mk) : ownN fs s (l ++ [m]) = if fitB fs m.sg s = true then ownN fs s l ||| 2 ^ m.own.toNat else ownN fs s l := by simp [ownN]
theorem ownN_lt (fs : List Fd) (s : Sg) : ∀ (l : List Mk) (a : Nat), a < 2 ^ 41 → (∀ m ∈ l, m.own ≤ 40) → l.foldl (fun a m => if fitB fs m.sg s = true then a ||| 2 ^ m.own.toNat else a) a < 2 ^ 41
  | [], a, h, _ => h
  | m :: l, a, h, hf => by
    rw [List.foldl_cons]
    refine ownN_lt fs s l _ ?_ (fun g hg => hf g (List.mem_cons_of_mem _ hg))
    split
    · have h4 := hf m (List.mem_cons_self ..)
      exact Nat.or_lt_two_pow h (Nat.pow_lt_pow_right (by omega) (by omega))
    · exact h
theorem ownN_bit (fs : List Fd) (s : Sg) (k : Nat) : ∀ (l : List Mk) (a : Nat), (l.foldl (fun a m => if fitB fs m.sg s = true then a ||| 2 ^ m.own.toNat else a) a).testBit k = (a.testBit k || l.any fun m => fitB fs m.sg s && decide (m.own.toNat = k))
  | [], a => by simp
  | m :: l, a => by
    rw [List.foldl_cons, ownN_bit fs s k l, List.any_cons]
    cases h : fitB fs m.sg s
    · simp
    · simp [Nat.testBit_or, Nat.testBit_two_pow, Bool.or_assoc]
/-- a view: marks, and looks -/
def vwV (A : Option Addr) (n c : Nat) (fs : List Fd) : Value := .agg (Value.slice A n c :: lkL (lkX fs)).toArray
set_option maxRecDepth 100000 in
set_option maxHeartbeats 3200000 in
theorem owners_any (A : Option Addr) (n c : Nat) (l : List Mk) (fs : List Fd) (s : Sg) (w : World) (hl : SlA mkC 9 Mk.ok w A n c l) (hv : ∀ m ∈ l, markB m = true) (hf : ∀ f ∈ fs, f.seen ≤ 4) (hs : s.ok) (hss : sightB s = true) :
    Calls Tryz.prog 91 #[vwV A n c fs, .agg #[.int .u8 s.s0, .int .u8 s.s1, .int .u8 s.s2, .int .u8 s.s3, .int .u8 s.s4, .int .u8 s.s5]] w fun e w' => e = .returned (.int .u64 ((ownN fs s l : Nat) : Int)) ∧ Kept w w' := by
  have hi : (Tryz.prog.info? 120).map (·.size) = some 30 := by kernel_rfl
  obtain ⟨W1, hW1⟩ : ∃ W1, W1 = w.alloc (.cells (Value.slice A n c :: lkL (lkX fs)).toArray 122) := ⟨_, rfl⟩
  obtain ⟨W2, hW2⟩ : ∃ W2, W2 = W1.alloc (.cells #[.int .u8 s.s0, .int .u8 s.s1, .int .u8 s.s2, .int .u8 s.s3, .int .u8 s.s4, .int .u8 s.s5] 39) := ⟨_, rfl⟩
  have z1 : W1.heap.size = w.heap.size + 1 := by rw [hW1]; simp
  have k12 : Kept W1 W2 := by rw [hW2]; exact (Kept.refl _).alloc _
  have HR1 := Lib.hid (show RowC W2 w.heap.size (Value.slice A n c :: lkL (lkX fs)) by
    have h0 : RowC W1 w.heap.size (Value.slice A n c :: lkL (lkX fs)) := by rw [hW1]; exact RowC.new w _ 122
    exact h0.kept k12)
  have HR2 := Lib.hid (show RowC W2 (w.heap.size + 1) (sgV s) by rw [hW2, ← z1]; exact RowC.new W1 (sgV s) 39)
  have HK := Lib.hid (show Kept w W2 by rw [hW2, hW1]; exact ((Kept.refl _).alloc _).alloc _)
  have HW : RowKit.Hid (W2 = (w.alloc (.cells (Value.slice A n c :: lkL (lkX fs)).toArray 122)).alloc (.cells #[.int .u8 s.s0, .int .u8 s.s1, .int .u8 s.s2, .int .u8 s.s3, .int .u8 s.s4, .int .u8 s.s5] 39)) := Lib.hid (by rw [hW2, hW1])
  have HL := Lib.hid (hl.kept HK.out)
  have HV := Lib.hid hv
  have HF := Lib.hid hf
  have HS := Lib.hid hs
  have HSS := Lib.hid hss
  have hnc := hl.2.1
  have hcm := hl.2.2.1
  unfold vwV
  clear hW1 hW2 z1 k12 hl hv hf hs hss
  go_enter Tryz.func91, Tryz.ntmps91
  go_wp2
  rw [← HW.out]
  go_loopw [5, 11] (fun v i wr => ∃ k : Nat, k ≤ n ∧ i = .int .i64 k ∧ v = .int .u64 ((ownN fs s (l.take k) : Nat) : Int) ∧ Kept W2 wr) (fun _ i _ => n - (intOf i).toNat)
  case atStart => exact ⟨0, by omega, by first | rfl | go_num, by simp [ownN], Kept.refl _⟩
  case round =>
    obtain ⟨k, hk, rfl, rfl, hkr⟩ := hrel
    have HKR := Lib.hid hkr
    clear hkr
    by_cases hlt : k < n
    · obtain ⟨x, hx⟩ : ∃ x, l[k]? = some x := ⟨_, List.getElem?_eq_getElem (by rw [HL.out.1]; exact hlt)⟩
      have hxm := List.mem_of_getElem? hx
      have hok := HL.out.2.2.2.1 x hxm
      have hmb := HV.out x hxm
      have hob : (1 ≤ x.own ∧ x.own ≤ 40) ∧ clearB x.sg = true := by
        unfold markB at hmb
        simp [inB] at hmb
        exact ⟨hmb.1.1.1.1, hmb.2⟩
      obtain ⟨⟨ho1, ho2⟩, hcl⟩ := hob
      obtain ⟨b, off, hA, ht⟩ := HL.out.2.2.2.2 (by omega)
      subst hA
      have hcc := fun j v hv => (HKR.out.cells _ _ (cell_lt (ht k x hx j v hv))).trans (ht k x hx j v hv)
      have c0 := hcc 0 _ rfl
      have c1 := hcc 1 _ rfl
      have c2 := hcc 2 _ rfl
      have c3 := hcc 3 _ rfl
      have c4 := hcc 4 _ rfl
      have c5 := hcc 5 _ rfl
      have c6 := hcc 6 _ rfl
      have c7 := hcc 7 _ rfl
      have c8 := hcc 8 _ rfl
      simp only [Nat.add_zero] at c0
      obtain ⟨q, hq⟩ : ∃ q, fitB fs x.sg s = q := ⟨_, rfl⟩
      have HQ := Lib.hid hq
      have H157 : RowKit.Hid (∀ W, Calls Tryz.prog 157 #[.agg (lkL (lkX fs)).toArray, .agg #[.int .u8 x.sg.s0, .int .u8 x.sg.s1, .int .u8 x.sg.s2, .int .u8 x.sg.s3, .int .u8 x.sg.s4, .int .u8 x.sg.s5], .agg #[.int .u8 s.s0, .int .u8 s.s1, .int .u8 s.s2, .int .u8 s.s3, .int .u8 s.s4, .int .u8 s.s5]] W fun e w' => e = .returned (.bool q) ∧ Kept W w') := Lib.hid (fun W => by rw [← hq]; exact fits_any fs x.sg s HF.out hok.2.2.2 HS.out hcl HSS.out W)
      obtain ⟨on, hon⟩ : ∃ on : Nat, x.own = (on : Int) := ⟨x.own.toNat, by omega⟩
      have HON := Lib.hid hon
      have hon40 : on ≤ 40 := by omega
      have HT : RowKit.Hid (ownN fs s (l.take (k + 1)) = if q = true then ownN fs s (l.take k) ||| 2 ^ on else ownN fs s (l.take k)) := Lib.hid (by rw [take_snoc' hx, ownN_snoc, hq, hon, Int.toNat_natCast])
      have hS := ownN_lt fs s (l.take k) 0 (by omega) (fun m hm => by
        have := HV.out m (List.mem_of_mem_take hm)
        unfold markB at this
        simp [inB] at this
        omega)
      obtain ⟨S, hSe⟩ : ∃ S, ownN fs s (l.take k) = S := ⟨_, rfl⟩
      have hS' : S < 2 ^ 41 := by rw [← hSe]; exact hS
      have hor : bits BinOp.or IntKind.u64 (S : Int) ((2 : Int) ^ on) = ((S ||| 2 ^ on : Nat) : Int) := by
        have e : ((2 ^ on : Nat) : Int) = (2 : Int) ^ on := by push_cast; rfl
        have h2 : (2 : Nat) ^ on < 2 ^ 41 := Nat.pow_lt_pow_right (by omega) (by omega)
        rw [← e]
        exact bits_or_u64_nat S (2 ^ on) (by omega) (by omega)
      have HSe := Lib.hid hSe
      rw [hSe]
      rw [hon] at c0
      have kr := HKR.out.trans ((Kept.refl wr).alloc (.cells #[.int .i64 (on : Int), .int .i64 x.frm, .int .i64 x.unt, .int .u8 x.sg.s0, .int .u8 x.sg.s1, .int .u8 x.sg.s2, .int .u8 x.sg.s3, .int .u8 x.sg.s4, .int .u8 x.sg.s5] 32))
      have HRG := Lib.hid (show (wr.alloc (.cells #[.int .i64 (on : Int), .int .i64 x.frm, .int .i64 x.unt, .int .u8 x.sg.s0, .int .u8 x.sg.s1, .int .u8 x.sg.s2, .int .u8 x.sg.s3, .int .u8 x.sg.s4, .int .u8 x.sg.s5] 32)).rangeAt w.heap.size 1 (lkL (lkX fs)) from fun j v hv => by
        have := (HR1.out.kept kr (1 + j) v (by rw [Nat.add_comm]; simpa using hv)).1
        exact this)
      have s0 := (HR2.out.kept HKR.out 0 _ rfl).1
      have s1 := (HR2.out.kept HKR.out 1 _ rfl).1
      have s2 := (HR2.out.kept HKR.out 2 _ rfl).1
      have s3 := (HR2.out.kept HKR.out 3 _ rfl).1
      have s4 := (HR2.out.kept HKR.out 4 _ rfl).1
      have s5 := (HR2.out.kept HKR.out 5 _ rfl).1
      have ls := cell_lt s0
      have KR := Lib.hid kr
      clear hx hxm hok hmb hcl ht hcc hq hon hS hSe hS' kr ho1 ho2
      go_wp2_with (refine wpList_load_mid rfl 120 (.tmp 15) rfl w.heap.size 1 rfl (lkL (lkX fs)) _ HRG.out Tryz.underlying120 rfl (by rw [hi]; simp [lkL_len]) ?_)
      refine (H157.out _).mono ?_
      rintro e w1 ⟨rfl, hk1⟩
      have K1 := Lib.hid (KR.out.trans hk1)
      cases q
      · clear hk1
        go_wp2
        go_roundw
        case rel => exact ⟨k + 1, by omega, by go_num, by rw [HT.out, HSe.out]; rfl, K1.out⟩
        case measure => simp [intOf]; omega
      · have r7 := (RowC.new wr [.int .i64 (on : Int), .int .i64 x.frm, .int .i64 x.unt, .int .u8 x.sg.s0, .int .u8 x.sg.s1, .int .u8 x.sg.s2, .int .u8 x.sg.s3, .int .u8 x.sg.s4, .int .u8 x.sg.s5] 32).kept hk1
        have d0 := (r7 0 _ rfl).1
        have ld := cell_lt d0
        clear hk1 r7
        go_wp2_with fail
        refine (just_any on (by omega) _).mono ?_
        rintro e w2 ⟨rfl, rfl⟩
        go_wp2
        go_roundw
        case rel => exact ⟨k + 1, by omega, by go_num, by rw [HT.out, HSe.out]; rfl, K1.out⟩
        case measure => simp [intOf]; omega
    · obtain rfl : k = n := by omega
      have hT : l.take k = l := List.take_of_length_le (by rw [HL.out.1]; exact Nat.le_refl _)
      rw [hT]
      clear hT
      go_wp2
      go_ret
      exact ⟨rfl, HK.out.trans HKR.out⟩
end Go.Proofs.YtologmoanaccpaaGreatDoor

namespace Go.Proofs.YtologmoanaccpaaGreatDoor
set_option linter.all false
open Go Go.RowKit Go.Shelf Go.Proofs

theorem built122 (A : Option Addr) (n c : Nat) (F : Nat → Nat) : Tryz.prog.built 122 [(0, .slice A n c), (1, .agg (lkL F).toArray)] = some (Value.slice A n c :: lkL F).toArray := by kernel_rfl
theorem take_at {P : Program} {ops : Array Oper} {Q : Exit → Act → World → Prop} {md : Region.Mode} {S : World → Prop} {i : Nat} {oi : Oper} {d : Option Tmp} {v : Value} {fuel : Nat} {listed : Array Bool} {a : Act} {w : World} (hi : ops[i]? = some oi) (hd : oi.dst = d)
    (hs : Region.noSelect ops = true) (hf : Region.free md ops listed i = true) (hr : (Region.ready md ops listed).contains i = true)
    (hQ : ∀ c a w, Q (.panic c) (a.put oi.dst v) w → Q (.panic c) a w) (hy : YieldsIf P ops S oi v a) (hS : S w)
    (h : wpAnyH P md ops Q S fuel (listed.setIfInBounds i true) (a.put d v) w) : wpAnyH P md ops Q S (fuel + 1) listed a w := by
  subst hd
  exact wpAnyH_take hi hs hf hr hQ hy hS h
theorem yieldsIf_build {P : Program} {ops : Array Oper} {S : World → Prop} {op : Oper} {a : Act} (hw : Region.wanted op (yielded ops a.tmps) = true) (t : TypeId) (parts : Array (Nat × Operand)) (ho : op.op = .build t parts) (r : Array Value) (pv : List (Nat × Value)) (hpv : (parts.map fun (i, x) => (i, a.eval x)).toList = pv)
    (hf : P.built t pv = some r) : YieldsIf P ops S op (.agg r) a :=
  .inl ⟨hw, fun w hw' => by
    unfold execOp
    simp only [ho, Sem.run_bind, run_build w t _ r (by rw [hpv]; exact hf), Result.andThen_ok]
    rfl⟩
def VwP (w : World) (ms : List Mk) (fs : List Fd) (day : Int) (e : Ending) (w' : World) : Prop :=
  ∃ A c l, e = .returned (vwV A l.length c fs) ∧ l.Perm (frcL ms day) ∧ l.Pairwise (fun a b => a.own ≤ b.own) ∧ SlA mkC 9 Mk.ok w' A l.length c l ∧ Kept w w'
def zero31 : List Value := .slice none 0 0 :: lkL (fun _ => 0)
set_option maxRecDepth 100000 in
set_option maxHeartbeats 6400000 in
theorem viewOf_any (A B : Option Addr) (n c m d : Nat) (ms : List Mk) (fs : List Fd) (day : Int) (w : World) (hs : SmA w A n c ms B m d fs) (hn : n ≤ 1000) (hv : ∀ m ∈ ms, markB m = true) (hf : ∀ f ∈ fs, fadeB f = true) :
    Calls Tryz.prog 90 #[.agg #[.slice A n c, .slice B m d], .int .i64 day] w (VwP w ms fs day) := by
  have hi : (Tryz.prog.info? 122).map (·.size) = some 31 := by kernel_rfl
  obtain ⟨W1, hW1⟩ : ∃ W1, W1 = w.alloc (.cells #[.slice A n c, .slice B m d] 25) := ⟨_, rfl⟩
  obtain ⟨W2, hW2⟩ : ∃ W2, W2 = W1.alloc (.cells zero31.toArray 122) := ⟨_, rfl⟩
  have z1 : W1.heap.size = w.heap.size + 1 := by rw [hW1]; simp
  have k12 : Kept W1 W2 := by rw [hW2]; exact (Kept.refl _).alloc _
  have HR1 := Lib.hid (show RowC W2 w.heap.size [.slice A n c, .slice B m d] by
    have h0 : RowC W1 w.heap.size [.slice A n c, .slice B m d] := by rw [hW1]; exact RowC.new w _ 25
    exact h0.kept k12)
  have HB := Lib.hid (show W2.heap[w.heap.size + 1]? = some (.cells zero31.toArray 122 (0, 0)) by rw [hW2, ← z1]; exact heap_alloc_new W1 _)
  have HK := Lib.hid (show Kept w W2 by rw [hW2, hW1]; exact ((Kept.refl _).alloc _).alloc _)
  have zz : zero31 = [.slice none 0 0, .int .u8 0, .int .u8 0, .int .u8 0, .int .u8 0, .int .u8 0, .int .u8 0, .int .u8 0, .int .u8 0, .int .u8 0, .int .u8 0, .int .u8 0, .int .u8 0, .int .u8 0, .int .u8 0, .int .u8 0, .int .u8 0, .int .u8 0, .int .u8 0, .int .u8 0, .int .u8 0, .int .u8 0, .int .u8 0, .int .u8 0, .int .u8 0, .int .u8 0, .int .u8 0, .int .u8 0, .int .u8 0, .int .u8 0, .int .u8 0] := rfl
  have HW : RowKit.Hid (W2 = (w.alloc (.cells #[.slice A n c, .slice B m d] 25)).alloc (.cells #[.slice none 0 0, .int .u8 0, .int .u8 0, .int .u8 0, .int .u8 0, .int .u8 0, .int .u8 0, .int .u8 0, .int .u8 0, .int .u8 0, .int .u8 0, .int .u8 0, .int .u8 0, .int .u8 0, .int .u8 0, .int .u8 0, .int .u8 0, .int .u8 0, .int .u8 0, .int .u8 0, .int .u8 0, .int .u8 0, .int .u8 0, .int .u8 0, .int .u8 0, .int .u8 0, .int .u8 0, .int .u8 0, .int .u8 0, .int .u8 0, .int .u8 0] 122)) := Lib.hid (by rw [hW2, hW1, zz])
  have HS := Lib.hid (hs.kept HK.out)
  have hz2 : w.heap.size + 1 < W2.heap.size := by rw [hW2]; simp [z1]
  have H76 : RowKit.Hid (∀ W, Kept W2 W → Calls Tryz.prog 76 #[.agg #[.slice A n c, .slice B m d], .int .i64 day] W (FrcP W ms day)) := Lib.hid (fun W hW => inForce_any A B n c m d ms fs day W (HS.out.kept hW) hn hv)
  have H103 : RowKit.Hid (∀ W, Kept W2 W → Calls Tryz.prog 103 #[.slice B m d] W fun e w' => e = .returned (.agg (lkL (lkX fs)).toArray) ∧ Kept W w') := Lib.hid (fun W hW => looksOf_any B m d fs W (HS.out.2.kept hW) hf)
  have a0 := (HR1.out 0 _ rfl).1
  have a1 := (HR1.out 1 _ rfl).1
  have la := cell_lt a0
  clear hW1 hW2 z1 k12 zz hs hv hf
  go_enter Tryz.func90, Tryz.ntmps90
  go_upto_region 1 with (fail)
  rw [← HW.out]
  refine wp_region_held_drew (S := fun W' => W'.cell? ⟨w.heap.size, 0, none⟩ = some (.slice A n c) ∧ W'.cell? ⟨w.heap.size, 1, none⟩ = some (.slice B m d)) (by kernel_rfl) (⟨a0, a1⟩) (fun hHeld => ?_)
  refine take_at (i := 0) (d := some 5) (v := ?_) rfl rfl (by kernel_rfl) (by kernel_rfl) (by kernel_rfl) (fun _ _ _ h => h) (Or.inl ⟨by rfl, ?_⟩) hHeld ?_
  rotate_left
  · intro w hSw
    try dsimp only at hSw
    go_simp
    try (with_reducible rfl)
  try simp only [Act.put, List.setIfInBounds_toArray, List.set_cons_zero, List.set_cons_succ]
  refine take_at (i := 1) (d := some 6) (v := ?_) rfl rfl (by kernel_rfl) (by kernel_rfl) (by kernel_rfl) (fun _ _ _ h => h) (Or.inl ⟨by rfl, ?_⟩) hHeld ?_
  rotate_left
  · intro w hSw
    try dsimp only at hSw
    go_simp
    try (with_reducible rfl)
  try simp only [Act.put, List.setIfInBounds_toArray, List.set_cons_zero, List.set_cons_succ]
  refine take_at (i := 3) (d := some 8) (v := ?_) rfl rfl (by kernel_rfl) (by kernel_rfl) (by kernel_rfl) (fun _ _ _ h => h) (Or.inl ⟨by rfl, ?_⟩) hHeld ?_
  rotate_left
  · intro w hSw
    try dsimp only at hSw
    go_simp
    try (with_reducible rfl)
  try simp only [Act.put, List.setIfInBounds_toArray, List.set_cons_zero, List.set_cons_succ]
  refine take_at (i := 4) (d := some 9) (v := ?_) rfl rfl (by kernel_rfl) (by kernel_rfl) (by kernel_rfl) (fun _ _ _ h => h) (Or.inl ⟨by rfl, ?_⟩) hHeld ?_
  rotate_left
  · intro w hSw
    try dsimp only at hSw
    go_simp
    try (with_reducible rfl)
  try simp only [Act.put, List.setIfInBounds_toArray, List.set_cons_zero, List.set_cons_succ]
  refine wpAnyH_ready (rs := [2]) (by kernel_rfl) (by simp) ?_
  refine AllReadyH.cons rfl (fun K hK => ?_) AllReadyH.nil
  rw [if_pos (by rfl)]
  go_simp
  refine (H76.out _ ((Kept.refl W2).drew)).mono ?_
  rintro e w5 ⟨A5, c5, l5, rfl, p1, p2, sl5, fr5, hk5⟩
  have FR5 := Lib.hid fr5
  have kk5 : Kept W2 w5 := ((Kept.refl W2).drew).trans hk5
  have HP1 := Lib.hid p1
  have HP2 := Lib.hid p2
  have SL5 := Lib.hid sl5
  have KK5 := Lib.hid kk5
  clear hk5 kk5 p1 p2 sl5 fr5
  go_wp2_with fail
  refine hK.out _ _ (⟨(HR1.out.kept KK5.out 0 _ rfl).1, (HR1.out.kept KK5.out 1 _ rfl).1⟩) (fun hHeld => ?_)
  clear hK K
  try simp only [Act.put, List.setIfInBounds_toArray, List.set_cons_zero, List.set_cons_succ]
  refine wpAnyH_ready (rs := [5]) (by kernel_rfl) (by simp) ?_
  refine AllReadyH.cons rfl (fun K hK => ?_) AllReadyH.nil
  rw [if_pos (by rfl)]
  go_simp
  refine (H103.out _ KK5.out).mono ?_
  rintro e w6 ⟨rfl, hk6⟩
  have KK6 := Lib.hid (KK5.out.trans hk6)
  have HK6 := Lib.hid hk6
  clear hk6
  go_wp2_with fail
  refine hK.out _ _ (⟨(HR1.out.kept KK6.out 0 _ rfl).1, (HR1.out.kept KK6.out 1 _ rfl).1⟩) (fun hHeld => ?_)
  clear hK K
  try simp only [Act.put, List.setIfInBounds_toArray, List.set_cons_zero, List.set_cons_succ]
  refine take_at (i := 6) (d := some 11) (v := .agg (Value.slice A5 l5.length c5 :: lkL (lkX fs)).toArray) rfl rfl (by kernel_rfl) (by kernel_rfl) (by kernel_rfl) (fun _ _ _ h => h) (yieldsIf_build (by rfl) 122 #[(0, .tmp 7), (1, .tmp 10)] rfl (Value.slice A5 l5.length c5 :: lkL (lkX fs)).toArray [(0, .slice A5 l5.length c5), (1, .agg (lkL (lkX fs)).toArray)] (by simp [Act.eval]) (built122 A5 l5.length c5 (lkX fs))) hHeld ?_
  try simp only [Act.put, List.setIfInBounds_toArray, List.set_cons_zero, List.set_cons_succ]
  refine wpAnyH_ready (rs := [7]) (by kernel_rfl) (by simp) ?_
  refine AllReadyH.cons rfl (fun K hK => ?_) AllReadyH.nil
  rw [if_pos (by rfl)]
  refine wp_store_row 122 (.tmp 4) (.tmp 11) rfl (w.heap.size + 1) (Value.slice A5 l5.length c5 :: lkL (lkX fs)).toArray rfl rfl 122 zero31.toArray ((KK6.out.block _ hz2).trans HB.out) (by rw [hi]; simp [lkL_len]) (by simp [zero31, lkL_len]) (by simp [lkL, Value.oneCell']) ?_
  refine hK.out _ _ ⟨?_, ?_⟩ (fun hHeld => ?_)
  · rw [cell_setRow_other _ _ _ _ (by simp)]; exact (HR1.out.kept KK6.out 0 _ rfl).1
  · rw [cell_setRow_other _ _ _ _ (by simp)]; exact (HR1.out.kept KK6.out 1 _ rfl).1
  clear hK K
  try simp only [Act.put, List.setIfInBounds_toArray, List.set_cons_zero, List.set_cons_succ]
  refine wpAnyH_done (by kernel_rfl) ?_ _
  go_wp2
  refine bodyPost_ret (v := vwV A5 l5.length c5 fs) (results_cell_row (fn := Tryz.f90) (p := 4) (ty := 122) rfl _ _ (w.heap.size + 1) 122 (Value.slice A5 l5.length c5 :: lkL (lkX fs)).toArray (0, 0) _ rfl (setRow_heap _ _ _ _ _ _ ((KK6.out.block _ hz2).trans HB.out)) Tryz.underlying122 rfl (by rw [hi]; simp [lkL_len])) rfl ⟨A5, c5, l5, rfl, HP1.out, HP2.out, ?_, ?_⟩
  · have h6 := SL5.out.kept HK6.out
    refine ⟨h6.1, h6.2.1, h6.2.2.1, h6.2.2.2.1, fun hn => ?_⟩
    obtain ⟨b, off, e, ht⟩ := h6.2.2.2.2 hn
    have hb := FR5.out b off none e
    have hz : (W2.drew).heap.size = W2.heap.size := rfl
    refine ⟨b, off, e, fun i x hx j v hv => ?_⟩
    rw [cell_setRow_other _ _ _ _ (by simp; omega)]
    exact ht i x hx j v hv
  · exact (HK.out.trans KK6.out).setRow (by omega) _
end Go.Proofs.YtologmoanaccpaaGreatDoor

namespace Go.Proofs.YtologmoanaccpaaGreatDoor
set_option linter.all false
open Go.RowKit Go.Shelf

theorem and_u8 (a b : Nat) (ha : a < 256) (hb : b < 256) : bits BinOp.and IntKind.u8 (a : Int) (b : Int) = ((a &&& b : Nat) : Int) :=
  (bits_nat .u8 8 (by decide) (fun n h0 h1 => u8_wrap_id h0 (by simpa using h1)) a b (by omega) (by omega)).1
def bothN (fs : List Fd) (k g h : Nat) : Nat := lkX fs (k * 5 + g) &&& lkX fs (k * 5 + h)
set_option maxRecDepth 100000 in
set_option maxHeartbeats 3200000 in
theorem both_any (fs : List Fd) (k g h : Nat) (hf : ∀ f ∈ fs, f.seen ≤ 4) (hk : k < 6) (hg : g ≤ 4) (hh : h ≤ 4) (w : World) :
    Calls Tryz.prog 163 #[lkV fs, .int .i64 (k : Int), .int .u8 (g : Int), .int .u8 (h : Int)] w fun e w' => e = .returned (.int .u8 ((bothN fs k g h : Nat) : Int)) ∧ Kept w w' := by
  obtain ⟨W1, hW1⟩ : ∃ W1, W1 = w.alloc (.cells (lkL (lkX fs)).toArray 120) := ⟨_, rfl⟩
  have HB := Lib.hid (show BlkF W1 w.heap.size (lkX fs) by rw [hW1]; exact heap_alloc_new w _)
  have HK := Lib.hid (show Kept w W1 by rw [hW1]; exact (Kept.refl w).alloc _)
  have HW := Lib.hid hW1
  have q1 := (HB.out.cell (i := k * 5 + g) (by omega)).1
  have q2 := (HB.out.cell (i := k * 5 + h) (by omega)).1
  have lb := HB.out.lt
  have l1 := lkX_lt hf (k * 5 + g)
  have l2 := lkX_lt hf (k * 5 + h)
  obtain ⟨U, hU⟩ : ∃ U, lkX fs (k * 5 + g) = U := ⟨_, rfl⟩
  obtain ⟨V, hV⟩ : ∃ V, lkX fs (k * 5 + h) = V := ⟨_, rfl⟩
  have HR : RowKit.Hid (bothN fs k g h = U &&& V) := Lib.hid (by unfold bothN; rw [hU, hV])
  rw [hU] at q1 l1
  rw [hV] at q2 l2
  have hand := and_u8 U V (by omega) (by omega)
  have hk0 : (0 : Int) ≤ (k : Int) := by omega
  have hk1 : (k : Int) < 6 := by omega
  have hg1 : (g : Int) < 5 := by omega
  have hh1 : (h : Int) < 5 := by omega
  obtain ⟨R, hR⟩ : ∃ R, R = U &&& V := ⟨_, rfl⟩
  rw [← hR] at hand HR
  unfold lkV
  clear hW1 hU hV hR l1 l2 hf
  go_enter Tryz.func163, Tryz.ntmps163
  go_upto_region 1 with (fail)
  rw [← HW.out]
  go_quiet (fail)
  go_wp2
  go_ret
  exact ⟨by rw [HR.out]; rfl, by first | exact HK.out | exact HK.out.drew | exact HK.out.drewN _ | exact HK.out.trans (Kept.of_quiet (by assumption))⟩
def apB (fs : List Fd) (a c : Sg) (k : Nat) : Bool := bothN fs k (a.l.getD k 0).toNat (c.l.getD k 0).toNat == 0
def apK (fs : List Fd) (a c : Sg) (n : Nat) : Nat := ((List.range n).filter (apB fs a c)).length
theorem apK_succ (fs : List Fd) (a c : Sg) (n : Nat) : apK fs a c (n + 1) = if apB fs a c n = true then apK fs a c n + 1 else apK fs a c n := by
  unfold apK
  rw [List.range_succ, List.filter_append, List.length_append]
  by_cases h : apB fs a c n = true
  · simp [h]
  · simp [h]
theorem apK_le (fs : List Fd) (a c : Sg) (n : Nat) : apK fs a c n ≤ n := by unfold apK; exact Nat.le_trans (List.length_filter_le _ _) (by simp)
theorem clear4 {s : Sg} (h : clearB s = true) : ∀ x ∈ s.l, x ≤ 4 := fun x hx => by
  unfold clearB at h
  simpa using List.all_eq_true.1 h x hx
set_option maxRecDepth 100000 in
set_option maxHeartbeats 3200000 in
theorem apart_any (fs : List Fd) (a c : Sg) (hf : ∀ f ∈ fs, f.seen ≤ 4) (ha : a.ok) (hc : c.ok) (hac : clearB a = true) (hcc : clearB c = true) (w : World) :
    Calls Tryz.prog 101 #[lkV fs, .agg #[.int .u8 a.s0, .int .u8 a.s1, .int .u8 a.s2, .int .u8 a.s3, .int .u8 a.s4, .int .u8 a.s5], .agg #[.int .u8 c.s0, .int .u8 c.s1, .int .u8 c.s2, .int .u8 c.s3, .int .u8 c.s4, .int .u8 c.s5]] w fun e w' => e = .returned (.int .i64 ((apK fs a c 6 : Nat) : Int)) ∧ Kept w w' := by
  have hi : (Tryz.prog.info? 120).map (·.size) = some 30 := by kernel_rfl
  obtain ⟨W1, hW1⟩ : ∃ W1, W1 = w.alloc (.cells (lkL (lkX fs)).toArray 120) := ⟨_, rfl⟩
  obtain ⟨W2, hW2⟩ : ∃ W2, W2 = W1.alloc (.cells #[.int .u8 a.s0, .int .u8 a.s1, .int .u8 a.s2, .int .u8 a.s3, .int .u8 a.s4, .int .u8 a.s5] 30) := ⟨_, rfl⟩
  obtain ⟨W3, hW3⟩ : ∃ W3, W3 = W2.alloc (.cells #[.int .u8 c.s0, .int .u8 c.s1, .int .u8 c.s2, .int .u8 c.s3, .int .u8 c.s4, .int .u8 c.s5] 30) := ⟨_, rfl⟩
  have z1 : W1.heap.size = w.heap.size + 1 := by rw [hW1]; simp
  have z2 : W2.heap.size = w.heap.size + 1 + 1 := by rw [hW2]; simp [z1]
  have k23 : Kept W2 W3 := by rw [hW3]; exact (Kept.refl _).alloc _
  have k13 : Kept W1 W3 := by rw [hW3, hW2]; exact ((Kept.refl _).alloc _).alloc _
  have HB := Lib.hid (show BlkF W3 w.heap.size (lkX fs) by
    have h0 : BlkF W1 w.heap.size (lkX fs) := by rw [hW1]; exact heap_alloc_new w _
    exact h0.kept k13)
  have HR1 := Lib.hid (show RowC W3 (w.heap.size + 1) (sgV a) by rw [← z1]; have h := RowC.new W1 (sgV a) 30; rw [show W1.alloc (.cells (sgV a).toArray 30) = W2 from hW2.symm] at h; exact h.kept k23)
  have HR2 := Lib.hid (show RowC W3 (w.heap.size + 1 + 1) (sgV c) by rw [hW3, ← z2]; exact RowC.new W2 (sgV c) 30)
  have HK := Lib.hid (show Kept w W3 by rw [hW3, hW2, hW1]; exact (((Kept.refl _).alloc _).alloc _).alloc _)
  have HW : RowKit.Hid (W3 = ((w.alloc (.cells (lkL (lkX fs)).toArray 120)).alloc (.cells #[.int .u8 a.s0, .int .u8 a.s1, .int .u8 a.s2, .int .u8 a.s3, .int .u8 a.s4, .int .u8 a.s5] 30)).alloc (.cells #[.int .u8 c.s0, .int .u8 c.s1, .int .u8 c.s2, .int .u8 c.s3, .int .u8 c.s4, .int .u8 c.s5] 30)) := Lib.hid (by rw [hW3, hW2, hW1])
  have HA := Lib.hid (Sg.ok_l ha)
  have HC := Lib.hid (Sg.ok_l hc)
  have HA4 := Lib.hid (clear4 hac)
  have HC4 := Lib.hid (clear4 hcc)
  have HF := Lib.hid hf
  have HRG : RowKit.Hid (∀ W, Kept W3 W → W.rangeAt w.heap.size 0 (lkL (lkX fs))) := Lib.hid (fun W hW j v hv => by
    rw [Nat.zero_add, cell_of_row _ _ _ _ _ _ (HB.out.kept hW)]
    simpa using hv)
  unfold lkV
  clear hW1 hW2 hW3 z1 z2 k13 k23 ha hc hf hac hcc
  go_enter Tryz.func101, Tryz.ntmps101
  go_upto_region 1 with (fail)
  rw [← HW.out]
  go_wp2_with fail
  go_loopw [7, 9] (fun v i wr => ∃ k : Nat, k ≤ 6 ∧ i = .int .i64 k ∧ v = .int .i64 ((apK fs a c k : Nat) : Int) ∧ Kept W3 wr) (fun _ i _ => 6 - (intOf i).toNat)
  case atStart => exact ⟨0, by omega, by first | rfl | go_num, by first | rfl | go_num, Kept.refl _⟩
  case round =>
    obtain ⟨k, hk, rfl, rfl, hkr⟩ := hrel
    have HKR := Lib.hid hkr
    clear hkr
    by_cases hlt : k < 6
    · obtain ⟨x, hx⟩ : ∃ x, a.l[k]? = some x := ⟨_, List.getElem?_eq_getElem (by simpa [Sg.l] using hlt)⟩
      obtain ⟨y, hy⟩ : ∃ y, c.l[k]? = some y := ⟨_, List.getElem?_eq_getElem (by simpa [Sg.l] using hlt)⟩
      have hx0 := HA.out x (List.mem_of_getElem? hx)
      have hy0 := HC.out y (List.mem_of_getElem? hy)
      have hx4 := HA4.out x (List.mem_of_getElem? hx)
      have hy4 := HC4.out y (List.mem_of_getElem? hy)
      obtain ⟨hx0, _⟩ := hx0
      obtain ⟨hy0, _⟩ := hy0
      obtain ⟨x, rfl⟩ : ∃ n : Nat, x = (n : Int) := ⟨x.toNat, by omega⟩
      obtain ⟨y, rfl⟩ : ∃ n : Nat, y = (n : Int) := ⟨y.toNat, by omega⟩
      have HBO := Lib.hid (both_any fs k x y HF.out hlt (by omega) (by omega))
      have SB : RowKit.Hid (∀ W, Kept W3 W → W.rangeAt w.heap.size 0 (lkL (lkX fs)) ∧ W.cell? ⟨w.heap.size + 1, k, none⟩ = some (.int .u8 (x : Int)) ∧ W.cell? ⟨w.heap.size + 1 + 1, k, none⟩ = some (.int .u8 (y : Int))) := Lib.hid (fun W hW => ⟨HRG.out W hW, (HR1.out.kept hW k _ (sgV_at hx)).1, (HR2.out.kept hW k _ (sgV_at hy)).1⟩)
      obtain ⟨N, hN⟩ : ∃ N, bothN fs k x y = N := ⟨_, rfl⟩
      have HAP : RowKit.Hid (apB fs a c k = (N == 0)) := Lib.hid (by
        unfold apB
        rw [List.getD_eq_getElem?_getD, List.getD_eq_getElem?_getD, hx, hy, ← hN]
        simp)
      rw [hN] at HBO
      have hle := apK_le fs a c k
      have HSU := Lib.hid (apK_succ fs a c k)
      generalize apK fs a c k = M at hle HSU
      have hk0 : (0 : Int) ≤ (k : Int) := by omega
      have hk1 : (k : Int) < 6 := by omega
      clear hx hy hN hx0 hy0 hx4 hy4
      go_upto_region 5 with (fail)
      refine wp_region_held_drew (S := fun W' => W'.rangeAt w.heap.size 0 (lkL (lkX fs)) ∧ W'.cell? ⟨w.heap.size + 1, k, none⟩ = some (.int .u8 (x : Int)) ∧ W'.cell? ⟨w.heap.size + 1 + 1, k, none⟩ = some (.int .u8 (y : Int))) (by kernel_rfl) (SB.out _ (HKR.out.drew)) (fun hHeld => ?_)
      refine take_at (i := 0) (d := some 12) (v := .agg (lkL (lkX fs)).toArray) rfl rfl (by kernel_rfl) (by kernel_rfl) (by kernel_rfl) (fun _ _ _ h => h) (yieldsIf_load_mid (by rfl) 120 (.tmp 3) rfl w.heap.size 0 rfl (lkL (lkX fs)) _ (fun W hW => hW.1) Tryz.underlying120 rfl (by rw [hi]; simp [lkL_len])) hHeld ?_
      try simp only [Act.put, List.setIfInBounds_toArray, List.set_cons_zero, List.set_cons_succ]
      refine take_at (i := 1) (d := some 13) (v := ?_) rfl rfl (by kernel_rfl) (by kernel_rfl) (by kernel_rfl) (fun _ _ _ h => h) (Or.inl ⟨by rfl, ?_⟩) hHeld ?_
      rotate_left
      · intro w hSw
        try dsimp only at hSw
        go_simp
        try (with_reducible rfl)
      try simp only [Act.put, List.setIfInBounds_toArray, List.set_cons_zero, List.set_cons_succ]
      refine take_at (i := 2) (d := some 14) (v := ?_) rfl rfl (by kernel_rfl) (by kernel_rfl) (by kernel_rfl) (fun _ _ _ h => h) (Or.inl ⟨by rfl, ?_⟩) hHeld ?_
      rotate_left
      · intro w hSw
        try dsimp only at hSw
        go_simp
        try (with_reducible rfl)
      try simp only [Act.put, List.setIfInBounds_toArray, List.set_cons_zero, List.set_cons_succ]
      refine take_at (i := 3) (d := some 15) (v := ?_) rfl rfl (by kernel_rfl) (by kernel_rfl) (by kernel_rfl) (fun _ _ _ h => h) (Or.inl ⟨by rfl, ?_⟩) hHeld ?_
      rotate_left
      · intro w hSw
        try dsimp only at hSw
        go_simp
        try (with_reducible rfl)
      try simp only [Act.put, List.setIfInBounds_toArray, List.set_cons_zero, List.set_cons_succ]
      refine take_at (i := 4) (d := some 16) (v := ?_) rfl rfl (by kernel_rfl) (by kernel_rfl) (by kernel_rfl) (fun _ _ _ h => h) (Or.inl ⟨by rfl, ?_⟩) hHeld ?_
      rotate_left
      · intro w hSw
        try dsimp only at hSw
        go_simp
        try (with_reducible rfl)
      try simp only [Act.put, List.setIfInBounds_toArray, List.set_cons_zero, List.set_cons_succ]
      refine take_at (i := 5) (d := some 17) (v := ?_) rfl rfl (by kernel_rfl) (by kernel_rfl) (by kernel_rfl) (fun _ _ _ h => h) (Or.inl ⟨by rfl, ?_⟩) hHeld ?_
      rotate_left
      · intro w hSw
        try dsimp only at hSw
        go_simp
        try (with_reducible rfl)
      try simp only [Act.put, List.setIfInBounds_toArray, List.set_cons_zero, List.set_cons_succ]
      refine take_at (i := 6) (d := some 18) (v := ?_) rfl rfl (by kernel_rfl) (by kernel_rfl) (by kernel_rfl) (fun _ _ _ h => h) (Or.inl ⟨by rfl, ?_⟩) hHeld ?_
      rotate_left
      · intro w hSw
        try dsimp only at hSw
        go_simp
        try (with_reducible rfl)
      try simp only [Act.put, List.setIfInBounds_toArray, List.set_cons_zero, List.set_cons_succ]
      refine take_at (i := 7) (d := some 19) (v := ?_) rfl rfl (by kernel_rfl) (by kernel_rfl) (by kernel_rfl) (fun _ _ _ h => h) (Or.inl ⟨by rfl, ?_⟩) hHeld ?_
      rotate_left
      · intro w hSw
        try dsimp only at hSw
        go_simp
        try (with_reducible rfl)
      try simp only [Act.put, List.setIfInBounds_toArray, List.set_cons_zero, List.set_cons_succ]
      refine wpAnyH_ready (rs := [8]) (by kernel_rfl) (by simp) ?_
      refine AllReadyH.cons rfl (fun K hK => ?_) AllReadyH.nil
      rw [if_pos (by rfl)]
      go_simp
      refine (HBO.out _).mono ?_
      rintro e w5 ⟨rfl, hk5⟩
      have HK5 := Lib.hid (HKR.out.drew.trans hk5)
      clear hk5
      go_wp2_with fail
      refine hK.out _ _ (SB.out _ HK5.out) (fun hHeld => ?_)
      clear hK K
      try simp only [Act.put, List.setIfInBounds_toArray, List.set_cons_zero, List.set_cons_succ]
      refine take_at (i := 9) (d := some 21) (v := ?_) rfl rfl (by kernel_rfl) (by kernel_rfl) (by kernel_rfl) (fun _ _ _ h => h) (Or.inl ⟨by rfl, ?_⟩) hHeld ?_
      rotate_left
      · intro w hSw
        try dsimp only at hSw
        go_simp
        try (with_reducible rfl)
      try simp only [Act.put, List.setIfInBounds_toArray, List.set_cons_zero, List.set_cons_succ]
      refine wpAnyH_done (by kernel_rfl) ?_ _
      by_cases hz : N = 0
      · subst hz
        go_wp2
        go_roundw
        case rel => exact ⟨k + 1, by omega, by go_num, by rw [HSU.out, HAP.out, if_pos (by simp)]; go_num, HK5.out⟩
        case measure => simp [intOf]; omega
      · have hz2 : ((N : Int) == 0) = false := by simp; omega
        go_wp2
        go_roundw
        case rel => exact ⟨k + 1, by omega, by go_num, by rw [HSU.out, HAP.out, if_neg (by simp; omega)], HK5.out⟩
        case measure => simp [intOf]; omega
    · obtain rfl : k = 6 := by omega
      go_wp2
      go_ret
      exact ⟨rfl, HK.out.trans HKR.out⟩
end Go.Proofs.YtologmoanaccpaaGreatDoor

namespace Go.Proofs.YtologmoanaccpaaGreatDoor
set_option linter.all false
open Go.RowKit Go.Shelf

def VwP2 (w : World) (ms : List Mk) (fs : List Fd) (day : Int) (e : Ending) (w' : World) : Prop :=
  ∃ A c l, e = .returned (vwV A l.length c fs) ∧ l.Perm (frcL ms day) ∧ l.Pairwise (fun a b => a.own ≤ b.own) ∧ SlA mkC 9 Mk.ok w' A l.length c l ∧ (∀ b o s, A = some ⟨b, o, s⟩ → w.heap.size ≤ b) ∧ Kept w w'
set_option maxRecDepth 100000 in
set_option maxHeartbeats 6400000 in
theorem viewOf2_any (A B : Option Addr) (n c m d : Nat) (ms : List Mk) (fs : List Fd) (day : Int) (w : World) (hs : SmA w A n c ms B m d fs) (hn : n ≤ 1000) (hv : ∀ m ∈ ms, markB m = true) (hf : ∀ f ∈ fs, fadeB f = true) :
    Calls Tryz.prog 90 #[.agg #[.slice A n c, .slice B m d], .int .i64 day] w (VwP2 w ms fs day) := by
  have hi : (Tryz.prog.info? 122).map (·.size) = some 31 := by kernel_rfl
  obtain ⟨W1, hW1⟩ : ∃ W1, W1 = w.alloc (.cells #[.slice A n c, .slice B m d] 25) := ⟨_, rfl⟩
  obtain ⟨W2, hW2⟩ : ∃ W2, W2 = W1.alloc (.cells zero31.toArray 122) := ⟨_, rfl⟩
  have z1 : W1.heap.size = w.heap.size + 1 := by rw [hW1]; simp
  have k12 : Kept W1 W2 := by rw [hW2]; exact (Kept.refl _).alloc _
  have HR1 := Lib.hid (show RowC W2 w.heap.size [.slice A n c, .slice B m d] by
    have h0 : RowC W1 w.heap.size [.slice A n c, .slice B m d] := by rw [hW1]; exact RowC.new w _ 25
    exact h0.kept k12)
  have HB := Lib.hid (show W2.heap[w.heap.size + 1]? = some (.cells zero31.toArray 122 (0, 0)) by rw [hW2, ← z1]; exact heap_alloc_new W1 _)
  have HK := Lib.hid (show Kept w W2 by rw [hW2, hW1]; exact ((Kept.refl _).alloc _).alloc _)
  have zz : zero31 = [.slice none 0 0, .int .u8 0, .int .u8 0, .int .u8 0, .int .u8 0, .int .u8 0, .int .u8 0, .int .u8 0, .int .u8 0, .int .u8 0, .int .u8 0, .int .u8 0, .int .u8 0, .int .u8 0, .int .u8 0, .int .u8 0, .int .u8 0, .int .u8 0, .int .u8 0, .int .u8 0, .int .u8 0, .int .u8 0, .int .u8 0, .int .u8 0, .int .u8 0, .int .u8 0, .int .u8 0, .int .u8 0, .int .u8 0, .int .u8 0, .int .u8 0] := rfl
  have HW : RowKit.Hid (W2 = (w.alloc (.cells #[.slice A n c, .slice B m d] 25)).alloc (.cells #[.slice none 0 0, .int .u8 0, .int .u8 0, .int .u8 0, .int .u8 0, .int .u8 0, .int .u8 0, .int .u8 0, .int .u8 0, .int .u8 0, .int .u8 0, .int .u8 0, .int .u8 0, .int .u8 0, .int .u8 0, .int .u8 0, .int .u8 0, .int .u8 0, .int .u8 0, .int .u8 0, .int .u8 0, .int .u8 0, .int .u8 0, .int .u8 0, .int .u8 0, .int .u8 0, .int .u8 0, .int .u8 0, .int .u8 0, .int .u8 0, .int .u8 0] 122)) := Lib.hid (by rw [hW2, hW1, zz])
  have HS := Lib.hid (hs.kept HK.out)
  have hz2 : w.heap.size + 1 < W2.heap.size := by rw [hW2]; simp [z1]
  have H76 : RowKit.Hid (∀ W, Kept W2 W → Calls Tryz.prog 76 #[.agg #[.slice A n c, .slice B m d], .int .i64 day] W (FrcP W ms day)) := Lib.hid (fun W hW => inForce_any A B n c m d ms fs day W (HS.out.kept hW) hn hv)
  have H103 : RowKit.Hid (∀ W, Kept W2 W → Calls Tryz.prog 103 #[.slice B m d] W fun e w' => e = .returned (.agg (lkL (lkX fs)).toArray) ∧ Kept W w') := Lib.hid (fun W hW => looksOf_any B m d fs W (HS.out.2.kept hW) hf)
  have a0 := (HR1.out 0 _ rfl).1
  have a1 := (HR1.out 1 _ rfl).1
  have la := cell_lt a0
  clear hW1 hW2 z1 k12 zz hs hv hf
  go_enter Tryz.func90, Tryz.ntmps90
  go_upto_region 1 with (fail)
  rw [← HW.out]
  refine wp_region_held_drew (S := fun W' => W'.cell? ⟨w.heap.size, 0, none⟩ = some (.slice A n c) ∧ W'.cell? ⟨w.heap.size, 1, none⟩ = some (.slice B m d)) (by kernel_rfl) (⟨a0, a1⟩) (fun hHeld => ?_)
  refine take_at (i := 0) (d := some 5) (v := ?_) rfl rfl (by kernel_rfl) (by kernel_rfl) (by kernel_rfl) (fun _ _ _ h => h) (Or.inl ⟨by rfl, ?_⟩) hHeld ?_
  rotate_left
  · intro w hSw
    try dsimp only at hSw
    go_simp
    try (with_reducible rfl)
  try simp only [Act.put, List.setIfInBounds_toArray, List.set_cons_zero, List.set_cons_succ]
  refine take_at (i := 1) (d := some 6) (v := ?_) rfl rfl (by kernel_rfl) (by kernel_rfl) (by kernel_rfl) (fun _ _ _ h => h) (Or.inl ⟨by rfl, ?_⟩) hHeld ?_
  rotate_left
  · intro w hSw
    try dsimp only at hSw
    go_simp
    try (with_reducible rfl)
  try simp only [Act.put, List.setIfInBounds_toArray, List.set_cons_zero, List.set_cons_succ]
  refine take_at (i := 3) (d := some 8) (v := ?_) rfl rfl (by kernel_rfl) (by kernel_rfl) (by kernel_rfl) (fun _ _ _ h => h) (Or.inl ⟨by rfl, ?_⟩) hHeld ?_
  rotate_left
  · intro w hSw
    try dsimp only at hSw
    go_simp
    try (with_reducible rfl)
  try simp only [Act.put, List.setIfInBounds_toArray, List.set_cons_zero, List.set_cons_succ]
  refine take_at (i := 4) (d := some 9) (v := ?_) rfl rfl (by kernel_rfl) (by kernel_rfl) (by kernel_rfl) (fun _ _ _ h => h) (Or.inl ⟨by rfl, ?_⟩) hHeld ?_
  rotate_left
  · intro w hSw
    try dsimp only at hSw
    go_simp
    try (with_reducible rfl)
  try simp only [Act.put, List.setIfInBounds_toArray, List.set_cons_zero, List.set_cons_succ]
  refine wpAnyH_ready (rs := [2]) (by kernel_rfl) (by simp) ?_
  refine AllReadyH.cons rfl (fun K hK => ?_) AllReadyH.nil
  rw [if_pos (by rfl)]
  go_simp
  refine (H76.out _ ((Kept.refl W2).drew)).mono ?_
  rintro e w5 ⟨A5, c5, l5, rfl, p1, p2, sl5, fr5, hk5⟩
  have FR5 := Lib.hid fr5
  have kk5 : Kept W2 w5 := ((Kept.refl W2).drew).trans hk5
  have HP1 := Lib.hid p1
  have HP2 := Lib.hid p2
  have SL5 := Lib.hid sl5
  have KK5 := Lib.hid kk5
  clear hk5 kk5 p1 p2 sl5 fr5
  go_wp2_with fail
  refine hK.out _ _ (⟨(HR1.out.kept KK5.out 0 _ rfl).1, (HR1.out.kept KK5.out 1 _ rfl).1⟩) (fun hHeld => ?_)
  clear hK K
  try simp only [Act.put, List.setIfInBounds_toArray, List.set_cons_zero, List.set_cons_succ]
  refine wpAnyH_ready (rs := [5]) (by kernel_rfl) (by simp) ?_
  refine AllReadyH.cons rfl (fun K hK => ?_) AllReadyH.nil
  rw [if_pos (by rfl)]
  go_simp
  refine (H103.out _ KK5.out).mono ?_
  rintro e w6 ⟨rfl, hk6⟩
  have KK6 := Lib.hid (KK5.out.trans hk6)
  have HK6 := Lib.hid hk6
  clear hk6
  go_wp2_with fail
  refine hK.out _ _ (⟨(HR1.out.kept KK6.out 0 _ rfl).1, (HR1.out.kept KK6.out 1 _ rfl).1⟩) (fun hHeld => ?_)
  clear hK K
  try simp only [Act.put, List.setIfInBounds_toArray, List.set_cons_zero, List.set_cons_succ]
  refine take_at (i := 6) (d := some 11) (v := .agg (Value.slice A5 l5.length c5 :: lkL (lkX fs)).toArray) rfl rfl (by kernel_rfl) (by kernel_rfl) (by kernel_rfl) (fun _ _ _ h => h) (yieldsIf_build (by rfl) 122 #[(0, .tmp 7), (1, .tmp 10)] rfl (Value.slice A5 l5.length c5 :: lkL (lkX fs)).toArray [(0, .slice A5 l5.length c5), (1, .agg (lkL (lkX fs)).toArray)] (by simp [Act.eval]) (built122 A5 l5.length c5 (lkX fs))) hHeld ?_
  try simp only [Act.put, List.setIfInBounds_toArray, List.set_cons_zero, List.set_cons_succ]
  refine wpAnyH_ready (rs := [7]) (by kernel_rfl) (by simp) ?_
  refine AllReadyH.cons rfl (fun K hK => ?_) AllReadyH.nil
  rw [if_pos (by rfl)]
  refine wp_store_row 122 (.tmp 4) (.tmp 11) rfl (w.heap.size + 1) (Value.slice A5 l5.length c5 :: lkL (lkX fs)).toArray rfl rfl 122 zero31.toArray ((KK6.out.block _ hz2).trans HB.out) (by rw [hi]; simp [lkL_len]) (by simp [zero31, lkL_len]) (by simp [lkL, Value.oneCell']) ?_
  refine hK.out _ _ ⟨?_, ?_⟩ (fun hHeld => ?_)
  · rw [cell_setRow_other _ _ _ _ (by simp)]; exact (HR1.out.kept KK6.out 0 _ rfl).1
  · rw [cell_setRow_other _ _ _ _ (by simp)]; exact (HR1.out.kept KK6.out 1 _ rfl).1
  clear hK K
  try simp only [Act.put, List.setIfInBounds_toArray, List.set_cons_zero, List.set_cons_succ]
  refine wpAnyH_done (by kernel_rfl) ?_ _
  go_wp2
  refine bodyPost_ret (v := vwV A5 l5.length c5 fs) (results_cell_row (fn := Tryz.f90) (p := 4) (ty := 122) rfl _ _ (w.heap.size + 1) 122 (Value.slice A5 l5.length c5 :: lkL (lkX fs)).toArray (0, 0) _ rfl (setRow_heap _ _ _ _ _ _ ((KK6.out.block _ hz2).trans HB.out)) Tryz.underlying122 rfl (by rw [hi]; simp [lkL_len])) rfl ⟨A5, c5, l5, rfl, HP1.out, HP2.out, ?_, (fun b o s e => by have := FR5.out b o s e; have := HK.out.size; have hz : (W2.drew).heap.size = W2.heap.size := rfl; omega), ?_⟩
  · have h6 := SL5.out.kept HK6.out
    refine ⟨h6.1, h6.2.1, h6.2.2.1, h6.2.2.2.1, fun hn => ?_⟩
    obtain ⟨b, off, e, ht⟩ := h6.2.2.2.2 hn
    have hb := FR5.out b off none e
    have hz : (W2.drew).heap.size = W2.heap.size := rfl
    refine ⟨b, off, e, fun i x hx j v hv => ?_⟩
    rw [cell_setRow_other _ _ _ _ (by simp; omega)]
    exact ht i x hx j v hv
  · exact (HK.out.trans KK6.out).setRow (by omega) _
end Go.Proofs.YtologmoanaccpaaGreatDoor

namespace Go.Proofs.YtologmoanaccpaaGreatDoor
set_option linter.all false
open Go Go.RowKit Go.Shelf Go.Proofs

def fnE (l : List Sg) : Int := if 60 < l.length then 2 else errB (l.all sightB)
theorem checkFound_any (A : Option Addr) (n c : Nat) (l : List Sg) (w : World) (hs : SlA sgV 6 Sg.ok w A n c l) :
    Calls Tryz.prog 107 #[.slice A n c] w fun e w' => e = .returned (.int .i64 (fnE l)) ∧ Kept w w' := by
  have hl := Lib.hid hs.1
  have hnc := hs.2.1
  have hcm := hs.2.2.1
  obtain ⟨b, hb⟩ : ∃ b, l.all sightB = b := ⟨_, rfl⟩
  have HB : RowKit.Hid (fnE l = if 60 < n then 2 else errB b) := Lib.hid (by unfold fnE; rw [hl.out, hb])
  have H1 : RowKit.Hid (∀ W, Kept w W → Calls Tryz.prog 168 #[.slice A n c, .func (.func 89) #[] #[]] W fun e w' => e = .returned (.bool b) ∧ Kept W w') := Lib.hid (fun W hW => by rw [← hb]; exact every_sg 89 #[] sightB e89 A n c l W (hs.kept hW) (pred89 W))
  clear hb hs
  by_cases h1 : 60 < n
  · have g1 : (60 : Int) < (n : Int) := by omega
    have HN := Lib.hid h1
    clear h1
    go_enter Tryz.func107, Tryz.ntmps107
    go_wp2
    go_ret
    exact ⟨ret_int (by rw [HB.out, if_pos HN.out]), Kept.refl _⟩
  · have g1 : ¬ (60 : Int) < (n : Int) := by omega
    have HN := Lib.hid h1
    clear h1
    go_enter Tryz.func107, Tryz.ntmps107
    go_wp2_with fail
    refine (H1.out _ (Kept.refl _)).mono ?_
    rintro e w1 ⟨rfl, hk1⟩
    have K1 := Lib.hid hk1
    clear hk1
    go_wp2_with fail
    refine (valid_any b _).mono ?_
    rintro e w2 ⟨rfl, rfl⟩
    go_wp2
    go_ret
    exact ⟨ret_int (by rw [HB.out, if_neg HN.out]), K1.out⟩
theorem testBit_ext {a b : Nat} (h : ∀ i, a.testBit i = b.testBit i) : a = b := Nat.eq_of_testBit_eq h
theorem ownN_perm (fs : List Fd) (s : Sg) {l l' : List Mk} (h : l.Perm l') : ownN fs s l = ownN fs s l' := by
  apply testBit_ext
  intro i
  unfold ownN
  rw [ownN_bit, ownN_bit]
  congr 1
  rw [Bool.eq_iff_iff, List.any_eq_true, List.any_eq_true]
  exact ⟨fun ⟨x, hx, hp⟩ => ⟨x, h.mem_iff.1 hx, hp⟩, fun ⟨x, hx, hp⟩ => ⟨x, h.mem_iff.2 hx, hp⟩⟩
/-- the owners whom a sight fits on a day -/
def ownD (ms : List Mk) (fs : List Fd) (day : Int) (s : Sg) : Nat := ownN fs s (frcL ms day)
def sureB (ms : List Mk) (fs : List Fd) (day : Int) (o : Nat) (s : Sg) : Bool := ((ownD ms fs day s : Nat) : Int) == (2 : Int) ^ o
def perB (ms : List Mk) (fs : List Fd) (day : Int) (o : Nat) (s : Sg) : Bool := !sureB ms fs day o s && (ownD ms fs day s).testBit o
def cntN (p : Sg → Bool) (l : List Sg) : Nat := (l.filter p).length
theorem cntN_snoc (p : Sg → Bool) (l : List Sg) (s : Sg) : cntN p (l ++ [s]) = if p s = true then cntN p l + 1 else cntN p l := by
  unfold cntN
  rw [List.filter_append, List.length_append]
  cases h : p s
  · simp [h]
  · simp [h]
theorem cntN_le (p : Sg → Bool) (l : List Sg) : cntN p l ≤ l.length := List.length_filter_le _ _
/-- the first error of Range -/
def rgE (ms : List Mk) (fs : List Fd) (day : Int) (found : List Sg) (owner : Int) : Int := fstE [smE ms fs, errB (inB day 0 100000), errB (inB owner 1 40), fnE found]
def RgP (w : World) (ms : List Mk) (fs : List Fd) (day : Int) (found : List Sg) (owner : Int) (e : Ending) (w' : World) : Prop :=
  ((rgE ms fs day found owner ≠ 0 ∧ e = .returned (.tuple #[.int .i64 0, .int .i64 0, .int .i64 (rgE ms fs day found owner)])) ∨
   (rgE ms fs day found owner = 0 ∧ e = .returned (.tuple #[.int .i64 ((cntN (sureB ms fs day owner.toNat) found : Nat) : Int), .int .i64 ((cntN (perB ms fs day owner.toNat) found : Nat) : Int), .int .i64 0]))) ∧ Kept w w'
theorem sm_ok {ms : List Mk} {fs : List Fd} (h : smE ms fs = 0) : ms.length ≤ 100 ∧ fs.length ≤ 20 ∧ (∀ m ∈ ms, markB m = true) ∧ (∀ f ∈ fs, fadeB f = true) ∧ fs.Nodup ∧ clashB ms = false := by
  unfold smE at h
  split at h
  · omega
  · rename_i h1
    split at h
    · rename_i h2
      split at h
      · omega
      · rename_i h3
        simp only [Bool.and_eq_true, List.all_eq_true] at h2
        simp only [Bool.or_eq_true, not_or, Bool.not_eq_true] at h3
        refine ⟨by omega, by omega, h2.1, h2.2, ?_, h3.2⟩
        have := h3.1
        unfold repB at this
        simpa using this
    · omega
theorem fstE_four {a b c d : Int} (h : fstE [a, b, c, d] = 0) : a = 0 ∧ b = 0 ∧ c = 0 ∧ d = 0 := by
  unfold fstE at h
  by_cases ha : a = 0
  · rw [if_pos ha] at h
    unfold fstE at h
    by_cases hb : b = 0
    · rw [if_pos hb] at h
      unfold fstE at h
      by_cases hc : c = 0
      · rw [if_pos hc] at h
        unfold fstE at h
        by_cases hd : d = 0
        · exact ⟨ha, hb, hc, hd⟩
        · rw [if_neg hd] at h; exact absurd h hd
      · rw [if_neg hc] at h; exact absurd h hc
    · rw [if_neg hb] at h; exact absurd h hb
  · rw [if_neg ha] at h; exact absurd h ha
theorem errB_ok {b : Bool} (h : errB b = 0) : b = true := by cases b <;> simp_all [errB]
theorem fn_ok {l : List Sg} (h : fnE l = 0) : l.length ≤ 60 ∧ ∀ s ∈ l, sightB s = true := by
  unfold fnE at h
  split at h
  · omega
  · exact ⟨by omega, fun s hs => List.all_eq_true.1 (errB_ok h) s hs⟩
theorem fade4 {fs : List Fd} (h : ∀ f ∈ fs, fadeB f = true) : ∀ f ∈ fs, f.seen ≤ 4 := fun f hf => by
  have := h f hf
  unfold fadeB at this
  simp at this
  exact this.1.2
theorem intsR {W : World} {b : Nat} {l : List Int} (h : RowC W b (l.map (Value.int .i64))) : ∀ j x, l[j]? = some x → W.cell? ⟨b, 0 + j, none⟩ = some (.int .i64 x) := fun j x hj => by
  rw [Nat.zero_add]
  exact (h j _ (by rw [List.getElem?_map, hj]; rfl)).1
set_option maxRecDepth 100000 in
set_option maxHeartbeats 6400000 in
theorem range_any (A B C : Option Addr) (n c m d p q : Nat) (ms : List Mk) (fs : List Fd) (day owner : Int) (found : List Sg) (w : World) (hs : SmA w A n c ms B m d fs) (hfo : SlA sgV 6 Sg.ok w C p q found) :
    Calls Tryz.prog 44 #[.agg #[.slice A n c, .slice B m d], .int .i64 day, .slice C p q, .int .i64 owner] w (RgP w ms fs day found owner) := by
  obtain ⟨W0, hW0⟩ : ∃ W0, W0 = w.alloc (.cells #[.slice A n c, .slice B m d] 25) := ⟨_, rfl⟩
  have K0 : RowKit.Hid (Kept w W0) := Lib.hid (by rw [hW0]; exact (Kept.refl _).alloc _)
  have R0 : RowKit.Hid (RowC W0 w.heap.size [.slice A n c, .slice B m d]) := Lib.hid (by rw [hW0]; exact RowC.new w [.slice A n c, .slice B m d] 25)
  have HW := Lib.hid hW0
  have HS := Lib.hid (hs.kept K0.out)
  have HFO := Lib.hid (hfo.kept K0.out)
  have hpq := hfo.2.1
  have hqm := hfo.2.2.1
  obtain ⟨E1, hE1⟩ : ∃ E, smE ms fs = E := ⟨_, rfl⟩
  obtain ⟨b2, hb2⟩ : ∃ b, inB day 0 100000 = b := ⟨_, rfl⟩
  obtain ⟨b3, hb3⟩ : ∃ b, inB owner 1 40 = b := ⟨_, rfl⟩
  obtain ⟨E4, hE4⟩ : ∃ E, fnE found = E := ⟨_, rfl⟩
  obtain ⟨E, hE⟩ : ∃ E, fstE [E1, errB b2, errB b3, E4] = E := ⟨_, rfl⟩
  have HE : RowKit.Hid (rgE ms fs day found owner = E) := Lib.hid (by unfold rgE; rw [hE1, hb2, hb3, hE4, hE])
  have H25 : RowKit.Hid (∀ W, Kept W0 W → Calls Tryz.prog 25 #[.agg #[.slice A n c, .slice B m d]] W fun e w' => e = .returned (.int .i64 E1) ∧ Kept W w') := Lib.hid (fun W hW => by rw [← hE1]; exact checkSmits_any A B n c m d ms fs W (HS.out.kept hW))
  have H75 : RowKit.Hid (∀ W, Calls Tryz.prog 75 #[.int .i64 day] W fun e w' => e = .returned (.bool b2) ∧ W = w') := Lib.hid (fun W => by rw [← hb2]; exact isDay_any _ W)
  have H79 : RowKit.Hid (∀ W, Calls Tryz.prog 79 #[.int .i64 owner] W fun e w' => e = .returned (.bool b3) ∧ W = w') := Lib.hid (fun W => by rw [← hb3]; exact isOwner_any _ W)
  have H107 : RowKit.Hid (∀ W, Kept W0 W → Calls Tryz.prog 107 #[.slice C p q] W fun e w' => e = .returned (.int .i64 E4) ∧ Kept W w') := Lib.hid (fun W hW => by rw [← hE4]; exact checkFound_any C p q found W (HFO.out.kept hW))
  have H73 : RowKit.Hid (∀ W g, RowC W g [.int .i64 E1, .int .i64 (errB b2), .int .i64 (errB b3), .int .i64 E4] → Calls Tryz.prog 73 #[.slice (some ⟨g, 0, none⟩) 4 4] W fun e w' => e = .returned (.int .i64 E) ∧ W = w') := Lib.hid (fun W g hr => by
    rw [← hE]
    exact firstError_any g 0 4 4 [E1, errB b2, errB b3, E4] rfl (by omega) W (intsR hr))
  have HE1 := Lib.hid hE1
  have HB2 := Lib.hid hb2
  have HB3 := Lib.hid hb3
  have HE4 := Lib.hid hE4
  have HEE := Lib.hid hE
  obtain ⟨v2, hv2⟩ : ∃ v, errB b2 = v := ⟨_, rfl⟩
  obtain ⟨v3, hv3⟩ : ∃ v, errB b3 = v := ⟨_, rfl⟩
  have HV2 : RowKit.Hid (∀ W, Calls Tryz.prog 74 #[.bool b2] W fun e w' => e = .returned (.int .i64 v2) ∧ W = w') := Lib.hid (fun W => by rw [← hv2]; exact valid_any b2 W)
  have HV3 : RowKit.Hid (∀ W, Calls Tryz.prog 74 #[.bool b3] W fun e w' => e = .returned (.int .i64 v3) ∧ W = w') := Lib.hid (fun W => by rw [← hv3]; exact valid_any b3 W)
  rw [hv2, hv3] at H73
  have a0 := (R0.out 0 _ rfl).1
  have a1 := (R0.out 1 _ rfl).1
  have la := cell_lt a0
  clear hW0 hs hfo hE1 hb2 hb3 hE4 hE hv2 hv3
  go_enter Tryz.func44, Tryz.ntmps44
  go_upto_region 1 with (fail)
  rw [← HW.out]
  go_wp2_with fail
  refine (H25.out _ (Kept.refl _)).mono ?_
  rintro e w1 ⟨rfl, hk1⟩
  have K1 := Lib.hid hk1
  clear hk1 a0 a1 la
  go_wp2_with fail
  refine (H75.out _).mono ?_
  rintro e w2 ⟨rfl, rfl⟩
  go_wp2_with fail
  refine (HV2.out _).mono ?_
  rintro e w2 ⟨rfl, rfl⟩
  go_wp2_with fail
  refine (H79.out _).mono ?_
  rintro e w2 ⟨rfl, rfl⟩
  go_wp2_with fail
  refine (HV3.out _).mono ?_
  rintro e w2 ⟨rfl, rfl⟩
  go_wp2_with fail
  refine (H107.out _ K1.out).mono ?_
  rintro e w2 ⟨rfl, hk2⟩
  have K2 := Lib.hid (K1.out.trans hk2)
  clear hk2
  go_wp2_with fail
  refine (H73.out _ _ (RowC.new _ _ _)).mono ?_
  rintro e w3 ⟨rfl, rfl⟩
  obtain ⟨w3, hw3⟩ : ∃ w3, w3 = w2.alloc (.cells #[.int .i64 E1, .int .i64 v2, .int .i64 v3, .int .i64 E4] 27) := ⟨_, rfl⟩
  have K3 := Lib.hid (show Kept W0 w3 by rw [hw3]; exact K2.out.alloc _)
  rw [← hw3]
  clear hw3
  by_cases hz : E = 0
  · subst hz
    obtain ⟨e1, e2, e3, e4⟩ := fstE_four HEE.out
    obtain ⟨hm1, hm2, hmv, hfv, _, _⟩ := sm_ok (HE1.out.trans e1)
    obtain ⟨hf60, hfs⟩ := fn_ok (HE4.out.trans e4)
    have ho := HB3.out.trans (errB_ok e3)
    have ho' := inB_iff.1 ho
    obtain ⟨on, hon⟩ : ∃ on : Nat, owner = (on : Int) := ⟨owner.toNat, by omega⟩
    subst hon
    have hon1 : 1 ≤ on := by omega
    have hon40 : on ≤ 40 := by omega
    have HMV := Lib.hid hmv
    have HFV := Lib.hid hfv
    have HFS := Lib.hid hfs
    have hn100 : n ≤ 100 := by rw [← HS.out.1.1]; exact hm1
    have hp60 : p ≤ 60 := by rw [← HFO.out.1]; exact hf60
    have H90 : RowKit.Hid (∀ W, Kept W0 W → Calls Tryz.prog 90 #[.agg #[.slice A n c, .slice B m d], .int .i64 day] W (VwP W ms fs day)) := Lib.hid (fun W hW => viewOf_any A B n c m d ms fs day W (HS.out.kept hW) (by omega) HMV.out HFV.out)
    have a0 := (R0.out.kept K3.out 0 _ rfl).1
    have a1 := (R0.out.kept K3.out 1 _ rfl).1
    have la := cell_lt a0
    have hi : (Tryz.prog.info? 122).map (·.size) = some 31 := by kernel_rfl
    clear e1 e2 e3 e4 hm1 hm2 hmv hfv hf60 hfs ho ho'
    go_wp2_with fail
    refine (H90.out _ K3.out).mono ?_
    rintro e w4 ⟨A5, c5, l5, rfl, p1, p2, sl5, hk4⟩
    have HP1 := Lib.hid p1
    have SL5 := Lib.hid sl5
    have K4 := Lib.hid (K3.out.trans hk4)
    clear hk4 p1 p2 sl5 a0 a1 la
    go_wp2_with (refine wpList_store_row rfl 122 (.tmp 12) (.tmp 33) rfl w4.heap.size (Value.slice A5 l5.length c5 :: lkL (lkX fs)).toArray rfl rfl 122 zero31.toArray (heap_alloc_new w4 _) (by rw [hi]; simp [lkL_len]) (by simp [zero31, lkL_len]) (by simp [lkL, Value.oneCell']) ?_)
    obtain ⟨Wb, hWb⟩ : ∃ Wb, Wb = (w4.alloc (.cells zero31.toArray 122)).setRow w4.heap.size (Value.slice A5 l5.length c5 :: lkL (lkX fs)).toArray := ⟨_, rfl⟩
    have hbb : Wb.heap[w4.heap.size]? = some (.cells (Value.slice A5 l5.length c5 :: lkL (lkX fs)).toArray 122 (0, 0)) := by rw [hWb]; exact setRow_heap _ _ _ _ _ _ (heap_alloc_new w4 _)
    have RB := Lib.hid (show RowC Wb w4.heap.size (Value.slice A5 l5.length c5 :: lkL (lkX fs)) from fun j v hv => ⟨by rw [cell_of_row _ _ _ _ _ _ hbb]; simpa using hv, frozen_of_row _ _ _ _ _ hbb⟩)
    have hkb : Kept w4 Wb := by rw [hWb]; exact ((Kept.refl w4).alloc _).setRow (Nat.le_refl _) _
    have KB := Lib.hid (K4.out.trans hkb)
    have HZZ : RowKit.Hid (Wb = (w4.alloc (.cells #[.slice none 0 0, .int .u8 0, .int .u8 0, .int .u8 0, .int .u8 0, .int .u8 0, .int .u8 0, .int .u8 0, .int .u8 0, .int .u8 0, .int .u8 0, .int .u8 0, .int .u8 0, .int .u8 0, .int .u8 0, .int .u8 0, .int .u8 0, .int .u8 0, .int .u8 0, .int .u8 0, .int .u8 0, .int .u8 0, .int .u8 0, .int .u8 0, .int .u8 0, .int .u8 0, .int .u8 0, .int .u8 0, .int .u8 0, .int .u8 0, .int .u8 0] 122)).setRow w4.heap.size (Value.slice A5 l5.length c5 :: lkL (lkX fs)).toArray) := Lib.hid hWb
    have SLB := Lib.hid (SL5.out.kept hkb)
    rw [← HZZ.out]
    clear hWb hbb hkb
    go_wp2_with fail
    go_loopw [8, 9, 36] (fun u v i wr => ∃ k : Nat, k ≤ p ∧ i = .int .i64 k ∧ u = .int .i64 ((cntN (sureB ms fs day on) (found.take k) : Nat) : Int) ∧ v = .int .i64 ((cntN (perB ms fs day on) (found.take k) : Nat) : Int) ∧ Kept Wb wr) (fun _ _ i _ => p - (intOf i).toNat)
    case atStart => exact ⟨0, by omega, by first | rfl | go_num, by simp [cntN], by simp [cntN], Kept.refl _⟩
    case round =>
      obtain ⟨k, hk, rfl, rfl, rfl, hkr⟩ := hrel
      have HKR := Lib.hid hkr
      clear hkr
      by_cases hlt : k < p
      · obtain ⟨s, hsk⟩ : ∃ s, found[k]? = some s := ⟨_, List.getElem?_eq_getElem (by rw [HFO.out.1]; exact hlt)⟩
        have hsm := List.mem_of_getElem? hsk
        have hok := HFO.out.2.2.2.1 s hsm
        have hss := HFS.out s hsm
        obtain ⟨b, off, hA, ht⟩ := HFO.out.2.2.2.2 (by omega)
        subst hA
        have hcc := fun j v hv => ((KB.out.trans HKR.out).cells _ _ (cell_lt (ht k s hsk j v hv))).trans (ht k s hsk j v hv)
        have c0 := hcc 0 _ rfl
        have c1 := hcc 1 _ rfl
        have c2 := hcc 2 _ rfl
        have c3 := hcc 3 _ rfl
        have c4 := hcc 4 _ rfl
        have c5' := hcc 5 _ rfl
        simp only [Nat.add_zero] at c0
        have hS2 := ownN_perm fs s HP1.out
        have hSl := ownN_lt fs s (frcL ms day) 0 (by omega) (fun x hx => by
          have := HMV.out x (List.mem_filter.1 hx).1
          unfold markB at this
          simp [inB] at this
          omega)
        obtain ⟨S, hSe⟩ : ∃ S, ownD ms fs day s = S := ⟨_, rfl⟩
        have hS64 : S < 2 ^ 64 := by
          have : ownN fs s (frcL ms day) = S := hSe
          unfold ownN at this
          omega
        have H91 : RowKit.Hid (∀ W, Kept Wb W → Calls Tryz.prog 91 #[.agg (Value.slice A5 l5.length c5 :: lkL (lkX fs)).toArray, .agg #[.int .u8 s.s0, .int .u8 s.s1, .int .u8 s.s2, .int .u8 s.s3, .int .u8 s.s4, .int .u8 s.s5]] W fun e w' => e = .returned (.int .u64 ((S : Nat) : Int)) ∧ Kept W w') := Lib.hid (fun W hW => by
          rw [← hSe]
          unfold ownD
          rw [← hS2]
          exact owners_any A5 l5.length c5 l5 fs s W (SLB.out.kept hW) (fun x hx => HMV.out x (List.mem_filter.1 (HP1.out.mem_iff.1 hx)).1) (fade4 HFV.out) hok hss)
        obtain ⟨qb, hqb⟩ : ∃ q, ((S : Int) == (2 : Int) ^ on) = q := ⟨_, rfl⟩
        have HT1 : RowKit.Hid (cntN (sureB ms fs day on) (found.take (k + 1)) = if qb = true then cntN (sureB ms fs day on) (found.take k) + 1 else cntN (sureB ms fs day on) (found.take k)) := Lib.hid (by
          rw [take_snoc' hsk, cntN_snoc]
          have : sureB ms fs day on s = qb := by unfold sureB; rw [hSe]; exact hqb
          rw [this])
        have HT2 : RowKit.Hid (cntN (perB ms fs day on) (found.take (k + 1)) = if (!qb && S.testBit on) = true then cntN (perB ms fs day on) (found.take k) + 1 else cntN (perB ms fs day on) (found.take k)) := Lib.hid (by
          rw [take_snoc' hsk, cntN_snoc]
          have : perB ms fs day on s = (!qb && S.testBit on) := by unfold perB sureB; rw [hSe, hqb]
          rw [this])
        have hc1 := Nat.le_trans (cntN_le (sureB ms fs day on) (found.take k)) (List.length_take_le _ _)
        have hc2 := Nat.le_trans (cntN_le (perB ms fs day on) (found.take k)) (List.length_take_le _ _)
        obtain ⟨N1, hN1⟩ : ∃ N, cntN (sureB ms fs day on) (found.take k) = N := ⟨_, rfl⟩
        obtain ⟨N2, hN2⟩ : ∃ N, cntN (perB ms fs day on) (found.take k) = N := ⟨_, rfl⟩
        rw [hN1] at hc1
        rw [hN2] at hc2
        rw [hN1, hN2]
        have HN1 := Lib.hid hN1
        have HN2 := Lib.hid hN2
        have kr := HKR.out.trans ((Kept.refl wr).alloc (.cells #[.int .u8 s.s0, .int .u8 s.s1, .int .u8 s.s2, .int .u8 s.s3, .int .u8 s.s4, .int .u8 s.s5] 39))
        have HRG := Lib.hid (show (wr.alloc (.cells #[.int .u8 s.s0, .int .u8 s.s1, .int .u8 s.s2, .int .u8 s.s3, .int .u8 s.s4, .int .u8 s.s5] 39)).rangeAt w4.heap.size 0 (Value.slice A5 l5.length c5 :: lkL (lkX fs)) from fun j v hv => by
          rw [Nat.zero_add]
          exact (RB.out.kept kr j v hv).1)
        have KR := Lib.hid kr
        have hqb' := hqb
        clear hsk hsm hok hss ht hcc hS2 hSl hSe hN1 hN2 kr hqb
        go_wp2_with (refine wpList_load_mid rfl 122 (.tmp 12) rfl w4.heap.size 0 rfl (Value.slice A5 l5.length c5 :: lkL (lkX fs)) _ HRG.out Tryz.underlying122 rfl (by rw [hi]; simp [lkL_len]) ?_)
        refine (H91.out _ KR.out).mono ?_
        rintro e w5 ⟨rfl, hk5⟩
        have K5 := Lib.hid (KR.out.trans hk5)
        clear hk5
        go_wp2_with fail
        refine (just_any on (by omega) _).mono ?_
        rintro e w6 ⟨rfl, rfl⟩
        cases qb
        · obtain ⟨tb, htb⟩ : ∃ t, S.testBit on = t := ⟨_, rfl⟩
          have HHA : RowKit.Hid (∀ W, Calls Tryz.prog 92 #[.int .u64 (S : Int), .int .i64 (on : Int)] W fun e w' => e = .returned (.bool tb) ∧ W = w') := Lib.hid (fun W => by rw [← htb]; exact has_any S on hS64 hon1 hon40 W)
          rw [htb] at HT2
          clear htb
          go_wp2_with fail
          refine (HHA.out _).mono ?_
          rintro e w6 ⟨rfl, rfl⟩
          cases tb
          · go_wp2
            go_roundw
            case rel => exact ⟨k + 1, by omega, by go_num, by rw [HT1.out, HN1.out]; rfl, by rw [HT2.out, HN2.out]; rfl, K5.out⟩
            case measure => simp [intOf]; omega
          · go_wp2
            go_roundw
            case rel => exact ⟨k + 1, by omega, by go_num, by rw [HT1.out, HN1.out]; rfl, by rw [HT2.out, HN2.out]; rfl, K5.out⟩
            case measure => simp [intOf]; omega
        · go_wp2
          go_roundw
          case rel => exact ⟨k + 1, by omega, by go_num, by rw [HT1.out, HN1.out]; rfl, by rw [HT2.out, HN2.out]; rfl, K5.out⟩
          case measure => simp [intOf]; omega
      · obtain rfl : k = p := by omega
        have hT : found.take k = found := List.take_of_length_le (by rw [HFO.out.1]; exact Nat.le_refl _)
        rw [hT]
        clear hT
        go_wp2
        go_ret3
        refine ⟨.inr ⟨HE.out, by rw [Int.toNat_natCast]; rfl⟩, K0.out.trans (KB.out.trans HKR.out)⟩
  · have hne : (E != 0) = true := by simpa using hz
    have HZ := Lib.hid hz
    clear hz
    go_wp2
    go_ret3
    refine ⟨.inl ⟨by rw [HE.out]; exact HZ.out, by rw [HE.out]; rfl⟩, K0.out.trans K3.out⟩
end Go.Proofs.YtologmoanaccpaaGreatDoor
