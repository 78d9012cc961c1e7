/-
  mark: view.owners
-/
import Derived.Test.YtologmoanaccpaaGreatDoorMp
import Derived.Deep.MidRow
namespace Go.Proofs.YtologmoanaccpaaGreatDoor
set_option linter.all false
open Go Go.RowKit Go.Shelf Go.Proofs

/-- the owners whom a sight fits, as bits -/
def ownN (fs : List Fd) (s : Sg) (l : List Mk) : Nat := l.foldl (fun a m => if fitB fs m.sg s = true then a ||| 2 ^ m.own.toNat else a) 0
theorem ownN_snoc (fs : List Fd) (s : Sg) (l : List Mk) (m : Mk) : ownN fs s (l ++ [m]) = if fitB fs m.sg s = true then ownN fs s l ||| 2 ^ m.own.toNat else ownN fs s l := by simp [ownN]
theorem ownN_lt (fs : List Fd) (s : Sg) : ∀ (l : List Mk) (a : Nat), a < 2 ^ 41 → (∀ m ∈ l, m.own ≤ 40) → l.foldl (fun a m => if fitB fs m.sg s = true then a ||| 2 ^ m.own.toNat else a) a < 2 ^ 41
  | [], a, h, _ => h
  | m :: l, a, h, hf => by
    rw [List.foldl_cons]
    refine ownN_lt fs s l _ ?_ (fun g hg => hf g (List.mem_cons_of_mem _ hg))
    split
    · have h4 := hf m (List.mem_cons_self ..)
      exact Nat.or_lt_two_pow h (Nat.pow_lt_pow_right (by omega) (by omega))
    · exact h
theorem ownN_bit (fs : List Fd) (s : Sg) (k : Nat) : ∀ (l : List Mk) (a : Nat), (l.foldl (fun a m => if fitB fs m.sg s = true then a ||| 2 ^ m.own.toNat else a) a).testBit k = (a.testBit k || l.any fun m => fitB fs m.sg s && decide (m.own.toNat = k))
  | [], a => by simp
  | m :: l, a => by
    rw [List.foldl_cons, ownN_bit fs s k l, List.any_cons]
    cases h : fitB fs m.sg s
    · simp
    · simp [Nat.testBit_or, Nat.testBit_two_pow, Bool.or_assoc]
/-- a view: marks, and looks -/
def vwV (A : Option Addr) (n c : Nat) (fs : List Fd) : Value := .agg (Value.slice A n c :: lkL (lkX fs)).toArray
set_option maxRecDepth 100000 in
set_option maxHeartbeats 3200000 in
theorem owners_any (A : Option Addr) (n c : Nat) (l : List Mk) (fs : List Fd) (s : Sg) (w : World) (hl : SlA mkC 9 Mk.ok w A n c l) (hv : ∀ m ∈ l, markB m = true) (hf : ∀ f ∈ fs, f.seen ≤ 4) (hs : s.ok) (hss : sightB s = true) :
    Calls Tryz.prog 91 #[vwV A n c fs, .agg #[.int .u8 s.s0, .int .u8 s.s1, .int .u8 s.s2, .int .u8 s.s3, .int .u8 s.s4, .int .u8 s.s5]] w fun e w' => e = .returned (.int .u64 ((ownN fs s l : Nat) : Int)) ∧ Kept w w' := by
  have hi : (Tryz.prog.info? 120).map (·.size) = some 30 := by kernel_rfl
  obtain ⟨W1, hW1⟩ : ∃ W1, W1 = w.alloc (.cells (Value.slice A n c :: lkL (lkX fs)).toArray 122) := ⟨_, rfl⟩
  obtain ⟨W2, hW2⟩ : ∃ W2, W2 = W1.alloc (.cells #[.int .u8 s.s0, .int .u8 s.s1, .int .u8 s.s2, .int .u8 s.s3, .int .u8 s.s4, .int .u8 s.s5] 39) := ⟨_, rfl⟩
  have z1 : W1.heap.size = w.heap.size + 1 := by rw [hW1]; simp
  have k12 : Kept W1 W2 := by rw [hW2]; exact (Kept.refl _).alloc _
  have HR1 := Lib.hid (show RowC W2 w.heap.size (Value.slice A n c :: lkL (lkX fs)) by
    have h0 : RowC W1 w.heap.size (Value.slice A n c :: lkL (lkX fs)) := by rw [hW1]; exact RowC.new w _ 122
    exact h0.kept k12)
  have HR2 := Lib.hid (show RowC W2 (w.heap.size + 1) (sgV s) by rw [hW2, ← z1]; exact RowC.new W1 (sgV s) 39)
  have HK := Lib.hid (show Kept w W2 by rw [hW2, hW1]; exact ((Kept.refl _).alloc _).alloc _)
  have HW : RowKit.Hid (W2 = (w.alloc (.cells (Value.slice A n c :: lkL (lkX fs)).toArray 122)).alloc (.cells #[.int .u8 s.s0, .int .u8 s.s1, .int .u8 s.s2, .int .u8 s.s3, .int .u8 s.s4, .int .u8 s.s5] 39)) := Lib.hid (by rw [hW2, hW1])
  have HL := Lib.hid (hl.kept HK.out)
  have HV := Lib.hid hv
  have HF := Lib.hid hf
  have HS := Lib.hid hs
  have HSS := Lib.hid hss
  have hnc := hl.2.1
  have hcm := hl.2.2.1
  unfold vwV
  clear hW1 hW2 z1 k12 hl hv hf hs hss
  go_enter Tryz.func91, Tryz.ntmps91
  go_wp2
  rw [← HW.out]
  go_loopw [5, 11] (fun v i wr => ∃ k : Nat, k ≤ n ∧ i = .int .i64 k ∧ v = .int .u64 ((ownN fs s (l.take k) : Nat) : Int) ∧ Kept W2 wr) (fun _ i _ => n - (intOf i).toNat)
  case atStart => exact ⟨0, by omega, by first | rfl | go_num, by simp [ownN], Kept.refl _⟩
  case round =>
    obtain ⟨k, hk, rfl, rfl, hkr⟩ := hrel
    have HKR := Lib.hid hkr
    clear hkr
    by_cases hlt : k < n
    · obtain ⟨x, hx⟩ : ∃ x, l[k]? = some x := ⟨_, List.getElem?_eq_getElem (by rw [HL.out.1]; exact hlt)⟩
      have hxm := List.mem_of_getElem? hx
      have hok := HL.out.2.2.2.1 x hxm
      have hmb := HV.out x hxm
      have hob : (1 ≤ x.own ∧ x.own ≤ 40) ∧ clearB x.sg = true := by
        unfold markB at hmb
        simp [inB] at hmb
        exact ⟨hmb.1.1.1.1, hmb.2⟩
      obtain ⟨⟨ho1, ho2⟩, hcl⟩ := hob
      obtain ⟨b, off, hA, ht⟩ := HL.out.2.2.2.2 (by omega)
      subst hA
      have hcc := fun j v hv => (HKR.out.cells _ _ (cell_lt (ht k x hx j v hv))).trans (ht k x hx j v hv)
      have c0 := hcc 0 _ rfl
      have c1 := hcc 1 _ rfl
      have c2 := hcc 2 _ rfl
      have c3 := hcc 3 _ rfl
      have c4 := hcc 4 _ rfl
      have c5 := hcc 5 _ rfl
      have c6 := hcc 6 _ rfl
      have c7 := hcc 7 _ rfl
      have c8 := hcc 8 _ rfl
      simp only [Nat.add_zero] at c0
      obtain ⟨q, hq⟩ : ∃ q, fitB fs x.sg s = q := ⟨_, rfl⟩
      have HQ := Lib.hid hq
      have H157 : RowKit.Hid (∀ W, Calls Tryz.prog 157 #[.agg (lkL (lkX fs)).toArray, .agg #[.int .u8 x.sg.s0, .int .u8 x.sg.s1, .int .u8 x.sg.s2, .int .u8 x.sg.s3, .int .u8 x.sg.s4, .int .u8 x.sg.s5], .agg #[.int .u8 s.s0, .int .u8 s.s1, .int .u8 s.s2, .int .u8 s.s3, .int .u8 s.s4, .int .u8 s.s5]] W fun e w' => e = .returned (.bool q) ∧ Kept W w') := Lib.hid (fun W => by rw [← hq]; exact fits_any fs x.sg s HF.out hok.2.2.2 HS.out hcl HSS.out W)
      obtain ⟨on, hon⟩ : ∃ on : Nat, x.own = (on : Int) := ⟨x.own.toNat, by omega⟩
      have HON := Lib.hid hon
      have hon40 : on ≤ 40 := by omega
      have HT : RowKit.Hid (ownN fs s (l.take (k + 1)) = if q = true then ownN fs s (l.take k) ||| 2 ^ on else ownN fs s (l.take k)) := Lib.hid (by rw [take_snoc' hx, ownN_snoc, hq, hon, Int.toNat_natCast])
      have hS := ownN_lt fs s (l.take k) 0 (by omega) (fun m hm => by
        have := HV.out m (List.mem_of_mem_take hm)
        unfold markB at this
        simp [inB] at this
        omega)
      obtain ⟨S, hSe⟩ : ∃ S, ownN fs s (l.take k) = S := ⟨_, rfl⟩
      have hS' : S < 2 ^ 41 := by rw [← hSe]; exact hS
      have hor : bits BinOp.or IntKind.u64 (S : Int) ((2 : Int) ^ on) = ((S ||| 2 ^ on : Nat) : Int) := by
        have e : ((2 ^ on : Nat) : Int) = (2 : Int) ^ on := by push_cast; rfl
        have h2 : (2 : Nat) ^ on < 2 ^ 41 := Nat.pow_lt_pow_right (by omega) (by omega)
        rw [← e]
        exact bits_or_u64_nat S (2 ^ on) (by omega) (by omega)
      have HSe := Lib.hid hSe
      rw [hSe]
      rw [hon] at c0
      have kr := HKR.out.trans ((Kept.refl wr).alloc (.cells #[.int .i64 (on : Int), .int .i64 x.frm, .int .i64 x.unt, .int .u8 x.sg.s0, .int .u8 x.sg.s1, .int .u8 x.sg.s2, .int .u8 x.sg.s3, .int .u8 x.sg.s4, .int .u8 x.sg.s5] 32))
      have HRG := Lib.hid (show (wr.alloc (.cells #[.int .i64 (on : Int), .int .i64 x.frm, .int .i64 x.unt, .int .u8 x.sg.s0, .int .u8 x.sg.s1, .int .u8 x.sg.s2, .int .u8 x.sg.s3, .int .u8 x.sg.s4, .int .u8 x.sg.s5] 32)).rangeAt w.heap.size 1 (lkL (lkX fs)) from fun j v hv => by
        have := (HR1.out.kept kr (1 + j) v (by rw [Nat.add_comm]; simpa using hv)).1
        exact this)
      have s0 := (HR2.out.kept HKR.out 0 _ rfl).1
      have s1 := (HR2.out.kept HKR.out 1 _ rfl).1
      have s2 := (HR2.out.kept HKR.out 2 _ rfl).1
      have s3 := (HR2.out.kept HKR.out 3 _ rfl).1
      have s4 := (HR2.out.kept HKR.out 4 _ rfl).1
      have s5 := (HR2.out.kept HKR.out 5 _ rfl).1
      have ls := cell_lt s0
      have KR := Lib.hid kr
      clear hx hxm hok hmb hcl ht hcc hq hon hS hSe hS' kr ho1 ho2
      go_wp2_with (refine wpList_load_mid rfl 120 (.tmp 15) rfl w.heap.size 1 rfl (lkL (lkX fs)) _ HRG.out Tryz.underlying120 rfl (by rw [hi]; simp [lkL_len]) ?_)
      refine (H157.out _).mono ?_
      rintro e w1 ⟨rfl, hk1⟩
      have K1 := Lib.hid (KR.out.trans hk1)
      cases q
      · clear hk1
        go_wp2
        go_roundw
        case rel => exact ⟨k + 1, by omega, by go_num, by rw [HT.out, HSe.out]; rfl, K1.out⟩
        case measure => simp [intOf]; omega
      · have r7 := (RowC.new wr [.int .i64 (on : Int), .int .i64 x.frm, .int .i64 x.unt, .int .u8 x.sg.s0, .int .u8 x.sg.s1, .int .u8 x.sg.s2, .int .u8 x.sg.s3, .int .u8 x.sg.s4, .int .u8 x.sg.s5] 32).kept hk1
        have d0 := (r7 0 _ rfl).1
        have ld := cell_lt d0
        clear hk1 r7
        go_wp2_with fail
        refine (just_any on (by omega) _).mono ?_
        rintro e w2 ⟨rfl, rfl⟩
        go_wp2
        go_roundw
        case rel => exact ⟨k + 1, by omega, by go_num, by rw [HT.out, HSe.out]; rfl, K1.out⟩
        case measure => simp [intOf]; omega
    · obtain rfl : k = n := by omega
      have hT : l.take k = l := List.take_of_length_le (by rw [HL.out.1]; exact Nat.le_refl _)
      rw [hT]
      clear hT
      go_wp2
      go_ret
      exact ⟨rfl, HK.out.trans HKR.out⟩
end Go.Proofs.YtologmoanaccpaaGreatDoor
