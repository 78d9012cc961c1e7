/- ShareTables: the law -/
import Derived.Test.YtcjpecdnenemaaaGreatDoorTB
import Derived.Test.YtcjpecdnenemaaaGreatDoorRX
import Derived.Test.YtcjpecdnenemaaaGreatDoorGR
namespace Go.Proofs.YtcjpecdnenemaaaGreatDoor
set_option linter.all false
open Go.RowKit Go.Shelf

theorem join4_size (a b c d : ByteArray) : (joinB [a, b, c, d]).size = a.size + b.size + c.size + d.size + 3 := by
  show (joinB [a, b, c, d]).data.size = _
  unfold joinB
  simp only [List.map_cons, List.map_nil, Lib.join_cons, Lib.joinTail]
  simp
  omega
theorem join7_size (a b c d e f g : ByteArray) : (joinB [a, b, c, d, e, f, g]).size = a.size + b.size + c.size + d.size + e.size + f.size + g.size + 6 := by
  show (joinB [a, b, c, d, e, f, g]).data.size = _
  unfold joinB
  simp only [List.map_cons, List.map_nil, Lib.join_cons, Lib.joinTail]
  simp
  omega
theorem line_size {x : Eqv} (h : formB x = true) (hs : x.sort.size ≤ 100) : (lineS x).size ≤ 1000 := by
  have f := formS h
  have f1 := f.id; have f2 := f.kno; have f3 := f.off; have f4 := f.frm; have f5 := f.num; have f6 := f.den
  have i1 := itoa_size (x := x.id) (by omega) (by omega)
  have i2 := itoa_size (x := x.kno) (by omega) (by omega)
  have i3 := itoa_size (x := x.off) (by omega) (by omega)
  have i4 := itoa_size (x := x.frm) (by omega) (by omega)
  have i5 := itoa_size (x := x.num) (by omega) (by omega)
  have i6 := itoa_size (x := x.den) (by omega) (by omega)
  have v1 : voidB_.size = 4 := rfl
  have v2 : equalB_.size = 5 := rfl
  unfold lineS
  split
  · rw [join4_size]; omega
  · rw [join7_size]; omega
def AppRes (W : World) (ys : List Eqv) (E : Int) (e : Ending) (w' : World) : Prop := ∃ A c, e = .returned (.tuple #[.slice A ys.length c, .int .i64 E]) ∧ TabA w' A ys.length c ys ∧ Kept W w'
theorem app_of {W w' : World} {e : Ending} {ys : List Eqv} (hs : ∀ y ∈ ys, y.sort.size ≤ 9223372036854775807) (h : TabRes W ys e w') : AppRes W ys 0 e w' := by
  obtain ⟨v, rfl, hown, hk⟩ := h
  rcases own_form hown with ⟨rfl, h0⟩ | ⟨g, c, rfl, _⟩
  · refine ⟨none, 0, by rw [h0], ?_, hk⟩
    exact own_tabA (by rw [h0] at hown ⊢; exact hown) rfl hs
  · exact ⟨_, _, rfl, own_tabA hown rfl hs, hk⟩
theorem app_nil {W w' : World} {e : Ending} {E : Int} (h : e = .returned (.tuple #[.slice none 0 0, .int .i64 E]) ∧ Kept W w') : AppRes W [] E e w' :=
  ⟨none, 0, h.1, ⟨rfl, Nat.le_refl _, by simp, fun x hx => (by cases hx), fun h => by simp at h⟩, h.2⟩
def appL (xs : List Eqv) (x : Eqv) : List Eqv := if (chkS (xs ++ [x])).2 = 0 then xs ++ [x] else []
theorem app_any (A : Option Addr) (n c : Nat) (xs : List Eqv) (x : Eqv) (hn : n ≤ 205) (hs : x.sort.size ≤ 100) (w : World) (h : TabA w A n c xs) :
    Calls Tryz.prog 38 #[.slice A n c, eqV x] w (AppRes w (appL xs x) (chkS (xs ++ [x])).2) := by
  have hss : ∀ y ∈ xs ++ [x], y.sort.size ≤ 9223372036854775807 := fun y hy => by
    rcases List.mem_append.1 hy with hy | hy
    · exact h.2.2.2.1 y hy
    · simp at hy; subst hy; omega
  unfold appL
  by_cases h0 : (chkS (xs ++ [x])).2 = 0
  · rw [if_pos h0, h0]
    exact (append_ok A n c xs x (by omega) (by omega) h0 w h).mono (fun e w' => app_of hss)
  · rw [if_neg h0]
    exact (append_err A n c xs x (by omega) (by omega) _ rfl (by simpa using h0) w h).mono (fun e w' => app_nil)
theorem rapp_any (A : Option Addr) (n c : Nat) (xs : List Eqv) (x : Eqv) (hn : n ≤ 205) (hs : x.sort.size ≤ 100) (w : World) (h : TabA w A n c xs) :
    Calls Tryz.prog 39 #[.slice A n c, eqV x] w (AppRes w (appL xs x) (chkS (xs ++ [x])).2) := by
  have hss : ∀ y ∈ xs ++ [x], y.sort.size ≤ 9223372036854775807 := fun y hy => by
    rcases List.mem_append.1 hy with hy | hy
    · exact h.2.2.2.1 y hy
    · simp at hy; subst hy; omega
  unfold appL
  by_cases h0 : (chkS (xs ++ [x])).2 = 0
  · rw [if_pos h0, h0]
    by_cases hp : 0 < n
    · exact (rappend_pos A n c xs x (by omega) h0 w h hp).mono (fun e w' => app_of hss)
    · obtain rfl : n = 0 := by omega
      obtain rfl : xs = [] := List.eq_nil_of_length_eq_zero h.1
      exact (rappend_zero A c x (by omega) h0 w h).mono (fun e w' => app_of hss)
  · rw [if_neg h0]
    exact (rappend_err A n c xs x (by omega) _ rfl (by simpa using h0) w h).mono (fun e w' => app_nil)
set_option maxRecDepth 100000 in
set_option maxHeartbeats 16000000 in
theorem tables_any (A : Option Addr) (n c : Nat) (xs : List Eqv) (id frm kno num den off : Int) (sort : ByteArray) (hs : sort.size ≤ 9223372036854775807) (line : ByteArray) (hl : line.size ≤ 9223372036854775807) (w : World) (hE : Env w) (hT : TabA w A n c xs) :
    Calls Tryz.prog 5 #[.slice A n c, eqV ⟨id, frm, kno, sort, num, den, off⟩, .string line] w fun e w' => e = .returned (.bool true) ∧ Kept w w' := by
  obtain ⟨W0, hW0⟩ : ∃ W0, W0 = w.alloc (.cells #[.int .i64 id, .int .i64 frm, .int .i64 kno, .string sort, .int .i64 num, .int .i64 den, .int .i64 off] 37) := ⟨_, rfl⟩
  have K0 : RowKit.Hid (Kept w W0) := Lib.hid (by rw [hW0]; exact (Kept.refl _).alloc _)
  have R0 : RowKit.Hid (RowC W0 w.heap.size [.int .i64 id, .int .i64 frm, .int .i64 kno, .string sort, .int .i64 num, .int .i64 den, .int .i64 off]) := Lib.hid (by rw [hW0]; exact RowC.new w [.int .i64 id, .int .i64 frm, .int .i64 kno, .string sort, .int .i64 num, .int .i64 den, .int .i64 off] 37)
  have HW := Lib.hid hW0
  have HT := Lib.hid (hT.kept K0.out)
  have HE := Lib.hid (hE.kept K0.out)
  clear hW0 hE
  have hnc := hT.2.1
  have hcm := hT.2.2.1
  have hsx : sort.size ≤ 9223372036854775807 := hs
  clear hT hs
  have a0 := (R0.out 0 _ rfl).1
  have a1 := (R0.out 1 _ rfl).1
  have a2 := (R0.out 2 _ rfl).1
  have a3 := (R0.out 3 _ rfl).1
  have a4 := (R0.out 4 _ rfl).1
  have a5 := (R0.out 5 _ rfl).1
  have a6 := (R0.out 6 _ rfl).1
  have la := cell_lt a0
  unfold eqV
  dsimp only
  by_cases h1 : 205 < n
  · have d1 : decide ((205 : Int) < (n : Int)) = true := decide_eq_true (by omega)
    go_enter Tryz.func5, Tryz.ntmps5
    go_upto_region 1 with (fail)
    rw [← HW.out]
    go_wp2_with fail
    refine (alive_any _ (HE.out.kept (Kept.refl _))).mono ?_
    rintro e wz ⟨rfl, hkz⟩
    go_wp2
    go_ret
    exact ⟨rfl, K0.out.trans (((Kept.refl _)).trans hkz)⟩
  have d1 : decide ((205 : Int) < (n : Int)) = false := decide_eq_false (by omega)
  by_cases h2 : 300 < line.size
  · have d2 : decide ((300 : Int) < (line.size : Int)) = true := decide_eq_true (by omega)
    go_enter Tryz.func5, Tryz.ntmps5
    go_upto_region 1 with (fail)
    rw [← HW.out]
    go_wp2_with fail
    refine (alive_any _ (HE.out.kept (Kept.refl _))).mono ?_
    rintro e wz ⟨rfl, hkz⟩
    go_wp2
    go_ret
    exact ⟨rfl, K0.out.trans (((Kept.refl _)).trans hkz)⟩
  have d2 : decide ((300 : Int) < (line.size : Int)) = false := decide_eq_false (by omega)
  by_cases h3 : 100 < sort.size
  · have d3 : decide ((100 : Int) < (sort.size : Int)) = true := decide_eq_true (by omega)
    go_enter Tryz.func5, Tryz.ntmps5
    go_upto_region 1 with (fail)
    rw [← HW.out]
    go_wp2_with fail
    refine (alive_any _ (HE.out.kept (Kept.refl _))).mono ?_
    rintro e wz ⟨rfl, hkz⟩
    go_wp2
    go_ret
    exact ⟨rfl, K0.out.trans (((Kept.refl _)).trans hkz)⟩
  have d3 : decide ((100 : Int) < (sort.size : Int)) = false := decide_eq_false (by omega)
  obtain ⟨ck0, ck1, hck⟩ : ∃ p q, chkS xs = (p, q) := ⟨_, _, rfl⟩
  obtain ⟨ys, hys⟩ : ∃ ys, ys = appL xs ⟨id, frm, kno, sort, num, den, off⟩ := ⟨_, rfl⟩
  obtain ⟨E, hEe⟩ : ∃ E, E = (chkS (xs ++ [⟨id, frm, kno, sort, num, den, off⟩])).2 := ⟨_, rfl⟩
  obtain ⟨cb, hcb⟩ : ∃ cb, cb = formB ⟨id, frm, kno, sort, num, den, off⟩ := ⟨_, rfl⟩
  obtain ⟨L, hL⟩ : ∃ L, L = (if cb = true then lineS ⟨id, frm, kno, sort, num, den, off⟩ else ByteArray.empty) := ⟨_, rfl⟩
  obtain ⟨F, hF⟩ : ∃ F, F = errB cb := ⟨_, rfl⟩
  obtain ⟨⟨⟨p0, p1, p2, p3, p4, p5, p6⟩, o⟩, hp⟩ : ∃ r, r = readS line := ⟨_, rfl⟩
  have C36 : RowKit.Hid (∀ W, Kept W0 W → Calls Tryz.prog 36 #[.slice A n c] W fun e w' => e = .returned (.tuple #[.int .i64 ck0, .int .i64 ck1]) ∧ Kept W w') := Lib.hid (fun W hW => by have := check_any A n c xs W (HT.out.kept hW); rw [hck] at this; exact this)
  have C37 : RowKit.Hid (∀ W, Kept W0 W → Calls Tryz.prog 37 #[.slice A n c] W fun e w' => e = .returned (.tuple #[.int .i64 ck0, .int .i64 ck1]) ∧ Kept W w') := Lib.hid (fun W hW => by have := rcheck_any A n c xs W (HT.out.kept hW); rw [hck] at this; exact this)
  have C38 : RowKit.Hid (∀ W, Kept W0 W → Calls Tryz.prog 38 #[.slice A n c, .agg #[.int .i64 id, .int .i64 frm, .int .i64 kno, .string sort, .int .i64 num, .int .i64 den, .int .i64 off]] W (AppRes W ys E)) := Lib.hid (fun W hW => by rw [hys, hEe]; exact app_any A n c xs ⟨id, frm, kno, sort, num, den, off⟩ (by omega) (by show sort.size ≤ 100; omega) W (HT.out.kept hW))
  have C39 : RowKit.Hid (∀ W, Kept W0 W → Calls Tryz.prog 39 #[.slice A n c, .agg #[.int .i64 id, .int .i64 frm, .int .i64 kno, .string sort, .int .i64 num, .int .i64 den, .int .i64 off]] W (AppRes W ys E)) := Lib.hid (fun W hW => by rw [hys, hEe]; exact rapp_any A n c xs ⟨id, frm, kno, sort, num, den, off⟩ (by omega) (by show sort.size ≤ 100; omega) W (HT.out.kept hW))
  have C40 : RowKit.Hid (∀ W, Kept W0 W → Calls Tryz.prog 40 #[.agg #[.int .i64 id, .int .i64 frm, .int .i64 kno, .string sort, .int .i64 num, .int .i64 den, .int .i64 off]] W fun e w' => e = .returned (.tuple #[.string L, .int .i64 F]) ∧ Kept W w') := Lib.hid (fun W hW => by rw [hL, hF, hcb]; exact write_any ⟨id, frm, kno, sort, num, den, off⟩ hsx W (HE.out.kept hW))
  have C41 : RowKit.Hid (∀ W, Calls Tryz.prog 41 #[.agg #[.int .i64 id, .int .i64 frm, .int .i64 kno, .string sort, .int .i64 num, .int .i64 den, .int .i64 off]] W fun e w' => e = .returned (.tuple #[.string L, .int .i64 F]) ∧ Kept W w') := Lib.hid (fun W => by rw [hL, hF, hcb]; exact rwrite_any ⟨id, frm, kno, sort, num, den, off⟩ (by show sort.size ≤ 1000; omega) W)
  have C42 : RowKit.Hid (∀ W, Kept W0 W → Calls Tryz.prog 42 #[.string line] W fun e w' => e = .returned (.tuple #[.agg #[.int .i64 p0, .int .i64 p1, .int .i64 p2, .string p3, .int .i64 p4, .int .i64 p5, .int .i64 p6], .int .i64 o]) ∧ Kept W w') := Lib.hid (fun W hW => by have := read_any line (by omega) W (HE.out.kept hW); rw [← hp] at this; exact this)
  have C43 : RowKit.Hid (∀ W, Calls Tryz.prog 43 #[.string line] W fun e w' => e = .returned (.tuple #[.agg #[.int .i64 p0, .int .i64 p1, .int .i64 p2, .string p3, .int .i64 p4, .int .i64 p5, .int .i64 p6], .int .i64 o]) ∧ Kept W w') := Lib.hid (fun W => by have := rread_any line (by omega) W; rw [← hp] at this; exact this)
  have C45 : RowKit.Hid (∀ W, Calls Tryz.prog 45 #[.agg #[.int .i64 id, .int .i64 frm, .int .i64 kno, .string sort, .int .i64 num, .int .i64 den, .int .i64 off]] W fun e w' => e = .returned (.int .i64 F) ∧ Kept W w') := Lib.hid (fun W => by rw [hF, hcb]; exact checkEqual_any id frm kno num den off sort hsx W)
  have C46 : RowKit.Hid (∀ W, Calls Tryz.prog 46 #[.agg #[.int .i64 id, .int .i64 frm, .int .i64 kno, .string sort, .int .i64 num, .int .i64 den, .int .i64 off]] W fun e w' => e = .returned (.int .i64 F) ∧ Kept W w') := Lib.hid (fun W => by rw [hF, hcb]; exact rcheckEqual_any ⟨id, frm, kno, sort, num, den, off⟩ hsx W)
  have CR : RowKit.Hid (cb = true → ∀ W, Kept W0 W → Calls Tryz.prog 42 #[.string L] W fun e w' => e = .returned (.tuple #[.agg #[.int .i64 id, .int .i64 frm, .int .i64 kno, .string sort, .int .i64 num, .int .i64 den, .int .i64 off], .int .i64 0]) ∧ Kept W w') := Lib.hid (fun ht W hW => by
    have hf : formB ⟨id, frm, kno, sort, num, den, off⟩ = true := by rw [← hcb]; exact ht
    have hz := line_size hf (by show sort.size ≤ 100; omega)
    have := read_any (lineS ⟨id, frm, kno, sort, num, den, off⟩) (by omega) W (HE.out.kept hW)
    rw [read_written hf] at this
    rw [hL, if_pos ht]
    exact this)
  have CW : RowKit.Hid (o = 0 → ∀ W, Kept W0 W → Calls Tryz.prog 40 #[.agg #[.int .i64 p0, .int .i64 p1, .int .i64 p2, .string p3, .int .i64 p4, .int .i64 p5, .int .i64 p6]] W fun e w' => e = .returned (.tuple #[.string line, .int .i64 0]) ∧ Kept W w') := Lib.hid (fun ho W hW => by
    have hr : (readS line).2 = 0 := by rw [← hp]; exact ho
    obtain ⟨k1, k2⟩ := written_read hr
    rw [← hp] at k1 k2
    have hps : p3.size ≤ 9223372036854775807 := by
      have hz : (readS line).1.sort.size ≤ 1000 := by
        rw [readS_pair]
        split
        · exact parseS_sort _ 1000 (fun s hs => Nat.le_trans (words_size line s hs) (by omega))
        · show (0 : Nat) ≤ 1000; omega
      rw [← hp] at hz
      have : p3.size ≤ 1000 := hz
      omega
    have := write_any ⟨p0, p1, p2, p3, p4, p5, p6⟩ hps W (HE.out.kept hW)
    rw [if_pos k1, k1, k2] at this
    exact this)
  have HFC : RowKit.Hid (F = errB cb) := Lib.hid hF
  have hlL : (L.toList == L.toList) = true := by simp
  have hll : (line.toList == line.toList) = true := by simp
  have hss : (sort.toList == sort.toList) = true := by simp
  have hpp : (p3.toList == p3.toList) = true := by simp
  clear hck hys hEe hcb hL hF hp
  go_enter Tryz.func5, Tryz.ntmps5
  go_upto_region 1 with (fail)
  rw [← HW.out]
  go_wp2_with fail
  refine (C36.out _ (Kept.refl _)).mono ?_
  rintro e w1 ⟨rfl, hk1⟩
  have K1 := Lib.hid hk1
  clear hk1
  clear a0 a1 a2 a3 a4 a5 a6 la
  go_wp2_with fail
  refine (C37.out _ K1.out).mono ?_
  rintro e w2 ⟨rfl, hk2⟩
  have K2 := Lib.hid (K1.out.trans hk2)
  clear hk2
  have rr := R0.out.kept K2.out
  have a0 := (rr 0 _ rfl).1
  have a1 := (rr 1 _ rfl).1
  have a2 := (rr 2 _ rfl).1
  have a3 := (rr 3 _ rfl).1
  have a4 := (rr 4 _ rfl).1
  have a5 := (rr 5 _ rfl).1
  have a6 := (rr 6 _ rfl).1
  have la := cell_lt a0
  clear rr
  go_wp2_with fail
  refine (C38.out _ K2.out).mono ?_
  rintro e w3 ⟨B1, c1, rfl, ht3, hk3⟩
  have K3 := Lib.hid (K2.out.trans hk3)
  have T1 := Lib.hid ht3
  clear hk3 ht3
  clear a0 a1 a2 a3 a4 a5 a6 la
  have rr := R0.out.kept K3.out
  have a0 := (rr 0 _ rfl).1
  have a1 := (rr 1 _ rfl).1
  have a2 := (rr 2 _ rfl).1
  have a3 := (rr 3 _ rfl).1
  have a4 := (rr 4 _ rfl).1
  have a5 := (rr 5 _ rfl).1
  have a6 := (rr 6 _ rfl).1
  have la := cell_lt a0
  clear rr
  go_wp2_with fail
  refine (C39.out _ K3.out).mono ?_
  rintro e w4 ⟨B2, c2, rfl, ht4, hk4⟩
  have K4 := Lib.hid (K3.out.trans hk4)
  have T2 := Lib.hid ht4
  have T14 := Lib.hid (T1.out.kept hk4)
  clear hk4 ht4
  clear a0 a1 a2 a3 a4 a5 a6 la
  have rr := R0.out.kept K4.out
  have a0 := (rr 0 _ rfl).1
  have a1 := (rr 1 _ rfl).1
  have a2 := (rr 2 _ rfl).1
  have a3 := (rr 3 _ rfl).1
  have a4 := (rr 4 _ rfl).1
  have a5 := (rr 5 _ rfl).1
  have a6 := (rr 6 _ rfl).1
  have la := cell_lt a0
  clear rr
  go_wp2_with fail
  refine (C40.out _ K4.out).mono ?_
  rintro e w5 ⟨rfl, hk5⟩
  have K5 := Lib.hid (K4.out.trans hk5)
  have S5 := Lib.hid hk5
  clear hk5
  clear a0 a1 a2 a3 a4 a5 a6 la
  have rr := R0.out.kept K5.out
  have a0 := (rr 0 _ rfl).1
  have a1 := (rr 1 _ rfl).1
  have a2 := (rr 2 _ rfl).1
  have a3 := (rr 3 _ rfl).1
  have a4 := (rr 4 _ rfl).1
  have a5 := (rr 5 _ rfl).1
  have a6 := (rr 6 _ rfl).1
  have la := cell_lt a0
  clear rr
  go_wp2_with fail
  refine (C41.out _).mono ?_
  rintro e w6 ⟨rfl, hk6⟩
  have K6 := Lib.hid (K5.out.trans hk6)
  have S6 := Lib.hid (S5.out.trans hk6)
  clear hk6
  clear a0 a1 a2 a3 a4 a5 a6 la
  go_wp2_with fail
  refine (C42.out _ K6.out).mono ?_
  rintro e w7 ⟨rfl, hk7⟩
  obtain ⟨W7, hW7⟩ : ∃ W, W = w7.alloc (.cells #[.int .i64 p0, .int .i64 p1, .int .i64 p2, .string p3, .int .i64 p4, .int .i64 p5, .int .i64 p6] 37) := ⟨_, rfl⟩
  have RP : RowKit.Hid (RowC W7 w7.heap.size [.int .i64 p0, .int .i64 p1, .int .i64 p2, .string p3, .int .i64 p4, .int .i64 p5, .int .i64 p6]) := Lib.hid (by rw [hW7]; exact RowC.new w7 [.int .i64 p0, .int .i64 p1, .int .i64 p2, .string p3, .int .i64 p4, .int .i64 p5, .int .i64 p6] 37)
  have KS7 : RowKit.Hid (Kept w7 W7) := Lib.hid (by rw [hW7]; exact (Kept.refl _).alloc _)
  have K7 : RowKit.Hid (Kept W0 W7) := Lib.hid ((K6.out.trans hk7).trans KS7.out)
  have S7 : RowKit.Hid (Kept w4 W7) := Lib.hid ((S6.out.trans hk7).trans KS7.out)
  have HW7 := Lib.hid hW7
  clear hW7 hk7
  go_upto_region 10 with (fail)
  rw [← HW7.out]
  go_wp2_with fail
  refine (C43.out _).mono ?_
  rintro e w8 ⟨rfl, hk8⟩
  have RP8 := Lib.hid (RP.out.kept hk8)
  obtain ⟨W9, hW9⟩ : ∃ W, W = w8.alloc (.cells #[.int .i64 p0, .int .i64 p1, .int .i64 p2, .string p3, .int .i64 p4, .int .i64 p5, .int .i64 p6] 37) := ⟨_, rfl⟩
  have RQ : RowKit.Hid (RowC W9 w8.heap.size [.int .i64 p0, .int .i64 p1, .int .i64 p2, .string p3, .int .i64 p4, .int .i64 p5, .int .i64 p6]) := Lib.hid (by rw [hW9]; exact RowC.new w8 [.int .i64 p0, .int .i64 p1, .int .i64 p2, .string p3, .int .i64 p4, .int .i64 p5, .int .i64 p6] 37)
  have KS9 : RowKit.Hid (Kept w8 W9) := Lib.hid (by rw [hW9]; exact (Kept.refl _).alloc _)
  have K9 : RowKit.Hid (Kept W0 W9) := Lib.hid ((K7.out.trans hk8).trans KS9.out)
  have S9 : RowKit.Hid (Kept w4 W9) := Lib.hid ((S7.out.trans hk8).trans KS9.out)
  have HW9 := Lib.hid hW9
  have RP9 := Lib.hid (RP8.out.kept KS9.out)
  clear hW9 hk8
  have C44 : RowKit.Hid (∀ W, Kept W9 W → Calls Tryz.prog 44 #[.slice B1 ys.length c1, .slice B2 ys.length c2] W fun e w' => e = .returned (.bool true) ∧ Kept W w') := Lib.hid (fun W hW => sameE_any B1 B2 ys.length c1 c2 ys W (T14.out.kept (S9.out.trans hW)) (T2.out.kept (S9.out.trans hW)))
  go_upto_region 11 with (fail)
  rw [← HW9.out]
  go_cut [129] (fun sa wx => sa = .bool false ∧ Kept W9 wx)
  case first =>
    have SB : RowKit.Hid (∀ W, Kept W9 W → W.cell? ⟨w.heap.size, 0, none⟩ = some (.int .i64 id) ∧ W.cell? ⟨w.heap.size, 1, none⟩ = some (.int .i64 frm) ∧ W.cell? ⟨w.heap.size, 2, none⟩ = some (.int .i64 kno) ∧ W.cell? ⟨w.heap.size, 3, none⟩ = some (.string sort) ∧ W.cell? ⟨w.heap.size, 4, none⟩ = some (.int .i64 num) ∧ W.cell? ⟨w.heap.size, 5, none⟩ = some (.int .i64 den) ∧ W.cell? ⟨w.heap.size, 6, none⟩ = some (.int .i64 off) ∧ W.cell? ⟨w7.heap.size, 0, none⟩ = some (.int .i64 p0) ∧ W.cell? ⟨w7.heap.size, 1, none⟩ = some (.int .i64 p1) ∧ W.cell? ⟨w7.heap.size, 2, none⟩ = some (.int .i64 p2) ∧ W.cell? ⟨w7.heap.size, 3, none⟩ = some (.string p3) ∧ W.cell? ⟨w7.heap.size, 4, none⟩ = some (.int .i64 p4) ∧ W.cell? ⟨w7.heap.size, 5, none⟩ = some (.int .i64 p5) ∧ W.cell? ⟨w7.heap.size, 6, none⟩ = some (.int .i64 p6) ∧ W.cell? ⟨w8.heap.size, 0, none⟩ = some (.int .i64 p0) ∧ W.cell? ⟨w8.heap.size, 1, none⟩ = some (.int .i64 p1) ∧ W.cell? ⟨w8.heap.size, 2, none⟩ = some (.int .i64 p2) ∧ W.cell? ⟨w8.heap.size, 3, none⟩ = some (.string p3) ∧ W.cell? ⟨w8.heap.size, 4, none⟩ = some (.int .i64 p4) ∧ W.cell? ⟨w8.heap.size, 5, none⟩ = some (.int .i64 p5) ∧ W.cell? ⟨w8.heap.size, 6, none⟩ = some (.int .i64 p6) ∧ Kept W9 W) := Lib.hid (fun W hW => ⟨((R0.out.kept (K9.out.trans hW)) 0 _ rfl).1, ((R0.out.kept (K9.out.trans hW)) 1 _ rfl).1, ((R0.out.kept (K9.out.trans hW)) 2 _ rfl).1, ((R0.out.kept (K9.out.trans hW)) 3 _ rfl).1, ((R0.out.kept (K9.out.trans hW)) 4 _ rfl).1, ((R0.out.kept (K9.out.trans hW)) 5 _ rfl).1, ((R0.out.kept (K9.out.trans hW)) 6 _ rfl).1, ((RP9.out.kept hW) 0 _ rfl).1, ((RP9.out.kept hW) 1 _ rfl).1, ((RP9.out.kept hW) 2 _ rfl).1, ((RP9.out.kept hW) 3 _ rfl).1, ((RP9.out.kept hW) 4 _ rfl).1, ((RP9.out.kept hW) 5 _ rfl).1, ((RP9.out.kept hW) 6 _ rfl).1, ((RQ.out.kept hW) 0 _ rfl).1, ((RQ.out.kept hW) 1 _ rfl).1, ((RQ.out.kept hW) 2 _ rfl).1, ((RQ.out.kept hW) 3 _ rfl).1, ((RQ.out.kept hW) 4 _ rfl).1, ((RQ.out.kept hW) 5 _ rfl).1, ((RQ.out.kept hW) 6 _ rfl).1, hW⟩)
    have SST : RowKit.Hid (∀ W W', (W.cell? ⟨w.heap.size, 0, none⟩ = some (.int .i64 id) ∧ W.cell? ⟨w.heap.size, 1, none⟩ = some (.int .i64 frm) ∧ W.cell? ⟨w.heap.size, 2, none⟩ = some (.int .i64 kno) ∧ W.cell? ⟨w.heap.size, 3, none⟩ = some (.string sort) ∧ W.cell? ⟨w.heap.size, 4, none⟩ = some (.int .i64 num) ∧ W.cell? ⟨w.heap.size, 5, none⟩ = some (.int .i64 den) ∧ W.cell? ⟨w.heap.size, 6, none⟩ = some (.int .i64 off) ∧ W.cell? ⟨w7.heap.size, 0, none⟩ = some (.int .i64 p0) ∧ W.cell? ⟨w7.heap.size, 1, none⟩ = some (.int .i64 p1) ∧ W.cell? ⟨w7.heap.size, 2, none⟩ = some (.int .i64 p2) ∧ W.cell? ⟨w7.heap.size, 3, none⟩ = some (.string p3) ∧ W.cell? ⟨w7.heap.size, 4, none⟩ = some (.int .i64 p4) ∧ W.cell? ⟨w7.heap.size, 5, none⟩ = some (.int .i64 p5) ∧ W.cell? ⟨w7.heap.size, 6, none⟩ = some (.int .i64 p6) ∧ W.cell? ⟨w8.heap.size, 0, none⟩ = some (.int .i64 p0) ∧ W.cell? ⟨w8.heap.size, 1, none⟩ = some (.int .i64 p1) ∧ W.cell? ⟨w8.heap.size, 2, none⟩ = some (.int .i64 p2) ∧ W.cell? ⟨w8.heap.size, 3, none⟩ = some (.string p3) ∧ W.cell? ⟨w8.heap.size, 4, none⟩ = some (.int .i64 p4) ∧ W.cell? ⟨w8.heap.size, 5, none⟩ = some (.int .i64 p5) ∧ W.cell? ⟨w8.heap.size, 6, none⟩ = some (.int .i64 p6) ∧ Kept W9 W) → Kept W W' → W'.cell? ⟨w.heap.size, 0, none⟩ = some (.int .i64 id) ∧ W'.cell? ⟨w.heap.size, 1, none⟩ = some (.int .i64 frm) ∧ W'.cell? ⟨w.heap.size, 2, none⟩ = some (.int .i64 kno) ∧ W'.cell? ⟨w.heap.size, 3, none⟩ = some (.string sort) ∧ W'.cell? ⟨w.heap.size, 4, none⟩ = some (.int .i64 num) ∧ W'.cell? ⟨w.heap.size, 5, none⟩ = some (.int .i64 den) ∧ W'.cell? ⟨w.heap.size, 6, none⟩ = some (.int .i64 off) ∧ W'.cell? ⟨w7.heap.size, 0, none⟩ = some (.int .i64 p0) ∧ W'.cell? ⟨w7.heap.size, 1, none⟩ = some (.int .i64 p1) ∧ W'.cell? ⟨w7.heap.size, 2, none⟩ = some (.int .i64 p2) ∧ W'.cell? ⟨w7.heap.size, 3, none⟩ = some (.string p3) ∧ W'.cell? ⟨w7.heap.size, 4, none⟩ = some (.int .i64 p4) ∧ W'.cell? ⟨w7.heap.size, 5, none⟩ = some (.int .i64 p5) ∧ W'.cell? ⟨w7.heap.size, 6, none⟩ = some (.int .i64 p6) ∧ W'.cell? ⟨w8.heap.size, 0, none⟩ = some (.int .i64 p0) ∧ W'.cell? ⟨w8.heap.size, 1, none⟩ = some (.int .i64 p1) ∧ W'.cell? ⟨w8.heap.size, 2, none⟩ = some (.int .i64 p2) ∧ W'.cell? ⟨w8.heap.size, 3, none⟩ = some (.string p3) ∧ W'.cell? ⟨w8.heap.size, 4, none⟩ = some (.int .i64 p4) ∧ W'.cell? ⟨w8.heap.size, 5, none⟩ = some (.int .i64 p5) ∧ W'.cell? ⟨w8.heap.size, 6, none⟩ = some (.int .i64 p6) ∧ Kept W9 W') := Lib.hid (fun W W' h hk => SB.out W' (Kept.trans (h.2.2.2.2.2.2.2.2.2.2.2.2.2.2.2.2.2.2.2.2.2) hk))
    have SB1 := Lib.hid (SB.out _ ((Kept.refl W9).drew))
    have rr := R0.out.kept K9.out
    have a0 := (rr 0 _ rfl).1
    have a1 := (rr 1 _ rfl).1
    have a2 := (rr 2 _ rfl).1
    have a3 := (rr 3 _ rfl).1
    have a4 := (rr 4 _ rfl).1
    have a5 := (rr 5 _ rfl).1
    have a6 := (rr 6 _ rfl).1
    have la := cell_lt a0
    have rp := RP9.out
    have b0 := (rp 0 _ rfl).1
    have b1 := (rp 1 _ rfl).1
    have b2 := (rp 2 _ rfl).1
    have b3 := (rp 3 _ rfl).1
    have b4 := (rp 4 _ rfl).1
    have b5 := (rp 5 _ rfl).1
    have b6 := (rp 6 _ rfl).1
    have lb := cell_lt b0
    have rq := RQ.out
    have c0 := (rq 0 _ rfl).1
    have c1 := (rq 1 _ rfl).1
    have c2 := (rq 2 _ rfl).1
    have c3 := (rq 3 _ rfl).1
    have c4 := (rq 4 _ rfl).1
    have c5 := (rq 5 _ rfl).1
    have c6 := (rq 6 _ rfl).1
    have lc := cell_lt c0
    clear rr rp rq
    go_region_held3 (fun W => W.cell? ⟨w.heap.size, 0, none⟩ = some (.int .i64 id) ∧ W.cell? ⟨w.heap.size, 1, none⟩ = some (.int .i64 frm) ∧ W.cell? ⟨w.heap.size, 2, none⟩ = some (.int .i64 kno) ∧ W.cell? ⟨w.heap.size, 3, none⟩ = some (.string sort) ∧ W.cell? ⟨w.heap.size, 4, none⟩ = some (.int .i64 num) ∧ W.cell? ⟨w.heap.size, 5, none⟩ = some (.int .i64 den) ∧ W.cell? ⟨w.heap.size, 6, none⟩ = some (.int .i64 off) ∧ W.cell? ⟨w7.heap.size, 0, none⟩ = some (.int .i64 p0) ∧ W.cell? ⟨w7.heap.size, 1, none⟩ = some (.int .i64 p1) ∧ W.cell? ⟨w7.heap.size, 2, none⟩ = some (.int .i64 p2) ∧ W.cell? ⟨w7.heap.size, 3, none⟩ = some (.string p3) ∧ W.cell? ⟨w7.heap.size, 4, none⟩ = some (.int .i64 p4) ∧ W.cell? ⟨w7.heap.size, 5, none⟩ = some (.int .i64 p5) ∧ W.cell? ⟨w7.heap.size, 6, none⟩ = some (.int .i64 p6) ∧ W.cell? ⟨w8.heap.size, 0, none⟩ = some (.int .i64 p0) ∧ W.cell? ⟨w8.heap.size, 1, none⟩ = some (.int .i64 p1) ∧ W.cell? ⟨w8.heap.size, 2, none⟩ = some (.int .i64 p2) ∧ W.cell? ⟨w8.heap.size, 3, none⟩ = some (.string p3) ∧ W.cell? ⟨w8.heap.size, 4, none⟩ = some (.int .i64 p4) ∧ W.cell? ⟨w8.heap.size, 5, none⟩ = some (.int .i64 p5) ∧ W.cell? ⟨w8.heap.size, 6, none⟩ = some (.int .i64 p6) ∧ Kept W9 W) (first | (with_reducible exact SB1.out) | (with_reducible assumption) | (with_reducible refine SST.out _ _ ?_ hkk; assumption) | fail) (first | fail | (go_at_call 44; refine (C44.out _ (by obtain ⟨-, -, -, -, -, -, -, -, -, -, -, -, -, -, -, -, -, -, -, -, -, hz⟩ := ‹_ ∧ _›; exact hz)).mono ?_; rintro e wk ⟨rfl, hkk⟩) | (go_at_call 44; refine (C44.out _ ((Kept.refl W9).drew)).mono ?_; rintro e wk ⟨rfl, hkk⟩) | (go_at_call 45; refine (C45.out _).mono ?_; rintro e wk ⟨rfl, hkk⟩) | (go_at_call 46; refine (C46.out _).mono ?_; rintro e wk ⟨rfl, hkk⟩))
    all_goals
      obtain ⟨-, -, -, -, -, -, -, -, -, -, -, -, -, -, -, -, -, -, -, -, -, hkz⟩ := ‹_ ∧ _›
      go_wp2
      go_meet
      exact ⟨rfl, hkz⟩
  obtain ⟨rfl, kx⟩ := hcut
  obtain ⟨w10, rfl⟩ : ∃ w10, w10 = wc := ⟨_, rfl⟩
  have K10 := Lib.hid (K9.out.trans kx)
  have RP10 := Lib.hid (RP9.out.kept kx)
  clear kx
  have he1 : ((1 : Int) == 0) = false := by decide
  have he0 : ((0 : Int) == 0) = true := by decide
  have hn0 : ((0 : Int) != 0) = false := by decide
  rcases cb with _ | _
  · have e1 : F = 1 := HFC.out
    subst e1
    by_cases ho : o = 0
    · have rp := RP10.out
      have b0 := (rp 0 _ rfl).1
      have b1 := (rp 1 _ rfl).1
      have b2 := (rp 2 _ rfl).1
      have b3 := (rp 3 _ rfl).1
      have b4 := (rp 4 _ rfl).1
      have b5 := (rp 5 _ rfl).1
      have b6 := (rp 6 _ rfl).1
      have lb := cell_lt b0
      clear rp
      have CW0 := CW.out ho
      subst ho
      go_wp2_with fail
      refine (CW0 _ K10.out).mono ?_
      rintro e w13 ⟨rfl, hk13⟩
      have K13 := Lib.hid (K10.out.trans hk13)
      clear hk13
      clear b0 b1 b2 b3 b4 b5 b6 lb
      go_wp2_with fail
      refine (alive_any _ (HE.out.kept K13.out)).mono ?_
      rintro e wz ⟨rfl, hkz⟩
      go_wp2
      go_ret
      exact ⟨rfl, K0.out.trans ((K13.out).trans hkz)⟩
    · have hob : (o == 0) = false := by simpa using ho
      go_wp2_with fail
      refine (alive_any _ (HE.out.kept K10.out)).mono ?_
      rintro e wz ⟨rfl, hkz⟩
      go_wp2
      go_ret
      exact ⟨rfl, K0.out.trans ((K10.out).trans hkz)⟩
  · have e1 : F = 0 := HFC.out
    subst e1
    go_wp2_with fail
    refine (CR.out (by first | rfl | trivial) _ K10.out).mono ?_
    rintro e w11 ⟨rfl, hk11⟩
    obtain ⟨W12, hW12⟩ : ∃ W, W = w11.alloc (.cells #[.int .i64 id, .int .i64 frm, .int .i64 kno, .string sort, .int .i64 num, .int .i64 den, .int .i64 off] 37) := ⟨_, rfl⟩
    have RN : RowKit.Hid (RowC W12 w11.heap.size [.int .i64 id, .int .i64 frm, .int .i64 kno, .string sort, .int .i64 num, .int .i64 den, .int .i64 off]) := Lib.hid (by rw [hW12]; exact RowC.new w11 [.int .i64 id, .int .i64 frm, .int .i64 kno, .string sort, .int .i64 num, .int .i64 den, .int .i64 off] 37)
    have KS12 : RowKit.Hid (Kept w11 W12) := Lib.hid (by rw [hW12]; exact (Kept.refl _).alloc _)
    have K12 := Lib.hid (K10.out.trans (hk11.trans KS12.out))
    have RP12 := Lib.hid (RP10.out.kept (hk11.trans KS12.out))
    have HW12 := Lib.hid hW12
    clear hW12 hk11
    go_upto_region 15 with (fail)
    rw [← HW12.out]
    have rr := R0.out.kept K12.out
    have rn := RN.out
    have a0 := (rr 0 _ rfl).1
    have a1 := (rr 1 _ rfl).1
    have a2 := (rr 2 _ rfl).1
    have a3 := (rr 3 _ rfl).1
    have a4 := (rr 4 _ rfl).1
    have a5 := (rr 5 _ rfl).1
    have a6 := (rr 6 _ rfl).1
    have la := cell_lt a0
    have d0 := (rn 0 _ rfl).1
    have d1 := (rn 1 _ rfl).1
    have d2 := (rn 2 _ rfl).1
    have d3 := (rn 3 _ rfl).1
    have d4 := (rn 4 _ rfl).1
    have d5 := (rn 5 _ rfl).1
    have d6 := (rn 6 _ rfl).1
    have ld := cell_lt d0
    clear rr rn
    by_cases ho : o = 0
    · have rp := RP12.out
      have b0 := (rp 0 _ rfl).1
      have b1 := (rp 1 _ rfl).1
      have b2 := (rp 2 _ rfl).1
      have b3 := (rp 3 _ rfl).1
      have b4 := (rp 4 _ rfl).1
      have b5 := (rp 5 _ rfl).1
      have b6 := (rp 6 _ rfl).1
      have lb := cell_lt b0
      clear rp
      have CW0 := CW.out ho
      subst ho
      go_wp2_with fail
      refine (CW0 _ K12.out).mono ?_
      rintro e w13 ⟨rfl, hk13⟩
      have K13 := Lib.hid (K12.out.trans hk13)
      clear hk13
      clear b0 b1 b2 b3 b4 b5 b6 lb
      go_wp2_with fail
      refine (alive_any _ (HE.out.kept K13.out)).mono ?_
      rintro e wz ⟨rfl, hkz⟩
      go_wp2
      go_ret
      exact ⟨rfl, K0.out.trans ((K13.out).trans hkz)⟩
    · have hob : (o == 0) = false := by simpa using ho
      go_wp2_with fail
      refine (alive_any _ (HE.out.kept K12.out)).mono ?_
      rintro e wz ⟨rfl, hkz⟩
      go_wp2
      go_ret
      exact ⟨rfl, K0.out.trans ((K12.out).trans hkz)⟩
end Go.Proofs.YtcjpecdnenemaaaGreatDoor
