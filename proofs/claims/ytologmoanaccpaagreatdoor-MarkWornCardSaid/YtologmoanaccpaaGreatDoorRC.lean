/-
  the order of lists: isNaN, cmp.Compare, slices.Compare, cmp.Or, compareLists
  the parts of a set: parts and its iterator
-/
import Derived.Test.YtologmoanaccpaaGreatDoorMe
import Derived.Test.YtologmoanaccpaaGreatDoorNA
namespace Go.Proofs.YtologmoanaccpaaGreatDoor
set_option linter.all false
open Go.RowKit Go.Shelf

def cmpI (x y : Int) : Int := if x < y then -1 else if y < x then 1 else 0
def cmpL : List Int → List Int → Int
  | [], b => if 0 < b.length then -1 else 0
  | _ :: _, [] => 1
  | x :: a, y :: b => if cmpI x y = 0 then cmpL a b else cmpI x y
def cmpLL (a b : List Int) : Int := fstE [cmpI a.length b.length, cmpL a b]
structure IntR (W : World) (A : Option Addr) (n c : Nat) (xs : List Int) : Prop where
  (ln : xs.length = n) (sz : n ≤ 1000)
  (fa : 0 < n → ∃ b off, A = some ⟨b, off, none⟩ ∧ ∀ j x, xs[j]? = some x → W.cell? ⟨b, off + j, none⟩ = some (.int .i64 x))
theorem IntR.kept {w w' : World} {A : Option Addr} {n c : Nat} {xs : List Int} (h : IntR w A n c xs) (hk : Kept w w') : IntR w' A n c xs :=
  ⟨h.ln, h.sz, fun hn => by
    obtain ⟨b, off, e, ht⟩ := h.fa hn
    exact ⟨b, off, e, fun j x hj => (hk.cells _ _ (cell_lt (ht j x hj))).trans (ht j x hj)⟩⟩
theorem cmpI_zero {x y : Int} (h : cmpI x y = 0) : x = y := by
  unfold cmpI at h
  split at h
  · omega
  · split at h <;> omega
theorem cmpI_self (x : Int) : cmpI x x = 0 := by
  unfold cmpI
  rw [if_neg (by omega), if_neg (by omega)]
theorem cmpL_drop {xs ys : List Int} : ∀ k, k ≤ xs.length → (∀ i x, i < k → xs[i]? = some x → ys[i]? = some x) → cmpL xs ys = cmpL (xs.drop k) (ys.drop k)
  | 0, _, _ => rfl
  | k + 1, hk, h => by
    have ih := cmpL_drop k (by omega) (fun i x hi => h i x (by omega))
    have h1 : xs[k]? = some xs[k] := List.getElem?_eq_getElem (by omega)
    have h2 := h k _ (by omega) h1
    have h3 := (List.getElem?_eq_some_iff.1 h2).1
    have h4 := (List.getElem?_eq_some_iff.1 h2).2
    rw [ih, List.drop_eq_getElem_cons (by omega : k < xs.length), List.drop_eq_getElem_cons h3, h4]
    simp only [cmpL, cmpI_self, if_true]
theorem cmpL_gt {xs ys : List Int} {k : Nat} (hk : k < xs.length) (h : ∀ i x, i < k → xs[i]? = some x → ys[i]? = some x) (hy : ys.length ≤ k) : cmpL xs ys = 1 := by
  rw [cmpL_drop k (by omega) h, List.drop_eq_getElem_cons hk, List.drop_eq_nil_of_le hy]
  rfl
theorem cmpL_at {xs ys : List Int} {k : Nat} {x y : Int} (hx : xs[k]? = some x) (hy : ys[k]? = some y) (h : ∀ i x, i < k → xs[i]? = some x → ys[i]? = some x) (hne : cmpI x y ≠ 0) : cmpL xs ys = cmpI x y := by
  obtain ⟨h1, h2⟩ := List.getElem?_eq_some_iff.1 hx
  obtain ⟨h3, h4⟩ := List.getElem?_eq_some_iff.1 hy
  rw [cmpL_drop k (by omega) h, List.drop_eq_getElem_cons h1, List.drop_eq_getElem_cons h3, h2, h4]
  simp only [cmpL, if_neg hne]
theorem cmpL_end {xs ys : List Int} (h : ∀ i x, i < xs.length → xs[i]? = some x → ys[i]? = some x) : cmpL xs ys = if xs.length < ys.length then -1 else 0 := by
  rw [cmpL_drop xs.length (Nat.le_refl _) h, List.drop_length]
  simp only [cmpL, List.length_drop]
  by_cases hl : xs.length < ys.length
  · rw [if_pos (by omega), if_pos hl]
  · rw [if_neg (by omega), if_neg hl]
theorem isNaN_any (x : Int) (w : World) : Calls Tryz.prog 212 #[.int .i64 x] w fun e w' => e = .returned (.bool false) ∧ w = w' := by
  have h : (x != x) = false := by simp
  go_enter Tryz.func212, Tryz.ntmps212
  go_wp2_with fail
  go_ret
  exact ⟨rfl, rfl⟩
theorem cmpCompare_any (x y : Int) (w : World) : Calls Tryz.prog 174 #[.int .i64 x, .int .i64 y] w fun e w' => e = .returned (.int .i64 (cmpI x y)) ∧ w = w' := by
  go_enter Tryz.func174, Tryz.ntmps174
  go_wp2_with fail
  refine (isNaN_any x w).mono ?_
  rintro e w1 ⟨rfl, rfl⟩
  go_wp2_with fail
  refine (isNaN_any y _).mono ?_
  rintro e w1 ⟨rfl, rfl⟩
  by_cases h1 : x < y
  · go_wp2_with fail
    go_ret
    exact ⟨by unfold cmpI; rw [if_pos (by omega)]; rfl, rfl⟩
  · by_cases h2 : y < x
    · go_wp2_with fail
      go_ret
      exact ⟨by unfold cmpI; rw [if_neg (by omega), if_pos (by omega)]; rfl, rfl⟩
    · go_wp2_with fail
      go_ret
      exact ⟨by unfold cmpI; rw [if_neg (by omega), if_neg (by omega)]; rfl, rfl⟩
set_option maxRecDepth 100000 in
set_option maxHeartbeats 3200000 in
theorem cmpOr_any (b off n c : Nat) (xs : List Int) (hn : xs.length = n) (hb : n ≤ 1000) (w : World) (hc : ∀ j x, xs[j]? = some x → w.cell? ⟨b, off + j, none⟩ = some (.int .i64 x)) :
    Calls Tryz.prog 173 #[.slice (some ⟨b, off, none⟩) n c] w fun e w' => e = .returned (.int .i64 (fstE xs)) ∧ w = w' := by
  have HN := Lib.hid hn
  have HC := Lib.hid hc
  clear hn hc
  go_enter Tryz.func173, Tryz.ntmps173
  go_wp2_with fail
  go_loop [8] (fun i => ∃ k : Nat, k ≤ n ∧ i = .int .i64 k ∧ (∀ j x, j < k → xs[j]? = some x → x = 0)) (fun i => n - (intOf i).toNat)
  case atStart => exact ⟨0, by omega, by first | rfl | go_num, fun j x hj => by omega⟩
  case round =>
    obtain ⟨k, hk, rfl, ho⟩ := hrel
    have Ho := Lib.hid ho
    clear ho
    by_cases hlt : k < n
    · obtain ⟨x, hx⟩ : ∃ x, xs[k]? = some x := ⟨_, List.getElem?_eq_getElem (by rw [HN.out]; exact hlt)⟩
      have c0 := HC.out k x hx
      have Hx := Lib.hid hx
      clear hx
      by_cases hz : x = 0
      · subst hz
        go_wp2
        go_round
        case rel =>
          refine ⟨k + 1, by omega, by go_num, fun j y hj hy => ?_⟩
          rcases Nat.lt_or_eq_of_le (Nat.le_of_lt_succ hj) with h | h
          · exact Ho.out j y h hy
          · subst h
            have := Hx.out
            rw [hy] at this
            cases this
            rfl
        case measure => simp [intOf]; omega
      · have hne : (x != 0) = true := by simpa using hz
        have HZ := Lib.hid hz
        clear hz
        go_wp2
        go_ret
        exact ⟨ret_int (fstE_at xs k x Hx.out HZ.out Ho.out).symm, rfl⟩
    · obtain rfl : k = n := by omega
      go_wp2
      go_ret
      exact ⟨ret_int (fstE_zero xs (fun j y hy => Ho.out j y (by rw [← HN.out]; exact (List.getElem?_eq_some_iff.1 hy).1) hy)).symm, rfl⟩
set_option maxRecDepth 100000 in
set_option maxHeartbeats 3200000 in
theorem slicesCompare_any (A B : Option Addr) (n c m d : Nat) (xs ys : List Int) (w : World) (hx : IntR w A n c xs) (hy : IntR w B m d ys) :
    Calls Tryz.prog 175 #[.slice A n c, .slice B m d] w fun e w' => e = .returned (.int .i64 (cmpL xs ys)) ∧ w = w' := by
  have HX := Lib.hid hx
  have HY := Lib.hid hy
  have hn := hx.sz
  have hm := hy.sz
  have HC : RowKit.Hid (∀ x y W, Calls Tryz.prog 174 #[.int .i64 x, .int .i64 y] W fun e w' => e = .returned (.int .i64 (cmpI x y)) ∧ W = w') := Lib.hid (fun x y W => cmpCompare_any x y W)
  clear hx hy
  go_enter Tryz.func175, Tryz.ntmps175
  go_wp2_with fail
  go_loop [11] (fun i => ∃ k : Nat, k ≤ n ∧ i = .int .i64 k ∧ (∀ j x, j < k → xs[j]? = some x → ys[j]? = some x)) (fun i => n - (intOf i).toNat)
  case atStart => exact ⟨0, by omega, by first | rfl | go_num, fun j x hj => by omega⟩
  case round =>
    obtain ⟨k, hk, rfl, ho⟩ := hrel
    have Ho := Lib.hid ho
    clear ho
    by_cases hlt : k < n
    · obtain ⟨x, hx⟩ : ∃ x, xs[k]? = some x := ⟨_, List.getElem?_eq_getElem (by rw [HX.out.ln]; exact hlt)⟩
      obtain ⟨b, off, hA, ht⟩ := HX.out.fa (by omega)
      subst hA
      have c0 := ht k x hx
      have Hx := Lib.hid hx
      clear hx ht
      by_cases hk2 : k < m
      · obtain ⟨y, hy⟩ : ∃ y, ys[k]? = some y := ⟨_, List.getElem?_eq_getElem (by rw [HY.out.ln]; exact hk2)⟩
        obtain ⟨b2, off2, hB, ht2⟩ := HY.out.fa (by omega)
        subst hB
        have c1 := ht2 k y hy
        have Hy := Lib.hid hy
        clear hy ht2
        go_wp2_with fail
        refine (HC.out x y w).mono ?_
        rintro e w1 ⟨rfl, rfl⟩
        obtain ⟨z, hz⟩ : ∃ z, cmpI x y = z := ⟨_, rfl⟩
        rw [hz]
        have HZ := Lib.hid hz
        clear hz
        by_cases h0 : z = 0
        · subst h0
          go_wp2_with fail
          go_round
          case rel =>
            refine ⟨k + 1, by omega, by go_num, fun j u hj hu => ?_⟩
            rcases Nat.lt_or_eq_of_le (Nat.le_of_lt_succ hj) with h | h
            · exact Ho.out j u h hu
            · subst h
              have := Hx.out
              rw [hu] at this
              cases this
              rw [cmpI_zero HZ.out]
              exact Hy.out
          case measure => simp [intOf]; omega
        · have hne : (z != 0) = true := by simpa using h0
          have H0 := Lib.hid h0
          clear h0
          go_wp2_with fail
          go_ret
          exact ⟨ret_int (by rw [cmpL_at Hx.out Hy.out Ho.out (by rw [HZ.out]; exact H0.out), HZ.out]), rfl⟩
      · go_wp2_with fail
        go_ret
        exact ⟨ret_int (cmpL_gt (by rw [HX.out.ln]; exact hlt) Ho.out (by rw [HY.out.ln]; omega)).symm, rfl⟩
    · obtain rfl : k = n := by omega
      have he : cmpL xs ys = if k < m then -1 else 0 := by
        rw [cmpL_end (fun j x hj hx => Ho.out j x (by rw [← HX.out.ln]; exact hj) hx), HX.out.ln, HY.out.ln]
      have HEE := Lib.hid he
      clear he
      by_cases h3 : k < m
      · go_wp2_with fail
        go_ret
        exact ⟨by rw [HEE.out, if_pos (by omega)]; rfl, rfl⟩
      · go_wp2_with fail
        go_ret
        exact ⟨by rw [HEE.out, if_neg (by omega)]; rfl, rfl⟩
theorem compareLists_any (A B : Option Addr) (n c m d : Nat) (xs ys : List Int) (w : World) (hx : IntR w A n c xs) (hy : IntR w B m d ys) :
    Calls Tryz.prog 112 #[.slice A n c, .slice B m d] w fun e w' => e = .returned (.int .i64 (cmpLL xs ys)) ∧ Kept w w' := by
  obtain ⟨z1, hz1⟩ : ∃ z, cmpI (n : Int) (m : Int) = z := ⟨_, rfl⟩
  obtain ⟨z2, hz2⟩ : ∃ z, cmpL xs ys = z := ⟨_, rfl⟩
  have h1 := cmpCompare_any (n : Int) (m : Int) w
  have h2 := slicesCompare_any A B n c m d xs ys w hx hy
  rw [hz1] at h1
  rw [hz2] at h2
  have HH : RowKit.Hid (cmpLL xs ys = fstE [z1, z2]) := Lib.hid (by unfold cmpLL; rw [hx.ln, hy.ln, hz1, hz2])
  have H1 := Lib.hid h1
  have H2 := Lib.hid h2
  have H3 : RowKit.Hid (∀ W g, RowC W g [.int .i64 z1, .int .i64 z2] → Calls Tryz.prog 173 #[.slice (some ⟨g, 0, none⟩) 2 2] W fun e w' => e = .returned (.int .i64 (fstE [z1, z2])) ∧ W = w') := Lib.hid (fun W g hr => cmpOr_any g 0 2 2 [z1, z2] rfl (by omega) W (fun j x hj => by rw [Nat.zero_add]; exact (hr j (.int .i64 x) (by
    match j, hj with
    | 0, hj => simpa using hj
    | 1, hj => simpa using hj
    | j + 2, hj => simp at hj)).1))
  clear hx hy hz1 hz2 h1 h2
  go_enter Tryz.func112, Tryz.ntmps112
  go_wp2_with fail
  refine H1.out.mono ?_
  rintro e w1 ⟨rfl, rfl⟩
  go_wp2_with fail
  refine H2.out.mono ?_
  rintro e w1 ⟨rfl, rfl⟩
  go_wp2_with fail
  refine (H3.out _ _ (RowC.new _ _ _)).mono ?_
  rintro e w3 ⟨rfl, rfl⟩
  go_wp2_with fail
  go_ret
  exact ⟨by rw [HH.out]; rfl, (Kept.refl _).alloc _⟩
end Go.Proofs.YtologmoanaccpaaGreatDoor

namespace Go.Proofs.YtologmoanaccpaaGreatDoor
set_option linter.all false
open Go.RowKit Go.Shelf

theorem land_div (a b : Nat) : (a &&& b) / 2 = (a / 2) &&& (b / 2) := by
  apply Nat.eq_of_testBit_eq
  intro i
  rw [Nat.testBit_and, ← Nat.testBit_succ, ← Nat.testBit_succ, ← Nat.testBit_succ, Nat.testBit_and]
theorem land_mod (a b : Nat) : (a &&& b) % 2 = 1 ↔ a % 2 = 1 ∧ b % 2 = 1 := by
  have h := Nat.testBit_and a b 0
  simp only [Nat.testBit_zero] at h
  by_cases h1 : a % 2 = 1 <;> by_cases h2 : b % 2 = 1 <;> simp [h1, h2] at h ⊢ <;> omega
theorem land_eq (a b : Nat) : a &&& b = 2 * ((a / 2) &&& (b / 2)) + (a &&& b) % 2 := by
  rw [← land_div]; omega
/-- the greatest part below a part -/
theorem part_pred (s : Nat) : ∀ (r y : Nat), r ≠ 0 → r &&& s = r → y &&& s = y → y < r → y ≤ (r - 1) &&& s := by
  induction s using Nat.strongRecOn with
  | _ s ih =>
    intro r y hr h1 h2 h3
    have hs0 : s ≠ 0 := by rintro rfl; rw [Nat.and_zero] at h1; exact hr h1.symm
    have e1 : (r / 2) &&& (s / 2) = r / 2 := by rw [← land_div, h1]
    have e2 : (y / 2) &&& (s / 2) = y / 2 := by rw [← land_div, h2]
    have m1 := land_mod r s
    have m2 := land_mod y s
    have m3 := land_mod (r - 1) s
    have l3 := land_eq (r - 1) s
    rw [h1] at m1
    rw [h2] at m2
    by_cases hb : r % 2 = 1
    · have : (r - 1) / 2 = r / 2 := by omega
      rw [this, e1] at l3
      omega
    · have hr2 : r / 2 ≠ 0 := by omega
      have : (r - 1) / 2 = r / 2 - 1 := by omega
      rw [this] at l3
      have h4 : y / 2 < r / 2 := by omega
      have := ih (s / 2) (by omega) (r / 2) (y / 2) hr2 e1 e2 h4
      by_cases hy : y % 2 = 1
      · have : s % 2 = 1 := by have := m2.1 hy; exact this.2
        have : ((r - 1) &&& s) % 2 = 1 := m3.2 ⟨by omega, this⟩
        omega
      · omega
abbrev PS (s : Nat) : Type := {x : Nat // x ≠ 0 ∧ x &&& s = x}
def KpP (n0 bp : Nat) (W W' : World) : Prop := Below n0 W W' ∧ (bp < W.heap.size → W'.heap[bp]? = W.heap[bp]?)
theorem KpP.trans {n0 bp : Nat} {A B C : World} (h : KpP n0 bp A B) (k : KpP n0 bp B C) : KpP n0 bp A C :=
  ⟨h.1.trans k.1, fun hb => (k.2 (Nat.lt_of_lt_of_le hb h.1.size)).trans (h.2 hb)⟩
theorem parts_any (s : Nat) (w : World) :
    Calls Tryz.prog 119 #[.int .u64 s] w fun e w' => e = .returned (.func (.func 177) #[] #[.pointer (some ⟨w.heap.size, 0, none⟩)]) ∧ w' = w.alloc (.cells #[.int .u64 s] 117) := by
  have hmf : ∀ (fn : Fn) (first cap : Array Value) (w : World), (Instr.makeFunc fn first cap).run Tryz.prog w = .ok (.func fn first cap) w := fun _ _ _ _ => rfl
  go_enter Tryz.func119, Tryz.ntmps119
  go_wp2
  go_ret
  exact ⟨rfl, rfl⟩
set_option maxRecDepth 100000 in
set_option maxHeartbeats 2000000 in
theorem parts1 (n : Nat) (hn : 1 ≤ n) (l bp : Nat) (s : Nat) (hs : s < 2 ^ 64) (n0 : Nat)
    (J Jx : List (PS s) → World → Prop) (W : World) (hl : W.cell? ⟨bp, 0, none⟩ = some (.int .u64 s))
    (hY : ∀ pre (x : PS s) W1, J pre W1 → pre.length < s → YieldAt Fence.wide (n - 1) Tryz.prog l #[.int .u64 (x.1 : Nat)] W1 fun e W' =>
      (e = .returned (.bool true) ∧ J (pre ++ [x]) W' ∧ KpP n0 bp W1 W') ∨ (e = .returned (.bool false) ∧ Jx (pre ++ [x]) W'))
    (h0 : J [] W) :
    CallsIn Fence.wide n Tryz.prog 177 #[.func (.yield l) #[] #[], .pointer (some ⟨bp, 0, none⟩)] W fun e W' => (∃ v, e = .returned v) ∧
      ((∃ ys, (∀ x : PS s, x ∈ ys) ∧ J ys W') ∨ (∃ pre, True ∧ Jx pre W')) := by
  have HY := Lib.hid hY
  have Hl := Lib.hid hl
  have hbp := cell_lt hl
  have g1 : W.cell? ⟨bp, 0, none⟩ = some (.int .u64 s) := Hl.out
  clear hY hl
  have hs6 : s < 18446744073709551616 := by simpa using hs
  refine callsIn_of_wp Tryz.func177 rfl trivial ?_ rfl
  simp only [Tryz.ntmps177, List.size_toArray, List.length_cons, List.length_nil, Nat.reduceAdd, Nat.reduceSub, Array.replicate_succ, Array.replicate_zero, List.push_toArray, List.append_toArray, List.nil_append, List.cons_append]
  gi_wp2
  clear g1
  gi_loopw [3] (fun v w1 => ∃ (r : Nat) (pre : List (PS s)), v = .int .u64 r ∧ r &&& s = r ∧ pre.length + r ≤ s ∧ (∀ x : PS s, r < x.1 → x ∈ pre) ∧ w1.cell? ⟨bp, 0, none⟩ = some (.int .u64 s) ∧ J pre w1) (fun v _ => (intOf v).toNat)
  case atStart =>
    refine ⟨s, [], by first | rfl | go_num, Nat.and_self s, by simp, fun x hx => ?_, Hl.out, h0⟩
    have h1 := x.2.2
    have h2 : x.1 &&& s ≤ s := Nat.and_le_right
    omega
  case round =>
    obtain ⟨r, pre, rfl, hrs, hlen, hall, hc1, hJ1⟩ := hrel
    by_cases hr0 : r = 0
    · subst hr0
      have HALL := Lib.hid hall
      clear hall
      gi_wp2
      go_end0
      exact ⟨⟨_, rfl⟩, .inl ⟨_, fun x => HALL.out x (by have := x.2.1; omega), hJ1⟩⟩
    · have hr6 : r < 18446744073709551616 := by omega
      have hsub : IntKind.u64.wrap ((r : Int) - 1) = ((r - 1 : Nat) : Int) := by
        rw [IntKind.wrap_u64]
        have : (2 : Nat) ^ 64 = 18446744073709551616 := by decide
        omega
      have hr7 : r - 1 < 18446744073709551616 := by omega
      have hand : bits BinOp.and IntKind.u64 ((r - 1 : Nat) : Int) (s : Int) = (((r - 1) &&& s : Nat) : Int) := bits_and_u64_nat (r - 1) s hr7 hs6
      clear hr7
      have hne : ((r : Int) == 0) = false := by simp; omega
      have HR0 := Lib.hid hr0
      have HRS := Lib.hid hrs
      have HALL := Lib.hid hall
      have hle : (r - 1) &&& s ≤ r - 1 := Nat.and_le_left
      obtain ⟨fn, tmps, assign, body, hy, hR⟩ := HY.out pre ⟨r, hr0, hrs⟩ wr hJ1 (by omega)
      have HRR := Lib.hid hR
      obtain ⟨r2, hr2⟩ : ∃ r2, r2 = (r - 1) &&& s := ⟨_, rfl⟩
      rw [← hr2] at hand hle
      have HR2 := Lib.hid hr2
      have HC1 := Lib.hid hc1
      have hb1 := cell_lt hc1
      clear hall hr2 hR hc1
      obtain ⟨r1, hr1⟩ : ∃ r1 : Nat, r1 = r - 1 := ⟨_, rfl⟩
      rw [← hr1] at hand hsub
      clear hr1
      gi_wp2_with fail
      refine HRR.out.mono ?_
      rintro e W3 (⟨rfl, hJ3, hk3⟩ | ⟨rfl, hJx3⟩)
      · have hc3 : W3.cell? ⟨bp, 0, none⟩ = some (.int .u64 s) := (World.cell?_of_block (w := wr) (hk3.2 hb1)).trans HC1.out
        have l3 := cell_lt hc3
        gi_wp2
        go_roundw
        case rel =>
          refine ⟨r2, pre ++ [⟨r, HR0.out, HRS.out⟩], by go_num, ?_, by simp; omega, fun x hx => ?_, hc3, hJ3⟩
          · rw [HR2.out, Nat.and_assoc, Nat.and_self]
          · rw [List.mem_append, List.mem_singleton]
            by_cases h1 : r < x.1
            · exact .inl (HALL.out x h1)
            · by_cases h2 : x.1 < r
              · have := part_pred s r x.1 HR0.out HRS.out x.2.2 h2
                rw [← HR2.out] at this
                omega
              · exact .inr (Subtype.ext (show x.1 = r by omega))
        case measure => simp [intOf]; omega
      · gi_wp2
        refine bodyPost_ret (results_none rfl _ _ _) rfl ?_
        exact ⟨⟨_, rfl⟩, .inr ⟨_, trivial, hJx3⟩⟩
theorem parts_stops (n : Nat) (hn : 1 ≤ n) (bp : Nat) (s : Nat) (hs : s < 2 ^ 64) (n0 : Nat) (w : World) (hl : w.cell? ⟨bp, 0, none⟩ = some (.int .u64 s)) :
    SeqStopsK Fence.wide n Tryz.prog 177 #[.pointer (some ⟨bp, 0, none⟩)] (fun x : PS s => #[.int .u64 (x.1 : Int)]) (KpP n0 bp) (fun ys => ∀ x : PS s, x ∈ ys) (fun _ => True) s w :=
  fun l J Jx W hW hJ hJx hY h0 => parts1 n hn l bp s hs n0 J Jx W (((show Kept w W from hW).cells _ _ (cell_lt hl)).trans hl) hY h0
end Go.Proofs.YtologmoanaccpaaGreatDoor
