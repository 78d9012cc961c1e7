/-
  mark: marks, fades, sights in memory; every, IndexFunc, ContainsFunc
-/
import Derived.Test.YtologmoanaccpaaGreatDoorMc
namespace Go.Proofs.YtologmoanaccpaaGreatDoor
set_option linter.all false
open Go.RowKit

def i64 (x : Int) : Prop := -9223372036854775808 ≤ x ∧ x ≤ 9223372036854775807
/-- a mark -/
structure Mk where
  (own frm unt : Int)
  (sg : Sg)
deriving DecidableEq
def mkC (m : Mk) : List Value := [.int .i64 m.own, .int .i64 m.frm, .int .i64 m.unt, .int .u8 m.sg.s0, .int .u8 m.sg.s1, .int .u8 m.sg.s2, .int .u8 m.sg.s3, .int .u8 m.sg.s4, .int .u8 m.sg.s5]
def Mk.ok (m : Mk) : Prop := i64 m.own ∧ i64 m.frm ∧ i64 m.unt ∧ m.sg.ok
/-- a fade -/
structure Fd where
  (sign seen : Int)
deriving DecidableEq
def fdC (f : Fd) : List Value := [.int .u8 f.sign, .int .u8 f.seen]
def Fd.ok (f : Fd) : Prop := u8 f.sign ∧ u8 f.seen
/-- a claim -/
structure Cl where
  (own num : Int)
deriving DecidableEq
def clC (f : Cl) : List Value := [.int .i64 f.own, .int .i64 f.num]
def Cl.ok (f : Cl) : Prop := i64 f.own ∧ i64 f.num
/-- a slice of elements of k cells -/
def SlA {α : Type} (enc : α → List Value) (k : Nat) (ok : α → Prop) (w : World) (A : Option Addr) (n c : Nat) (xs : List α) : Prop :=
  xs.length = n ∧ n ≤ c ∧ c ≤ 9223372036854775807 ∧ (∀ x ∈ xs, ok x) ∧
  (0 < n → ∃ b off, A = some ⟨b, off, none⟩ ∧ ∀ i x, xs[i]? = some x → ∀ j v, (enc x)[j]? = some v → w.cell? ⟨b, off + i * k + j, none⟩ = some v)
theorem SlA.kept {α : Type} {enc : α → List Value} {k : Nat} {ok : α → Prop} {w w' : World} {A : Option Addr} {n c : Nat} {xs : List α} (h : SlA enc k ok w A n c xs) (hk : Kept w w') : SlA enc k ok w' A n c xs :=
  ⟨h.1, h.2.1, h.2.2.1, h.2.2.2.1, fun hn => by
    obtain ⟨b, off, e, ht⟩ := h.2.2.2.2 hn
    exact ⟨b, off, e, fun i x hx j v hv => (hk.cells _ _ (cell_lt (ht i x hx j v hv))).trans (ht i x hx j v hv)⟩⟩
/-- what a predicate that is handed in has to do -/
def PredG {α : Type} (enc : α → List Value) (ok : α → Prop) (g : Nat) (lb : Array Value) (p : α → Bool) (w : World) : Prop :=
  ∀ (W : World) (x : α), ok x → Kept w W → Calls Tryz.prog g (#[.agg (enc x).toArray] ++ lb) W fun e w' => e = .returned (.bool (p x)) ∧ Kept W w'
def idxP {α : Type} (p : α → Bool) (xs : List α) : Int := if xs.any p = true then (xs.findIdx p : Int) else -1
theorem idxP_at {α : Type} {p : α → Bool} {xs : List α} {k : Nat} {x : α} (h : xs[k]? = some x) (hp : p x = true) (ho : ∀ j y, j < k → xs[j]? = some y → p y = false) : idxP p xs = (k : Int) := by
  have hm : x ∈ xs := List.mem_of_getElem? h
  have ha : xs.any p = true := List.any_eq_true.2 ⟨x, hm, hp⟩
  unfold idxP
  rw [if_pos ha]
  congr 1
  obtain ⟨hk, hx⟩ := List.getElem?_eq_some_iff.1 h
  rw [List.findIdx_eq hk]
  refine ⟨by rw [hx]; exact hp, fun j hj => ?_⟩
  exact ho j _ hj (List.getElem?_eq_getElem (by omega))
theorem idxP_none {α : Type} {p : α → Bool} {xs : List α} (ho : ∀ (j : Nat) (y : α), xs[j]? = some y → p y = false) : idxP p xs = -1 := by
  unfold idxP
  rw [if_neg]
  rw [List.any_eq_true]
  rintro ⟨x, hx, hp⟩
  obtain ⟨j, hj⟩ := List.getElem?_of_mem hx
  rw [ho j x hj] at hp
  cases hp
theorem idxP_nonneg {α : Type} (p : α → Bool) (xs : List α) : decide (0 ≤ idxP p xs) = xs.any p := by
  unfold idxP
  by_cases h : xs.any p = true
  · rw [if_pos h, h]; simp
  · have h' : xs.any p = false := by simpa using h
    rw [if_neg h, h']; rfl
theorem all_false {α : Type} {p : α → Bool} {xs : List α} {k : Nat} {x : α} (h : xs[k]? = some x) (hp : p x = false) : xs.all p = false := by
  rw [List.all_eq_false]
  exact ⟨x, List.mem_of_getElem? h, by simp [hp]⟩
theorem all_true {α : Type} {p : α → Bool} {xs : List α} {n : Nat} (hn : xs.length = n) (ho : ∀ j y, j < n → xs[j]? = some y → p y = true) : xs.all p = true := by
  rw [List.all_eq_true]
  intro x hx
  obtain ⟨j, hj⟩ := List.getElem?_of_mem hx
  exact ho j x (by rw [← hn]; exact (List.getElem?_eq_some_iff.1 hj).1) hj

set_option maxRecDepth 100000 in
set_option maxHeartbeats 3200000 in
theorem every_mk (g : Nat) (lb : Array Value) (p : Mk → Bool) (eg : ∀ args w, (callFunc g args).run Tryz.prog w = .ok (.enter g args) w) (A : Option Addr) (n c : Nat) (xs : List Mk) (w : World) (hs : SlA mkC 9 Mk.ok w A n c xs) (hp : PredG mkC Mk.ok g lb p w) :
    Calls Tryz.prog 81 #[.slice A n c, .func (.func g) #[] lb] w fun e w' => e = .returned (.bool (xs.all p)) ∧ Kept w w' := by
  have HS := Lib.hid hs
  have HP := Lib.hid hp
  have hnc := hs.2.1
  have hcm := hs.2.2.1
  clear hs hp
  go_enter Tryz.func81, Tryz.ntmps81
  go_wp2_with fail
  go_loopw [9] (fun i wr => ∃ k : Nat, k ≤ n ∧ i = .int .i64 k ∧ (∀ j x, j < k → xs[j]? = some x → p x = true) ∧ Kept w wr) (fun i _ => n - (intOf i).toNat)
  case atStart => exact ⟨0, by omega, by first | rfl | go_num, fun j x hj => by omega, Kept.refl _⟩
  case round =>
    obtain ⟨k, hk, rfl, ho, hkr⟩ := hrel
    have Ho := Lib.hid ho
    have HKR := Lib.hid hkr
    clear ho hkr
    by_cases hlt : k < n
    · obtain ⟨x, hx⟩ : ∃ x, xs[k]? = some x := ⟨_, List.getElem?_eq_getElem (by rw [HS.out.1]; exact hlt)⟩
      have hok := Lib.hid (HS.out.2.2.2.1 x (List.mem_of_getElem? hx))
      obtain ⟨b, off, hA, ht⟩ := HS.out.2.2.2.2 (by omega)
      subst hA
      have hcc := fun j v hv => (HKR.out.cells _ _ (cell_lt (ht k x hx j v hv))).trans (ht k x hx j v hv)
      have c0 := hcc 0 _ rfl
      have c1 := hcc 1 _ rfl
      have c2 := hcc 2 _ rfl
      have c3 := hcc 3 _ rfl
      have c4 := hcc 4 _ rfl
      have c5 := hcc 5 _ rfl
      have c6 := hcc 6 _ rfl
      have c7 := hcc 7 _ rfl
      have c8 := hcc 8 _ rfl
      simp only [Nat.add_zero] at c0
      have Hx := Lib.hid hx
      clear hx ht hcc
      obtain ⟨q, hq⟩ : ∃ q, p x = q := ⟨_, rfl⟩
      have HQ := Lib.hid hq
      have HC : RowKit.Hid (∀ W, Kept w W → Calls Tryz.prog g (#[.agg (mkC x).toArray] ++ lb) W fun e w' => e = .returned (.bool q) ∧ Kept W w') := Lib.hid (fun W hW => by rw [← hq]; exact HP.out W x hok.out hW)
      unfold mkC at HC
      clear hq
      go_wp2_with fail
      refine (HC.out _ (HKR.out.alloc _)).mono ?_
      rintro e w1 ⟨rfl, hk1⟩
      have HK1 := Lib.hid ((HKR.out.alloc _).trans hk1)
      clear hk1
      cases q
      · go_wp2
        go_ret
        exact ⟨ret_bool (all_false Hx.out HQ.out).symm, HK1.out⟩
      · go_wp2
        go_roundw
        case rel =>
          refine ⟨k + 1, by omega, by go_num, fun j y hj hy => ?_, HK1.out⟩
          rcases Nat.lt_or_eq_of_le (Nat.le_of_lt_succ hj) with h | h
          · exact Ho.out j y h hy
          · subst h
            have := Hx.out
            rw [hy] at this
            cases this
            exact HQ.out
        case measure => simp [intOf]; omega
    · obtain rfl : k = n := by omega
      go_wp2
      go_ret
      exact ⟨ret_bool (all_true HS.out.1 Ho.out).symm, HKR.out⟩

set_option maxRecDepth 100000 in
set_option maxHeartbeats 3200000 in
theorem every_fd (g : Nat) (lb : Array Value) (p : Fd → Bool) (eg : ∀ args w, (callFunc g args).run Tryz.prog w = .ok (.enter g args) w) (A : Option Addr) (n c : Nat) (xs : List Fd) (w : World) (hs : SlA fdC 2 Fd.ok w A n c xs) (hp : PredG fdC Fd.ok g lb p w) :
    Calls Tryz.prog 83 #[.slice A n c, .func (.func g) #[] lb] w fun e w' => e = .returned (.bool (xs.all p)) ∧ Kept w w' := by
  have HS := Lib.hid hs
  have HP := Lib.hid hp
  have hnc := hs.2.1
  have hcm := hs.2.2.1
  clear hs hp
  go_enter Tryz.func83, Tryz.ntmps83
  go_wp2_with fail
  go_loopw [9] (fun i wr => ∃ k : Nat, k ≤ n ∧ i = .int .i64 k ∧ (∀ j x, j < k → xs[j]? = some x → p x = true) ∧ Kept w wr) (fun i _ => n - (intOf i).toNat)
  case atStart => exact ⟨0, by omega, by first | rfl | go_num, fun j x hj => by omega, Kept.refl _⟩
  case round =>
    obtain ⟨k, hk, rfl, ho, hkr⟩ := hrel
    have Ho := Lib.hid ho
    have HKR := Lib.hid hkr
    clear ho hkr
    by_cases hlt : k < n
    · obtain ⟨x, hx⟩ : ∃ x, xs[k]? = some x := ⟨_, List.getElem?_eq_getElem (by rw [HS.out.1]; exact hlt)⟩
      have hok := Lib.hid (HS.out.2.2.2.1 x (List.mem_of_getElem? hx))
      obtain ⟨b, off, hA, ht⟩ := HS.out.2.2.2.2 (by omega)
      subst hA
      have hcc := fun j v hv => (HKR.out.cells _ _ (cell_lt (ht k x hx j v hv))).trans (ht k x hx j v hv)
      have c0 := hcc 0 _ rfl
      have c1 := hcc 1 _ rfl
      simp only [Nat.add_zero] at c0
      have Hx := Lib.hid hx
      clear hx ht hcc
      obtain ⟨q, hq⟩ : ∃ q, p x = q := ⟨_, rfl⟩
      have HQ := Lib.hid hq
      have HC : RowKit.Hid (∀ W, Kept w W → Calls Tryz.prog g (#[.agg (fdC x).toArray] ++ lb) W fun e w' => e = .returned (.bool q) ∧ Kept W w') := Lib.hid (fun W hW => by rw [← hq]; exact HP.out W x hok.out hW)
      unfold fdC at HC
      clear hq
      go_wp2_with fail
      refine (HC.out _ (HKR.out.alloc _)).mono ?_
      rintro e w1 ⟨rfl, hk1⟩
      have HK1 := Lib.hid ((HKR.out.alloc _).trans hk1)
      clear hk1
      cases q
      · go_wp2
        go_ret
        exact ⟨ret_bool (all_false Hx.out HQ.out).symm, HK1.out⟩
      · go_wp2
        go_roundw
        case rel =>
          refine ⟨k + 1, by omega, by go_num, fun j y hj hy => ?_, HK1.out⟩
          rcases Nat.lt_or_eq_of_le (Nat.le_of_lt_succ hj) with h | h
          · exact Ho.out j y h hy
          · subst h
            have := Hx.out
            rw [hy] at this
            cases this
            exact HQ.out
        case measure => simp [intOf]; omega
    · obtain rfl : k = n := by omega
      go_wp2
      go_ret
      exact ⟨ret_bool (all_true HS.out.1 Ho.out).symm, HKR.out⟩

set_option maxRecDepth 100000 in
set_option maxHeartbeats 3200000 in
theorem every_sg (g : Nat) (lb : Array Value) (p : Sg → Bool) (eg : ∀ args w, (callFunc g args).run Tryz.prog w = .ok (.enter g args) w) (A : Option Addr) (n c : Nat) (xs : List Sg) (w : World) (hs : SlA sgV 6 Sg.ok w A n c xs) (hp : PredG sgV Sg.ok g lb p w) :
    Calls Tryz.prog 168 #[.slice A n c, .func (.func g) #[] lb] w fun e w' => e = .returned (.bool (xs.all p)) ∧ Kept w w' := by
  have HS := Lib.hid hs
  have HP := Lib.hid hp
  have hnc := hs.2.1
  have hcm := hs.2.2.1
  clear hs hp
  go_enter Tryz.func168, Tryz.ntmps168
  go_wp2_with fail
  go_loopw [9] (fun i wr => ∃ k : Nat, k ≤ n ∧ i = .int .i64 k ∧ (∀ j x, j < k → xs[j]? = some x → p x = true) ∧ Kept w wr) (fun i _ => n - (intOf i).toNat)
  case atStart => exact ⟨0, by omega, by first | rfl | go_num, fun j x hj => by omega, Kept.refl _⟩
  case round =>
    obtain ⟨k, hk, rfl, ho, hkr⟩ := hrel
    have Ho := Lib.hid ho
    have HKR := Lib.hid hkr
    clear ho hkr
    by_cases hlt : k < n
    · obtain ⟨x, hx⟩ : ∃ x, xs[k]? = some x := ⟨_, List.getElem?_eq_getElem (by rw [HS.out.1]; exact hlt)⟩
      have hok := Lib.hid (HS.out.2.2.2.1 x (List.mem_of_getElem? hx))
      obtain ⟨b, off, hA, ht⟩ := HS.out.2.2.2.2 (by omega)
      subst hA
      have hcc := fun j v hv => (HKR.out.cells _ _ (cell_lt (ht k x hx j v hv))).trans (ht k x hx j v hv)
      have c0 := hcc 0 _ rfl
      have c1 := hcc 1 _ rfl
      have c2 := hcc 2 _ rfl
      have c3 := hcc 3 _ rfl
      have c4 := hcc 4 _ rfl
      have c5 := hcc 5 _ rfl
      simp only [Nat.add_zero] at c0
      have Hx := Lib.hid hx
      clear hx ht hcc
      obtain ⟨q, hq⟩ : ∃ q, p x = q := ⟨_, rfl⟩
      have HQ := Lib.hid hq
      have HC : RowKit.Hid (∀ W, Kept w W → Calls Tryz.prog g (#[.agg (sgV x).toArray] ++ lb) W fun e w' => e = .returned (.bool q) ∧ Kept W w') := Lib.hid (fun W hW => by rw [← hq]; exact HP.out W x hok.out hW)
      unfold sgV at HC
      clear hq
      go_wp2_with fail
      refine (HC.out _ (HKR.out.alloc _)).mono ?_
      rintro e w1 ⟨rfl, hk1⟩
      have HK1 := Lib.hid ((HKR.out.alloc _).trans hk1)
      clear hk1
      cases q
      · go_wp2
        go_ret
        exact ⟨ret_bool (all_false Hx.out HQ.out).symm, HK1.out⟩
      · go_wp2
        go_roundw
        case rel =>
          refine ⟨k + 1, by omega, by go_num, fun j y hj hy => ?_, HK1.out⟩
          rcases Nat.lt_or_eq_of_le (Nat.le_of_lt_succ hj) with h | h
          · exact Ho.out j y h hy
          · subst h
            have := Hx.out
            rw [hy] at this
            cases this
            exact HQ.out
        case measure => simp [intOf]; omega
    · obtain rfl : k = n := by omega
      go_wp2
      go_ret
      exact ⟨ret_bool (all_true HS.out.1 Ho.out).symm, HKR.out⟩

set_option maxRecDepth 100000 in
set_option maxHeartbeats 3200000 in
theorem index_mk (g : Nat) (lb : Array Value) (p : Mk → Bool) (eg : ∀ args w, (callFunc g args).run Tryz.prog w = .ok (.enter g args) w) (A : Option Addr) (n c : Nat) (xs : List Mk) (w : World) (hs : SlA mkC 9 Mk.ok w A n c xs) (hp : PredG mkC Mk.ok g lb p w) :
    Calls Tryz.prog 151 #[.slice A n c, .func (.func g) #[] lb] w fun e w' => e = .returned (.int .i64 (idxP p xs)) ∧ Kept w w' := by
  have HS := Lib.hid hs
  have HP := Lib.hid hp
  have hnc := hs.2.1
  have hcm := hs.2.2.1
  clear hs hp
  go_enter Tryz.func151, Tryz.ntmps151
  go_wp2_with fail
  go_loopw [8] (fun i wr => ∃ k : Nat, k ≤ n ∧ i = .int .i64 k ∧ (∀ j x, j < k → xs[j]? = some x → p x = false) ∧ Kept w wr) (fun i _ => n - (intOf i).toNat)
  case atStart => exact ⟨0, by omega, by first | rfl | go_num, fun j x hj => by omega, Kept.refl _⟩
  case round =>
    obtain ⟨k, hk, rfl, ho, hkr⟩ := hrel
    have Ho := Lib.hid ho
    have HKR := Lib.hid hkr
    clear ho hkr
    by_cases hlt : k < n
    · obtain ⟨x, hx⟩ : ∃ x, xs[k]? = some x := ⟨_, List.getElem?_eq_getElem (by rw [HS.out.1]; exact hlt)⟩
      have hok := Lib.hid (HS.out.2.2.2.1 x (List.mem_of_getElem? hx))
      obtain ⟨b, off, hA, ht⟩ := HS.out.2.2.2.2 (by omega)
      subst hA
      have hcc := fun j v hv => (HKR.out.cells _ _ (cell_lt (ht k x hx j v hv))).trans (ht k x hx j v hv)
      have c0 := hcc 0 _ rfl
      have c1 := hcc 1 _ rfl
      have c2 := hcc 2 _ rfl
      have c3 := hcc 3 _ rfl
      have c4 := hcc 4 _ rfl
      have c5 := hcc 5 _ rfl
      have c6 := hcc 6 _ rfl
      have c7 := hcc 7 _ rfl
      have c8 := hcc 8 _ rfl
      simp only [Nat.add_zero] at c0
      have Hx := Lib.hid hx
      clear hx ht hcc
      obtain ⟨q, hq⟩ : ∃ q, p x = q := ⟨_, rfl⟩
      have HQ := Lib.hid hq
      have HC : RowKit.Hid (∀ W, Kept w W → Calls Tryz.prog g (#[.agg (mkC x).toArray] ++ lb) W fun e w' => e = .returned (.bool q) ∧ Kept W w') := Lib.hid (fun W hW => by rw [← hq]; exact HP.out W x hok.out hW)
      unfold mkC at HC
      clear hq
      go_wp2_with fail
      refine (HC.out _ HKR.out).mono ?_
      rintro e w1 ⟨rfl, hk1⟩
      have HK1 := Lib.hid (HKR.out.trans hk1)
      clear hk1
      cases q
      · go_wp2
        go_roundw
        case rel =>
          refine ⟨k + 1, by omega, by go_num, fun j y hj hy => ?_, HK1.out⟩
          rcases Nat.lt_or_eq_of_le (Nat.le_of_lt_succ hj) with h | h
          · exact Ho.out j y h hy
          · subst h
            have := Hx.out
            rw [hy] at this
            cases this
            exact HQ.out
        case measure => simp [intOf]; omega
      · go_wp2
        go_ret
        exact ⟨ret_int (idxP_at Hx.out HQ.out Ho.out).symm, HK1.out⟩
    · obtain rfl : k = n := by omega
      go_wp2
      go_ret
      exact ⟨ret_int (idxP_none (fun j y hy => Ho.out j y (by rw [← HS.out.1]; exact (List.getElem?_eq_some_iff.1 hy).1) hy)).symm, HKR.out⟩
theorem contains_mk (g : Nat) (lb : Array Value) (p : Mk → Bool) (eg : ∀ args w, (callFunc g args).run Tryz.prog w = .ok (.enter g args) w) (A : Option Addr) (n c : Nat) (xs : List Mk) (w : World) (hs : SlA mkC 9 Mk.ok w A n c xs) (hp : PredG mkC Mk.ok g lb p w) :
    Calls Tryz.prog 154 #[.slice A n c, .func (.func g) #[] lb] w fun e w' => e = .returned (.bool (xs.any p)) ∧ Kept w w' := by
  have HI := Lib.hid (index_mk g lb p eg A n c xs w hs hp)
  clear hs hp
  go_enter Tryz.func154, Tryz.ntmps154
  go_wp2_with fail
  refine HI.out.mono ?_
  rintro e w1 ⟨rfl, hk1⟩
  go_wp2
  go_ret
  exact ⟨ret_bool (idxP_nonneg p xs), hk1⟩
end Go.Proofs.YtologmoanaccpaaGreatDoor
