/-
  the reference's may: as what a sign may be seen
  the reference's common: the first sight as which both signs may be seen
  what both signs may be seen as, by the code and by the reference; few
-/
import Derived.Test.YtologmoanaccpaaGreatDoorYA
import Derived.Test.YtologmoanaccpaaGreatDoorBC
import Derived.Test.YtologmoanaccpaaGreatDoorYD
import Derived.Test.YtologmoanaccpaaGreatDoorBI
import Derived.Test.YtologmoanaccpaaGreatDoorXZ
import Derived.Deep.DeepCutAuto
namespace Go.Proofs.YtologmoanaccpaaGreatDoor
set_option linter.all false
open Go.RowKit

def hitB (a v : Int) (f : Fd) : Bool := (f.sign == a) && (f.seen == v)
def mayB (fs : List Fd) (p : Nat) (a v : Int) : Bool := (v == 9) || ((v == a) || (decide (2 ≤ p) && fs.any (hitB a v)))
theorem any_no {α : Type} {p : α → Bool} {xs : List α} {n : Nat} (hn : xs.length = n) (h : ∀ (j : Nat) (x : α), j < n → xs[j]? = some x → p x = false) : xs.any p = false := by
  rw [List.any_eq_false]
  intro x hx
  obtain ⟨j, hj⟩ := List.getElem?_of_mem hx
  rw [h j x (by rw [← hn]; exact (List.getElem?_eq_some_iff.1 hj).1) hj]
  simp
theorem any_yes {α : Type} {p : α → Bool} {xs : List α} {k : Nat} {x : α} (h : xs[k]? = some x) (hx : p x = true) : xs.any p = true := List.any_eq_true.2 ⟨x, List.mem_of_getElem? h, hx⟩
set_option maxRecDepth 100000 in
set_option maxHeartbeats 1600000 in
theorem rmay_any (A B : Option Addr) (n c m d : Nat) (ms : List Mk) (fs : List Fd) (p : Nat) (a v : Int) (w : World) (hs : SmA w A n c ms B m d fs) :
    Calls Tryz.prog 105 #[.agg #[.slice A n c, .slice B m d], .int .i64 (p : Int), .int .u8 a, .int .u8 v] w fun e w' => e = .returned (.bool (mayB fs p a v)) ∧ Kept w w' := by
  obtain ⟨W0, hW0⟩ : ∃ W0, W0 = w.alloc (.cells #[.slice A n c, .slice B m d] 25) := ⟨_, rfl⟩
  have K0 : RowKit.Hid (Kept w W0) := Lib.hid (by rw [hW0]; exact (Kept.refl _).alloc _)
  have R0 : RowKit.Hid (RowC W0 w.heap.size [.slice A n c, .slice B m d]) := Lib.hid (by rw [hW0]; exact RowC.new w [.slice A n c, .slice B m d] 25)
  have HW := Lib.hid hW0
  have HSB := Lib.hid (hs.kept K0.out).2
  have hmc := hs.2.2.1
  have hdm := hs.2.2.2.1
  have a0 := (R0.out 0 _ rfl).1
  have a1 := (R0.out 1 _ rfl).1
  have la := cell_lt a0
  have HML := Lib.hid hs.2.1
  clear hW0 hs
  by_cases h9 : v = 9
  · have h91 : (v == 9) = true := by simpa using h9
    have HV : RowKit.Hid (mayB fs p a v = true) := Lib.hid (by unfold mayB; rw [h91]; rfl)
    clear h9
    go_enter Tryz.func105, Tryz.ntmps105
    go_upto_region 1 with (fail)
    rw [← HW.out]
    go_wp2_with fail
    go_ret
    exact ⟨ret_bool HV.out.symm, K0.out⟩
  have h91 : (v == 9) = false := by simpa using h9
  clear h9
  by_cases hva : v = a
  · have h92 : (v == a) = true := by simpa using hva
    have HV : RowKit.Hid (mayB fs p a v = true) := Lib.hid (by unfold mayB; rw [h91, h92]; rfl)
    clear hva
    go_enter Tryz.func105, Tryz.ntmps105
    go_upto_region 1 with (fail)
    rw [← HW.out]
    go_wp2_with fail
    go_ret
    exact ⟨ret_bool HV.out.symm, K0.out⟩
  have h92 : (v == a) = false := by simpa using hva
  clear hva
  by_cases hp : p < 2
  · have HV : RowKit.Hid (mayB fs p a v = false) := Lib.hid (by unfold mayB; rw [h91, h92]; simp; omega)
    have hp2 : (p : Int) < 2 := by omega
    go_enter Tryz.func105, Tryz.ntmps105
    go_upto_region 1 with (fail)
    rw [← HW.out]
    go_wp2_with fail
    go_ret
    exact ⟨ret_bool HV.out.symm, K0.out⟩
  have HV : RowKit.Hid (mayB fs p a v = fs.any (hitB a v)) := Lib.hid (by unfold mayB; rw [h91, h92]; simp; intro h; omega)
  have hp2 : 2 ≤ (p : Int) := by omega
  go_enter Tryz.func105, Tryz.ntmps105
  go_upto_region 1 with (fail)
  rw [← HW.out]
  go_wp2_with fail
  go_loop [9] (fun i => ∃ k : Nat, k ≤ m ∧ i = .int .i64 k ∧ ∀ (j : Nat) (x : Fd), j < k → fs[j]? = some x → hitB a v x = false) (fun i => m - (intOf i).toNat)
  case atStart => exact ⟨0, by omega, by first | rfl | go_num, fun j x hj => by omega⟩
  case round =>
    obtain ⟨k, hk, rfl, ho⟩ := hrel
    have Ho := Lib.hid ho
    clear ho
    by_cases hlt : k < m
    · obtain ⟨x, hx⟩ : ∃ x, fs[k]? = some x := ⟨_, List.getElem?_eq_getElem (by rw [HML.out]; exact hlt)⟩
      obtain ⟨b, off, hB, ht⟩ := HSB.out.2.2.2.2 (by omega)
      subst hB
      have c0 := ht k x hx 0 _ rfl
      have c1 := ht k x hx 1 _ rfl
      simp only [Nat.add_zero] at c0
      have lc := cell_lt c0
      have Hx := Lib.hid hx
      clear hx ht
      have hi0 : (0 : Int) ≤ (k : Int) := by omega
      have hi1 : (k : Int) < (m : Int) := by omega
      by_cases e1 : x.sign = a
      · have f1 : (x.sign == a) = true := by simpa using e1
        clear e1
        by_cases e2 : x.seen = v
        · have f2 : (x.seen == v) = true := by simpa using e2
          have HH : RowKit.Hid (hitB a v x = true) := Lib.hid (by unfold hitB; rw [f1, f2]; rfl)
          clear e2
          go_wp2_with fail
          go_ret
          exact ⟨ret_bool (by rw [HV.out, any_yes Hx.out HH.out]), K0.out⟩
        · have f2 : (x.seen == v) = false := by simpa using e2
          have HH : RowKit.Hid (hitB a v x = false) := Lib.hid (by unfold hitB; rw [f1, f2]; rfl)
          clear e2
          go_wp2_with fail
          go_round
          case rel => exact ⟨k + 1, by omega, by go_num, step_of (q := fun _ x => hitB a v x = false) Ho.out Hx.out HH.out⟩
          case measure => simp [intOf]; omega
      · have f1 : (x.sign == a) = false := by simpa using e1
        have HH : RowKit.Hid (hitB a v x = false) := Lib.hid (by unfold hitB; rw [f1]; rfl)
        clear e1
        go_wp2_with fail
        go_round
        case rel => exact ⟨k + 1, by omega, by go_num, step_of (q := fun _ x => hitB a v x = false) Ho.out Hx.out HH.out⟩
        case measure => simp [intOf]; omega
    · obtain rfl : k = m := by omega
      go_wp2_with fail
      go_ret
      exact ⟨ret_bool (by rw [HV.out, any_no HML.out Ho.out]), K0.out⟩
/-- may is what the code's looks say -/
theorem lkG_bit (s v : Nat) : ∀ (fs : List Fd) (a : Nat), (fs.foldl (fun a f => if f.sign = (s : Int) then a ||| 2 ^ f.seen.toNat else a) a).testBit v = (a.testBit v || fs.any fun f => decide (f.sign = (s : Int)) && decide (f.seen.toNat = v))
  | [], a => by simp
  | f :: fs, a => by
    rw [List.foldl_cons, lkG_bit s v fs, List.any_cons]
    by_cases h : f.sign = (s : Int)
    · rw [if_pos h, Nat.testBit_or, Nat.testBit_two_pow]
      simp [h, Bool.or_assoc]
    · rw [if_neg h]; simp [h]
theorem may_fit {fs : List Fd} (hf : ∀ f ∈ fs, f.ok) {p : Nat} {a v : Int} (ha : 0 ≤ a) (hv : 0 ≤ v) : fit1 fs p a v = mayB fs p a v := by
  unfold fit1 mayB lkF lkG
  congr 1
  by_cases hp : p < 2
  · rw [if_pos hp, Nat.testBit_two_pow]
    have : decide (2 ≤ p) = false := by simp; omega
    rw [this, Bool.false_and, Bool.or_false, Bool.eq_iff_iff]
    simp; omega
  · rw [if_neg hp, lkG_bit, Nat.testBit_two_pow]
    have : decide (2 ≤ p) = true := by simp; omega
    rw [this, Bool.true_and]
    congr 1
    · rw [Bool.eq_iff_iff]; simp; omega
    · rw [Bool.eq_iff_iff, List.any_eq_true, List.any_eq_true]
      constructor
      · rintro ⟨f, hm, h⟩
        have := (hf f hm).2.1
        refine ⟨f, hm, ?_⟩
        unfold hitB
        simp at h ⊢
        omega
      · rintro ⟨f, hm, h⟩
        refine ⟨f, hm, ?_⟩
        unfold hitB at h
        simp at h ⊢
        omega
end Go.Proofs.YtologmoanaccpaaGreatDoor

namespace Go.Proofs.YtologmoanaccpaaGreatDoor
set_option linter.all false
open Go.RowKit Go.Shelf

def bmB (fs : List Fd) (a c : Sg) (p v : Nat) : Bool := mayB fs p (a.l.getD p 0) (v : Int) && mayB fs p (c.l.getD p 0) (v : Int)
def cmP (fs : List Fd) (a c : Sg) (p : Nat) : Option Nat := (List.range 5).find? (bmB fs a c p)
def cmI (fs : List Fd) (a c : Sg) (p : Nat) : Int := (((cmP fs a c p).getD 0 : Nat) : Int)
def cmB (fs : List Fd) (a c : Sg) (k : Nat) : Bool := (List.range k).all fun p => (cmP fs a c p).isSome
def cmS (fs : List Fd) (a c : Sg) : Sg := ⟨cmI fs a c 0, cmI fs a c 1, cmI fs a c 2, cmI fs a c 3, cmI fs a c 4, cmI fs a c 5⟩
def cvL (fs : List Fd) (a c : Sg) (k : Nat) : List Value := (List.range 6).map fun i => .int .u8 (if i < k then cmI fs a c i else 0)
def sgz : Sg := ⟨0, 0, 0, 0, 0, 0⟩
theorem cvL_0 (fs : List Fd) (a c : Sg) : cvL fs a c 0 = sgV sgz := rfl
theorem cvL_6 (fs : List Fd) (a c : Sg) : cvL fs a c 6 = sgV (cmS fs a c) := rfl
theorem cvL_put {fs : List Fd} {a c : Sg} {k v : Nat} (hk : k < 6) (h : cmP fs a c k = some v) : (cvL fs a c k).set k (.int .u8 (v : Int)) = cvL fs a c (k + 1) := by
  have hv : cmI fs a c k = (v : Int) := by unfold cmI; rw [h]; rfl
  apply List.ext_getElem?
  intro i
  unfold cvL
  rw [List.getElem?_set]
  by_cases e : k = i
  · subst e
    rw [if_pos rfl, if_pos (by simpa using hk), List.getElem?_map, List.getElem?_range hk]
    simp [hv]
  · rw [if_neg e, List.getElem?_map, List.getElem?_map]
    rcases Nat.lt_or_ge i 6 with h6 | h6
    · rw [List.getElem?_range h6]
      simp only [Option.map_some]
      by_cases h1 : i < k
      · rw [if_pos h1, if_pos (by omega)]
      · rw [if_neg h1, if_neg (by omega)]
    · rw [List.getElem?_eq_none (by simpa using h6)]; rfl
theorem cmP_find {fs : List Fd} {a c : Sg} {p q : Nat} (hq : q < 5) (ho : ∀ x, x < q → bmB fs a c p x = false) (h : bmB fs a c p q = true) : cmP fs a c p = some q := by
  unfold cmP
  rw [List.find?_eq_some_iff_getElem]
  refine ⟨h, q, by simpa using hq, by simp, fun j hj => ?_⟩
  have := ho j hj
  simp [this]
theorem cmP_none {fs : List Fd} {a c : Sg} {p : Nat} (ho : ∀ x, x < 5 → bmB fs a c p x = false) : cmP fs a c p = none := by
  unfold cmP
  rw [List.find?_eq_none]
  intro x hx
  rw [ho x (List.mem_range.1 hx)]; simp
theorem cmB_no {fs : List Fd} {a c : Sg} {p : Nat} (hp : p < 6) (h : cmP fs a c p = none) : cmB fs a c 6 = false := by
  cases e : cmB fs a c 6
  · rfl
  · unfold cmB at e
    rw [List.all_eq_true] at e
    have := e p (List.mem_range.2 hp)
    rw [h] at this
    cases this
theorem cmB_succ (fs : List Fd) (a c : Sg) (k : Nat) : cmB fs a c (k + 1) = (cmB fs a c k && (cmP fs a c k).isSome) := by
  unfold cmB
  rw [List.range_succ, List.all_append]
  simp
def set6 (W : World) (b : Nat) (s : Sg) : World := ((((((W.setCell ⟨b, 0, none⟩ (.int .u8 s.s0)).setCell ⟨b, 1, none⟩ (.int .u8 s.s1)).setCell ⟨b, 2, none⟩ (.int .u8 s.s2)).setCell ⟨b, 3, none⟩ (.int .u8 s.s3)).setCell ⟨b, 4, none⟩ (.int .u8 s.s4)).setCell ⟨b, 5, none⟩ (.int .u8 s.s5))
theorem set6_ok {w W : World} {b : Nat} {s : Sg} (h1 : RowC W b zero6) (hk : Kept w W) (hb : w.heap.size ≤ b) : RowC (set6 W b s) b (sgV s) ∧ Kept w (set6 W b s) := by
  unfold set6
  exact ⟨(((((h1.put (j := 0) (by simp [zero6]) _).put (j := 1) (by simp [zero6]) _).put (j := 2) (by simp [zero6]) _).put (j := 3) (by simp [zero6]) _).put (j := 4) (by simp [zero6]) _).put (j := 5) (by simp [zero6]) _,
    (((((hk.setCell (p := ⟨b, 0, none⟩) hb _).setCell (p := ⟨b, 1, none⟩) hb _).setCell (p := ⟨b, 2, none⟩) hb _).setCell (p := ⟨b, 3, none⟩) hb _).setCell (p := ⟨b, 4, none⟩) hb _).setCell (p := ⟨b, 5, none⟩) hb _⟩
def CmR (w : World) (fs : List Fd) (a c : Sg) (e : Ending) (w' : World) : Prop :=
  e = .returned (.tuple #[sgAgg (if cmB fs a c 6 = true then cmS fs a c else sgz), .bool (cmB fs a c 6)]) ∧ Kept w w'
set_option maxRecDepth 100000 in
set_option maxHeartbeats 6400000 in
theorem rcommon_any (A B : Option Addr) (n c m d : Nat) (ms : List Mk) (fs : List Fd) (s t : Sg) (hso : s.ok) (hto : t.ok) (w : World) (hs : SmA w A n c ms B m d fs) :
    Calls Tryz.prog 100 #[.agg #[.slice A n c, .slice B m d], .agg #[.int .u8 s.s0, .int .u8 s.s1, .int .u8 s.s2, .int .u8 s.s3, .int .u8 s.s4, .int .u8 s.s5], .agg #[.int .u8 t.s0, .int .u8 t.s1, .int .u8 t.s2, .int .u8 t.s3, .int .u8 t.s4, .int .u8 t.s5]] w (CmR w fs s t) := by
  obtain ⟨W0, hW0⟩ : ∃ W0, W0 = (((w.alloc (.cells #[.slice A n c, .slice B m d] 25)).alloc (.cells #[.int .u8 s.s0, .int .u8 s.s1, .int .u8 s.s2, .int .u8 s.s3, .int .u8 s.s4, .int .u8 s.s5] 30)).alloc (.cells #[.int .u8 t.s0, .int .u8 t.s1, .int .u8 t.s2, .int .u8 t.s3, .int .u8 t.s4, .int .u8 t.s5] 30)).alloc (.cells #[.int .u8 0, .int .u8 0, .int .u8 0, .int .u8 0, .int .u8 0, .int .u8 0] 39) := ⟨_, rfl⟩
  have k1 : Kept w (w.alloc (.cells #[.slice A n c, .slice B m d] 25)) := (Kept.refl _).alloc _
  have z1 : (w.alloc (.cells #[.slice A n c, .slice B m d] 25)).heap.size = w.heap.size + 1 := World.size_alloc ..
  have z2 : ((w.alloc (.cells #[.slice A n c, .slice B m d] 25)).alloc (.cells #[.int .u8 s.s0, .int .u8 s.s1, .int .u8 s.s2, .int .u8 s.s3, .int .u8 s.s4, .int .u8 s.s5] 30)).heap.size = w.heap.size + 1 + 1 := by rw [World.size_alloc, z1]
  have z3 : (((w.alloc (.cells #[.slice A n c, .slice B m d] 25)).alloc (.cells #[.int .u8 s.s0, .int .u8 s.s1, .int .u8 s.s2, .int .u8 s.s3, .int .u8 s.s4, .int .u8 s.s5] 30)).alloc (.cells #[.int .u8 t.s0, .int .u8 t.s1, .int .u8 t.s2, .int .u8 t.s3, .int .u8 t.s4, .int .u8 t.s5] 30)).heap.size = w.heap.size + 1 + 1 + 1 := by rw [World.size_alloc, z2]
  have K0 : RowKit.Hid (Kept w W0) := Lib.hid (by rw [hW0]; exact ((k1.alloc _).alloc _).alloc _)
  have R0 : RowKit.Hid (RowC W0 w.heap.size [.slice A n c, .slice B m d]) := Lib.hid (by rw [hW0]; exact (RowC.new w [.slice A n c, .slice B m d] 25).kept ((((Kept.refl _).alloc _).alloc _).alloc _))
  have RS : RowKit.Hid (RowC W0 (w.heap.size + 1) (sgV s)) := Lib.hid (by rw [hW0]; have h := RowC.new (w.alloc (.cells #[.slice A n c, .slice B m d] 25)) (sgV s) 30; rw [z1] at h; exact h.kept (((Kept.refl _).alloc _).alloc _))
  have RT : RowKit.Hid (RowC W0 (w.heap.size + 1 + 1) (sgV t)) := Lib.hid (by rw [hW0]; have h := RowC.new ((w.alloc (.cells #[.slice A n c, .slice B m d] 25)).alloc (.cells #[.int .u8 s.s0, .int .u8 s.s1, .int .u8 s.s2, .int .u8 s.s3, .int .u8 s.s4, .int .u8 s.s5] 30)) (sgV t) 30; rw [z2] at h; exact h.kept ((Kept.refl _).alloc _))
  have RZ : RowKit.Hid (RowC W0 (w.heap.size + 1 + 1 + 1) zero6) := Lib.hid (by rw [hW0]; have h := RowC.new (((w.alloc (.cells #[.slice A n c, .slice B m d] 25)).alloc (.cells #[.int .u8 s.s0, .int .u8 s.s1, .int .u8 s.s2, .int .u8 s.s3, .int .u8 s.s4, .int .u8 s.s5] 30)).alloc (.cells #[.int .u8 t.s0, .int .u8 t.s1, .int .u8 t.s2, .int .u8 t.s3, .int .u8 t.s4, .int .u8 t.s5] 30)) zero6 39; rw [z3] at h; exact h)
  have Z4 : RowKit.Hid (W0.heap.size = w.heap.size + 1 + 1 + 1 + 1) := Lib.hid (by rw [hW0, World.size_alloc, z3])
  have HW := Lib.hid hW0
  have HS := Lib.hid (hs.kept K0.out)
  obtain ⟨W1, hW1⟩ : ∃ W1, W1 = W0.alloc (.cells #[.int .u8 0, .int .u8 0, .int .u8 0, .int .u8 0, .int .u8 0, .int .u8 0] 39) := ⟨_, rfl⟩
  have HK1 : RowKit.Hid (Kept W0 W1) := Lib.hid (by rw [hW1]; exact (Kept.refl _).alloc _)
  have RV : RowKit.Hid (RowC W1 W0.heap.size (cvL fs s t 0)) := Lib.hid (by rw [cvL_0, hW1]; exact RowC.new W0 (sgV sgz) 39)
  have HW1 := Lib.hid hW1
  have HMY : RowKit.Hid (∀ (p : Nat) (a v : Int) W, Kept W0 W → Calls Tryz.prog 105 #[.agg #[.slice A n c, .slice B m d], .int .i64 (p : Int), .int .u8 a, .int .u8 v] W fun e w' => e = .returned (.bool (mayB fs p a v)) ∧ Kept W w') := Lib.hid (fun p a v W hW => rmay_any A B n c m d ms fs p a v W (HS.out.kept hW))
  have HSL := Lib.hid (Sg.ok_l hso)
  have HTL := Lib.hid (Sg.ok_l hto)
  clear hW0 hs k1 z1 z2 z3 hW1 hso hto
  go_enter Tryz.func100, Tryz.ntmps100
  go_upto_region 1 with (fail)
  rw [← HW.out]
  go_upto_region 2 with (fail)
  rw [← HW1.out]
  go_wp2_with fail
  go_loopw [9] (fun i wr => ∃ k : Nat, k ≤ 6 ∧ i = .int .i64 k ∧ RowC wr W0.heap.size (cvL fs s t k) ∧ cmB fs s t k = true ∧ Kept W0 wr) (fun i _ => 6 - (intOf i).toNat)
  case atStart => exact ⟨0, by omega, by first | rfl | go_num, RV.out, rfl, HK1.out⟩
  case round =>
    obtain ⟨k, hk, rfl, hrv, hcb, hkr⟩ := hrel
    have HRV := Lib.hid hrv
    have HCB := Lib.hid hcb
    have HKR := Lib.hid hkr
    clear hrv hcb hkr
    by_cases hlt : k < 6
    · have hi0 : (0 : Int) ≤ (k : Int) := by omega
      have hi1 : (k : Int) < 6 := by omega
      obtain ⟨x, hx⟩ := sg_six s hlt
      obtain ⟨y, hy⟩ := sg_six t hlt
      have HGX : RowKit.Hid (s.l.getD k 0 = x) := Lib.hid (by rw [List.getD_eq_getElem?_getD, hx]; rfl)
      have HGY : RowKit.Hid (t.l.getD k 0 = y) := Lib.hid (by rw [List.getD_eq_getElem?_getD, hy]; rfl)
      have CX : RowKit.Hid (∀ W, Kept W0 W → W.cell? ⟨w.heap.size + 1, k, none⟩ = some (.int .u8 x)) := Lib.hid (fun W hW => (RS.out.kept hW k _ (sgV_at hx)).1)
      have CY : RowKit.Hid (∀ W, Kept W0 W → W.cell? ⟨w.heap.size + 1 + 1, k, none⟩ = some (.int .u8 y)) := Lib.hid (fun W hW => (RT.out.kept hW k _ (sgV_at hy)).1)
      have C0 : RowKit.Hid (∀ W, Kept W0 W → W.cell? ⟨w.heap.size, 0, none⟩ = some (.slice A n c) ∧ W.cell? ⟨w.heap.size, 1, none⟩ = some (.slice B m d)) := Lib.hid (fun W hW => ⟨(R0.out.kept hW 0 _ rfl).1, (R0.out.kept hW 1 _ rfl).1⟩)
      have HX := Lib.hid hx
      have HY := Lib.hid hy
      clear hx hy
      obtain ⟨Wk, hWk⟩ : ∃ Wk, Wk = wr := ⟨_, rfl⟩
      rw [← hWk] at HRV HKR ⊢
      clear hWk
      go_wp2_with fail
      go_loopw [10, 11] (fun f v wr => ∃ (q : Nat) (fb : Bool), q ≤ 5 ∧ v = .int .u8 (q : Int) ∧ f = .bool fb ∧ ((fb = false ∧ (∀ x, x < q → bmB fs s t k x = false) ∧ RowC wr W0.heap.size (cvL fs s t k)) ∨ (fb = true ∧ (cmP fs s t k).isSome = true ∧ RowC wr W0.heap.size (cvL fs s t (k + 1)))) ∧ Kept W0 wr) (fun f v _ => (match f with | .bool true => 0 | _ => 1) + (5 - (intOf v).toNat))
      case atStart => exact ⟨0, false, by omega, by first | rfl | go_num, rfl, .inl ⟨rfl, (fun x hx => by omega), HRV.out⟩, HKR.out⟩
      case round =>
        obtain ⟨q, fb, hq, rfl, rfl, hor, hkr⟩ := hrel
        have HOR := Lib.hid hor
        have HKQ := Lib.hid hkr
        clear hor hkr
        cases fb with
        | true =>
          have hor : (cmP fs s t k).isSome = true ∧ RowC wr W0.heap.size (cvL fs s t (k + 1)) := by
            rcases HOR.out with ⟨h, _⟩ | ⟨_, h⟩
            · cases h
            · exact h
          have HO2 := Lib.hid hor
          clear hor HOR
          by_cases h5 : (q : Int) ≤ 4
          · go_wp2_with fail
            go_roundw
            case rel => exact ⟨k + 1, by omega, by go_num, HO2.out.2, by rw [cmB_succ, HCB.out, HO2.out.1]; rfl, HKQ.out⟩
            case measure => simp [intOf]; omega
          · go_wp2_with fail
            go_roundw
            case rel => exact ⟨k + 1, by omega, by go_num, HO2.out.2, by rw [cmB_succ, HCB.out, HO2.out.1]; rfl, HKQ.out⟩
            case measure => simp [intOf]; omega
        | false =>
          have hor : (∀ x, x < q → bmB fs s t k x = false) ∧ RowC wr W0.heap.size (cvL fs s t k) := by
            rcases HOR.out with ⟨_, h⟩ | ⟨h, _⟩
            · exact h
            · cases h
          have HO2 := Lib.hid hor
          clear hor HOR
          by_cases h5 : q < 5
          · have hq4 : (q : Int) ≤ 4 := by omega
            have hq0 : (0 : Int) ≤ (q : Int) := by omega
            obtain ⟨m1, hm1⟩ : ∃ b, mayB fs k x (q : Int) = b := ⟨_, rfl⟩
            obtain ⟨m2, hm2⟩ : ∃ b, mayB fs k y (q : Int) = b := ⟨_, rfl⟩
            have HBM : RowKit.Hid (bmB fs s t k q = (m1 && m2)) := Lib.hid (by unfold bmB; rw [HGX.out, HGY.out, hm1, hm2])
            have M1 : RowKit.Hid (∀ W, Kept W0 W → Calls Tryz.prog 105 #[.agg #[.slice A n c, .slice B m d], .int .i64 (k : Int), .int .u8 x, .int .u8 (q : Int)] W fun e w' => e = .returned (.bool m1) ∧ Kept W w') := Lib.hid (fun W hW => by rw [← hm1]; exact HMY.out k x q W hW)
            have M2 : RowKit.Hid (∀ W, Kept W0 W → Calls Tryz.prog 105 #[.agg #[.slice A n c, .slice B m d], .int .i64 (k : Int), .int .u8 y, .int .u8 (q : Int)] W fun e w' => e = .returned (.bool m2) ∧ Kept W w') := Lib.hid (fun W hW => by rw [← hm2]; exact HMY.out k y q W hW)
            clear hm1 hm2
            go_upto_region 9 with (fail)
            have SC : RowKit.Hid (∀ W, Kept wr W → W.cell? ⟨w.heap.size, 0, none⟩ = some (.slice A n c) ∧ W.cell? ⟨w.heap.size, 1, none⟩ = some (.slice B m d) ∧ W.cell? ⟨w.heap.size + 1, k, none⟩ = some (.int .u8 x) ∧ W.cell? ⟨w.heap.size + 1 + 1, k, none⟩ = some (.int .u8 y) ∧ Kept wr W) := Lib.hid (fun W hW => ⟨(C0.out W (HKQ.out.trans hW)).1, (C0.out W (HKQ.out.trans hW)).2, CX.out W (HKQ.out.trans hW), CY.out W (HKQ.out.trans hW), hW⟩)
            have N1 : RowKit.Hid (∀ W, Kept wr W → Calls Tryz.prog 105 #[.agg #[.slice A n c, .slice B m d], .int .i64 (k : Int), .int .u8 x, .int .u8 (q : Int)] W fun e w' => e = .returned (.bool m1) ∧ Kept W w') := Lib.hid (fun W hW => M1.out W (HKQ.out.trans hW))
            have N2 : RowKit.Hid (∀ W, Kept wr W → Calls Tryz.prog 105 #[.agg #[.slice A n c, .slice B m d], .int .i64 (k : Int), .int .u8 y, .int .u8 (q : Int)] W fun e w' => e = .returned (.bool m2) ∧ Kept W w') := Lib.hid (fun W hW => M2.out W (HKQ.out.trans hW))
            have q0 := (SC.out _ (Kept.refl _)).1
            have lq := cell_lt q0
            have q1 := (SC.out _ (Kept.refl _)).2.2.1
            have lq1 := cell_lt q1
            have q2 := (SC.out _ (Kept.refl _)).2.2.2.1
            have lq2 := cell_lt q2
            clear q0 q1 q2
            go_cut [39] (fun s39 wx => s39 = .bool (m1 && m2) ∧ Kept wr wx)
            case first =>
              have kd := (Kept.refl wr).drew
              cases m1 with
              | true =>
                go_region_held3 (fun W => W.cell? ⟨w.heap.size, 0, none⟩ = some (.slice A n c) ∧ W.cell? ⟨w.heap.size, 1, none⟩ = some (.slice B m d) ∧ W.cell? ⟨w.heap.size + 1, k, none⟩ = some (.int .u8 x) ∧ W.cell? ⟨w.heap.size + 1 + 1, k, none⟩ = some (.int .u8 y) ∧ Kept wr W)
                  (first
                    | (with_reducible exact SC.out _ kd)
                    | (with_reducible exact SC.out _ kk1)
                    | (with_reducible exact SC.out _ kk2)
                    | fail)
                  (first
                    | (go_at_call 105; first
                        | (with_reducible refine (N1.out _ kd).mono ?_; rintro e w9 ⟨rfl, hk9⟩; have kk1 : Kept wr w9 := (by with_reducible exact kd.trans hk9))
                        | (with_reducible refine (N2.out _ kk1).mono ?_; rintro e w10 ⟨rfl, hk10⟩; have kk2 : Kept wr w10 := (by with_reducible exact kk1.trans hk10)))
                    | fail)
                all_goals go_wp2
                all_goals go_meet
                all_goals exact ⟨by simp, kk2⟩
              | false =>
                refine wp_region_held_drew (S := fun W => W.cell? ⟨w.heap.size, 0, none⟩ = some (.slice A n c) ∧ W.cell? ⟨w.heap.size, 1, none⟩ = some (.slice B m d) ∧ W.cell? ⟨w.heap.size + 1, k, none⟩ = some (.int .u8 x) ∧ W.cell? ⟨w.heap.size + 1 + 1, k, none⟩ = some (.int .u8 y) ∧ Kept wr W) (by kernel_rfl) (SC.out _ kd) (fun hHeld => ?_)
                refine take_at (i := 0) (d := some 24) (v := ?_) rfl rfl (by kernel_rfl) (by kernel_rfl) (by kernel_rfl) (fun _ _ _ h => h) (Or.inl ⟨by rfl, ?_⟩) hHeld ?_
                rotate_left
                · intro w hSw
                  try dsimp only at hSw
                  go_simp
                  try (with_reducible rfl)
                try simp only [Act.put, List.setIfInBounds_toArray, List.set_cons_zero, List.set_cons_succ]
                refine take_at (i := 1) (d := some 25) (v := ?_) rfl rfl (by kernel_rfl) (by kernel_rfl) (by kernel_rfl) (fun _ _ _ h => h) (Or.inl ⟨by rfl, ?_⟩) hHeld ?_
                rotate_left
                · intro w hSw
                  try dsimp only at hSw
                  go_simp
                  try (with_reducible rfl)
                try simp only [Act.put, List.setIfInBounds_toArray, List.set_cons_zero, List.set_cons_succ]
                refine take_at (i := 2) (d := some 26) (v := ?_) rfl rfl (by kernel_rfl) (by kernel_rfl) (by kernel_rfl) (fun _ _ _ h => h) (Or.inl ⟨by rfl, ?_⟩) hHeld ?_
                rotate_left
                · intro w hSw
                  try dsimp only at hSw
                  go_simp
                  try (with_reducible rfl)
                try simp only [Act.put, List.setIfInBounds_toArray, List.set_cons_zero, List.set_cons_succ]
                refine take_at (i := 3) (d := some 27) (v := ?_) rfl rfl (by kernel_rfl) (by kernel_rfl) (by kernel_rfl) (fun _ _ _ h => h) (Or.inl ⟨by rfl, ?_⟩) hHeld ?_
                rotate_left
                · intro w hSw
                  try dsimp only at hSw
                  go_simp
                  try (with_reducible rfl)
                try simp only [Act.put, List.setIfInBounds_toArray, List.set_cons_zero, List.set_cons_succ]
                refine take_at (i := 4) (d := some 28) (v := ?_) rfl rfl (by kernel_rfl) (by kernel_rfl) (by kernel_rfl) (fun _ _ _ h => h) (Or.inl ⟨by rfl, ?_⟩) hHeld ?_
                rotate_left
                · intro w hSw
                  try dsimp only at hSw
                  go_simp
                  try (with_reducible rfl)
                try simp only [Act.put, List.setIfInBounds_toArray, List.set_cons_zero, List.set_cons_succ]
                refine take_at (i := 5) (d := some 29) (v := ?_) rfl rfl (by kernel_rfl) (by kernel_rfl) (by kernel_rfl) (fun _ _ _ h => h) (Or.inl ⟨by rfl, ?_⟩) hHeld ?_
                rotate_left
                · intro w hSw
                  try dsimp only at hSw
                  go_simp
                  try (with_reducible rfl)
                try simp only [Act.put, List.setIfInBounds_toArray, List.set_cons_zero, List.set_cons_succ]
                refine wpAnyH_ready (rs := [6]) (by kernel_rfl) (by simp) ?_
                refine AllReadyH.cons rfl (fun K hK => ?_) AllReadyH.nil
                rw [if_pos (by rfl)]
                go_simp
                refine (N1.out _ kd).mono ?_
                rintro e w9 ⟨rfl, hkk⟩
                go_wp2_with fail
                refine hK.out _ _ (SC.out _ (kd.trans hkk)) (fun hHeld => ?_)
                clear hK K
                try simp only [Act.put, List.setIfInBounds_toArray, List.set_cons_zero, List.set_cons_succ]
                refine take_at (i := 7) (d := some 31) (v := ?_) rfl rfl (by kernel_rfl) (by kernel_rfl) (by kernel_rfl) (fun _ _ _ h => h) (Or.inl ⟨by rfl, ?_⟩) hHeld ?_
                rotate_left
                · intro w hSw
                  try dsimp only at hSw
                  go_simp
                  try (with_reducible rfl)
                try simp only [Act.put, List.setIfInBounds_toArray, List.set_cons_zero, List.set_cons_succ]
                refine take_at (i := 8) (d := some 32) (v := undef) rfl rfl (by kernel_rfl) (by kernel_rfl) (by kernel_rfl) (fun _ _ _ h => h) (Or.inr ⟨by rfl, rfl⟩) hHeld ?_
                try simp only [Act.put, List.setIfInBounds_toArray, List.set_cons_zero, List.set_cons_succ]
                refine take_at (i := 9) (d := some 33) (v := undef) rfl rfl (by kernel_rfl) (by kernel_rfl) (by kernel_rfl) (fun _ _ _ h => h) (Or.inr ⟨by rfl, rfl⟩) hHeld ?_
                try simp only [Act.put, List.setIfInBounds_toArray, List.set_cons_zero, List.set_cons_succ]
                refine take_at (i := 10) (d := some 34) (v := undef) rfl rfl (by kernel_rfl) (by kernel_rfl) (by kernel_rfl) (fun _ _ _ h => h) (Or.inr ⟨by rfl, rfl⟩) hHeld ?_
                try simp only [Act.put, List.setIfInBounds_toArray, List.set_cons_zero, List.set_cons_succ]
                refine take_at (i := 11) (d := some 35) (v := undef) rfl rfl (by kernel_rfl) (by kernel_rfl) (by kernel_rfl) (fun _ _ _ h => h) (Or.inr ⟨by rfl, rfl⟩) hHeld ?_
                try simp only [Act.put, List.setIfInBounds_toArray, List.set_cons_zero, List.set_cons_succ]
                refine take_at (i := 12) (d := some 36) (v := undef) rfl rfl (by kernel_rfl) (by kernel_rfl) (by kernel_rfl) (fun _ _ _ h => h) (Or.inr ⟨by rfl, rfl⟩) hHeld ?_
                try simp only [Act.put, List.setIfInBounds_toArray, List.set_cons_zero, List.set_cons_succ]
                refine take_at (i := 13) (d := some 37) (v := undef) rfl rfl (by kernel_rfl) (by kernel_rfl) (by kernel_rfl) (fun _ _ _ h => h) (Or.inr ⟨by rfl, rfl⟩) hHeld ?_
                try simp only [Act.put, List.setIfInBounds_toArray, List.set_cons_zero, List.set_cons_succ]
                refine take_at (i := 14) (d := some 38) (v := undef) rfl rfl (by kernel_rfl) (by kernel_rfl) (by kernel_rfl) (fun _ _ _ h => h) (Or.inr ⟨by rfl, rfl⟩) hHeld ?_
                try simp only [Act.put, List.setIfInBounds_toArray, List.set_cons_zero, List.set_cons_succ]
                refine take_at (i := 15) (d := some 39) (v := ?_) rfl rfl (by kernel_rfl) (by kernel_rfl) (by kernel_rfl) (fun _ _ _ h => h) (Or.inl ⟨by rfl, ?_⟩) hHeld ?_
                rotate_left
                · intro w hSw
                  try dsimp only at hSw
                  go_simp
                  try (with_reducible rfl)
                try simp only [Act.put, List.setIfInBounds_toArray, List.set_cons_zero, List.set_cons_succ]
                refine wpAnyH_done (by kernel_rfl) ?_ _
                go_wp2
                go_meet
                exact ⟨rfl, kd.trans hkk⟩
            obtain ⟨rfl, hkc⟩ := hcut
            obtain ⟨Wc, hWc⟩ : ∃ Wc, Wc = wc := ⟨_, rfl⟩
            rw [← hWc] at hkc ⊢
            clear hWc
            have HKC := Lib.hid (HKQ.out.trans hkc)
            have RVC := Lib.hid (HO2.out.2.kept hkc)
            clear hkc
            cases hb : (m1 && m2) with
            | false =>
              rw [hb] at HBM
              go_wp2_with fail
              go_roundw
              case rel => exact ⟨q + 1, false, by omega, by go_num, rfl, .inl ⟨rfl, (fun x hx => by
                rcases Nat.lt_or_ge x q with h | h
                · exact HO2.out.1 x h
                · obtain rfl : x = q := by omega
                  exact HBM.out), RVC.out⟩, HKC.out⟩
              case measure => simp [intOf]; omega
            | true =>
              rw [hb] at HBM
              have HCM := Lib.hid (cmP_find h5 HO2.out.1 HBM.out)
              have hrk := RVC.out k _ (show (cvL fs s t k)[k]? = some (.int .u8 0) by unfold cvL; rw [List.getElem?_map, List.getElem?_range hlt]; simp)
              obtain ⟨g1, g2⟩ := hrk
              have lg := cell_lt g1
              go_wp2_with fail
              go_roundw
              case rel => exact ⟨q + 1, true, by omega, by go_num, rfl, .inr ⟨rfl, by rw [HCM.out]; rfl, by rw [← cvL_put hlt HCM.out]; exact RVC.out.put (by simpa [cvL] using hlt) _⟩, HKC.out.setCell (p := ⟨W0.heap.size, k, none⟩) (Nat.le_refl _) _⟩
              case measure => simp [intOf]; omega
          · obtain rfl : q = 5 := by omega
            have HNO := Lib.hid (cmB_no hlt (cmP_none HO2.out.1))
            have RZW := Lib.hid (RZ.out.kept HKQ.out)
            have HKW := Lib.hid (K0.out.trans HKQ.out)
            have HS6 : RowKit.Hid (RowC (set6 wr (w.heap.size + 1 + 1 + 1) sgz) (w.heap.size + 1 + 1 + 1) (sgV sgz) ∧ Kept w (set6 wr (w.heap.size + 1 + 1 + 1) sgz)) := Lib.hid (set6_ok RZW.out HKW.out (by omega))
            have z0 := (RZW.out 0 _ rfl).1
            have f0 := (RZW.out 0 _ rfl).2
            have z1 := (RZW.out 1 _ rfl).1
            have f1 := (RZW.out 1 _ rfl).2
            have z2 := (RZW.out 2 _ rfl).1
            have f2 := (RZW.out 2 _ rfl).2
            have z3 := (RZW.out 3 _ rfl).1
            have f3 := (RZW.out 3 _ rfl).2
            have z4 := (RZW.out 4 _ rfl).1
            have f4 := (RZW.out 4 _ rfl).2
            have z5 := (RZW.out 5 _ rfl).1
            have f5 := (RZW.out 5 _ rfl).2
            have lz := cell_lt z0
            go_wp2_with fail
            obtain ⟨hs6, hk6⟩ := HS6.out
            unfold set6 sgz at hs6 hk6
            have e0 := (hs6 0 _ rfl).1
            have e1 := (hs6 1 _ rfl).1
            have e2 := (hs6 2 _ rfl).1
            have e3 := (hs6 3 _ rfl).1
            have e4 := (hs6 4 _ rfl).1
            have e5 := (hs6 5 _ rfl).1
            refine bodyPost_ret (v := .tuple #[.agg #[.int .u8 0, .int .u8 0, .int .u8 0, .int .u8 0, .int .u8 0, .int .u8 0], .bool false]) (by simp [results, Tryz.results100, go_sem, e0, e1, e2, e3, e4, e5]) rfl ⟨?_, hk6⟩
            rw [HNO.out]
            rfl
    · obtain rfl : k = 6 := by omega
      have RZW := Lib.hid (RZ.out.kept HKR.out)
      have HKW := Lib.hid (K0.out.trans HKR.out)
      rw [cvL_6] at HRV
      obtain ⟨y, hy⟩ : ∃ y, cmS fs s t = y := ⟨_, rfl⟩
      rw [hy] at HRV
      have HY := Lib.hid hy
      clear hy
      have HS6 : RowKit.Hid (RowC (set6 wr (w.heap.size + 1 + 1 + 1) y) (w.heap.size + 1 + 1 + 1) (sgV y) ∧ Kept w (set6 wr (w.heap.size + 1 + 1 + 1) y)) := Lib.hid (set6_ok RZW.out HKW.out (by omega))
      have z0 := (RZW.out 0 _ rfl).1
      have f0 := (RZW.out 0 _ rfl).2
      have z1 := (RZW.out 1 _ rfl).1
      have f1 := (RZW.out 1 _ rfl).2
      have z2 := (RZW.out 2 _ rfl).1
      have f2 := (RZW.out 2 _ rfl).2
      have z3 := (RZW.out 3 _ rfl).1
      have f3 := (RZW.out 3 _ rfl).2
      have z4 := (RZW.out 4 _ rfl).1
      have f4 := (RZW.out 4 _ rfl).2
      have z5 := (RZW.out 5 _ rfl).1
      have f5 := (RZW.out 5 _ rfl).2
      have v0 := (HRV.out 0 _ rfl).1
      have v1 := (HRV.out 1 _ rfl).1
      have v2 := (HRV.out 2 _ rfl).1
      have v3 := (HRV.out 3 _ rfl).1
      have v4 := (HRV.out 4 _ rfl).1
      have v5 := (HRV.out 5 _ rfl).1
      have lz := cell_lt z0
      have lv := cell_lt v0
      go_wp2_with fail
      obtain ⟨hs6, hk6⟩ := HS6.out
      unfold set6 at hs6 hk6
      have e0 := (hs6 0 _ rfl).1
      have e1 := (hs6 1 _ rfl).1
      have e2 := (hs6 2 _ rfl).1
      have e3 := (hs6 3 _ rfl).1
      have e4 := (hs6 4 _ rfl).1
      have e5 := (hs6 5 _ rfl).1
      refine bodyPost_ret (v := .tuple #[.agg #[.int .u8 y.s0, .int .u8 y.s1, .int .u8 y.s2, .int .u8 y.s3, .int .u8 y.s4, .int .u8 y.s5], .bool true]) (by simp [results, Tryz.results100, go_sem, e0, e1, e2, e3, e4, e5]) rfl ⟨?_, hk6⟩
      rw [HCB.out, if_pos rfl, HY.out]
      rfl
end Go.Proofs.YtologmoanaccpaaGreatDoor

namespace Go.Proofs.YtologmoanaccpaaGreatDoor
set_option linter.all false
open Go.RowKit

theorem lkX_lkF (fs : List Fd) {k g : Nat} (hg : g < 5) : lkX fs (k * 5 + g) = lkF fs k g := by
  unfold lkX
  rw [show (k * 5 + g) / 5 = k by omega, show (k * 5 + g) % 5 = g by omega]
theorem lkF_hi {fs : List Fd} (hf : ∀ f ∈ fs, f.seen ≤ 4) {k g v : Nat} (hg : g ≤ 4) (hv : 5 ≤ v) : (lkF fs k g).testBit v = false := by
  have hlt : ∀ (fs : List Fd) (a : Nat), (∀ f ∈ fs, f.seen ≤ 4) → a.testBit v = false → (fs.foldl (fun a f => if f.sign = (g : Int) then a ||| 2 ^ f.seen.toNat else a) a).testBit v = false := by
    intro fs
    induction fs with
    | nil => intro a _ h; exact h
    | cons f fs ih =>
      intro a hf h
      rw [List.foldl_cons]
      refine ih _ (fun x hx => hf x (List.mem_cons_of_mem _ hx)) ?_
      have := hf f (List.mem_cons_self ..)
      split
      · rw [Nat.testBit_or, h, Nat.testBit_two_pow]
        simp; omega
      · exact h
  have h0 : (2 ^ g).testBit v = false := by rw [Nat.testBit_two_pow]; simp; omega
  unfold lkF lkG
  split
  · exact h0
  · exact hlt fs _ hf h0
theorem fit1_bit (fs : List Fd) (p : Nat) (a : Int) (v : Nat) (hv : v < 5) : fit1 fs p a (v : Int) = (lkF fs p a.toNat).testBit v := by
  unfold fit1
  have : ((v : Int) == 9) = false := by simp; omega
  rw [this, Bool.false_or, Int.toNat_natCast]
theorem clear_get {s : Sg} (hs : s.ok) (hc : clearB s = true) {p : Nat} (hp : p < 6) : 0 ≤ s.l.getD p 0 ∧ s.l.getD p 0 ≤ 4 := by
  obtain ⟨x, hx⟩ := sg_six s hp
  rw [List.getD_eq_getElem?_getD, hx]
  exact ⟨(Sg.ok_l hs x (List.mem_of_getElem? hx)).1, clear4 hc x (List.mem_of_getElem? hx)⟩
theorem cm_ap1 {fs : List Fd} (hfo : ∀ f ∈ fs, f.ok) (hf : ∀ f ∈ fs, f.seen ≤ 4) {a c : Sg} (ha : a.ok) (hc : c.ok) (hac : clearB a = true) (hcc : clearB c = true) {p : Nat} (hp : p < 6) : (cmP fs a c p).isSome = !apB fs a c p := by
  obtain ⟨a1, a2⟩ := clear_get ha hac hp
  obtain ⟨c1, c2⟩ := clear_get hc hcc hp
  have hb : ∀ v, v < 5 → bmB fs a c p v = (bothN fs p (a.l.getD p 0).toNat (c.l.getD p 0).toNat).testBit v := fun v hv => by
    unfold bmB bothN
    rw [← may_fit hfo a1 (by omega), ← may_fit hfo c1 (by omega), fit1_bit _ _ _ _ hv, fit1_bit _ _ _ _ hv, Nat.testBit_and, lkX_lkF fs (by omega), lkX_lkF fs (by omega)]
  unfold cmP apB
  rw [Bool.eq_iff_iff, List.find?_isSome]
  simp only [List.mem_range, Bool.not_eq_true', beq_eq_false_iff_ne, ne_eq]
  constructor
  · rintro ⟨v, hv, h⟩ e
    rw [hb v hv, e, Nat.zero_testBit] at h
    cases h
  · intro h
    obtain ⟨v, hv⟩ := Nat.exists_testBit_of_ne_zero h
    have hv5 : v < 5 := by
      rcases Nat.lt_or_ge v 5 with h5 | h5
      · exact h5
      · unfold bothN at hv
        rw [Nat.testBit_and, lkX_lkF fs (by omega), lkF_hi hf (by omega) h5, Bool.false_and] at hv
        cases hv
    exact ⟨v, hv5, by rw [hb v hv5]; exact hv⟩
theorem cm_ap {fs : List Fd} (hfo : ∀ f ∈ fs, f.ok) (hf : ∀ f ∈ fs, f.seen ≤ 4) {a c : Sg} (ha : a.ok) (hc : c.ok) (hac : clearB a = true) (hcc : clearB c = true) : (apK fs a c 6 != 0) = !cmB fs a c 6 := by
  unfold apK cmB
  rw [Bool.eq_iff_iff]
  simp only [bne_iff_ne, ne_eq, Bool.not_eq_true', List.length_eq_zero_iff, List.filter_eq_nil_iff, List.all_eq_false]
  constructor
  · intro h
    apply Classical.byContradiction
    intro h2
    apply h
    intro p hp hb
    apply h2
    refine ⟨p, hp, ?_⟩
    rw [cm_ap1 hfo hf ha hc hac hcc (List.mem_range.1 hp), hb]; simp
  · rintro ⟨p, hp, h⟩ h2
    rw [cm_ap1 hfo hf ha hc hac hcc (List.mem_range.1 hp)] at h
    have := h2 p hp
    simp at h this
    rw [h] at this
    cases this
def fewB (n m p u : Nat) : Prop := n ≤ 110 ∧ m ≤ 30 ∧ p ≤ 70 ∧ u ≤ 14
end Go.Proofs.YtologmoanaccpaaGreatDoor
