/-
  ShareLater, the law.
-/
import Derived.Test.YtcjpecdnenemaaaGreatDoorLa3
import Derived.Test.YtcjpecdnenemaaaGreatDoorGT
import Derived.Deep.DeepCutAuto
namespace Go.Proofs.YtcjpecdnenemaaaGreatDoor
set_option linter.all false
open Go.RowKit Go.Shelf

theorem force_congr {xs : List Eqv} {a b : ByteArray} (h : a.toList = b.toList) (d k : Int) : inForceS xs a d k = inForceS xs b d k := by
  unfold inForceS bestS
  have : gst a d = gst b d := by funext acc x; unfold gst fitB; rw [h]
  rw [this]
theorem starts_congr {xs : List Eqv} {a b : ByteArray} (h : a.toList = b.toList) : startsS xs a = startsS xs b := by
  unfold startsS frmS; rw [h]
theorem of_ok {xs : List Eqv} (h : (chkS xs).2 = 0) (s : ByteArray) (d k : Int) : ofS xs s d k = ((inForceS xs s d k).getD zeroE, if (inForceS xs s d k).isSome = true then 0 else 10) := by
  unfold ofS
  rw [if_pos h]
  rcases inForceS xs s d k with _ | x <;> rfl
theorem later_known {xs : List Eqv} {x : Eqv} (h : (chkS (xs ++ [x])).2 = 0) (s : ByteArray) (d k : Int) (hk : k < x.kno) : ofS (xs ++ [x]) s d k = ofS xs s d k := by
  rw [of_ok h, of_ok (chk_pre h), force_later hk]
theorem later_other {xs : List Eqv} {x : Eqv} (h : (chkS (xs ++ [x])).2 = 0) (s : ByteArray) (d : Int) (hk : (reachS xs x).any (fun z => s.toList == z.toList) = false) :
    (ofS xs s d x.kno).2 = (ofS (xs ++ [x]) s d x.kno).2 ∧ (ofS xs s d x.kno).1.num = (ofS (xs ++ [x]) s d x.kno).1.num ∧ (ofS xs s d x.kno).1.den = (ofS (xs ++ [x]) s d x.kno).1.den := by
  rcases hs : (s.toList == (sortS xs x).toList) with _ | _
  · rw [of_ok h, of_ok (chk_pre h), force_other h hs]
    exact ⟨rfl, rfl, rfl⟩
  · have e : s.toList = (sortS xs x).toList := by simpa using hs
    have hr : reachB xs x = false := by
      rcases hb : reachB xs x with _ | _
      · rfl
      · unfold reachS at hk
        rw [if_pos hb] at hk
        simp [e] at hk
    have hst := force_agree (known := x.kno) h (sort := s) (fun d hd => by
      rw [starts_congr e] at hd
      unfold reachB at hr
      rw [List.any_eq_false] at hr
      have := hr d hd
      unfold chgB at this
      simp at this
      rw [force_congr e, force_congr e]
      exact Prod.ext this.1 this.2) d
    have hi := some_of_st h (chk_pre h) hst
    rw [of_ok h, of_ok (chk_pre h), hi]
    have h1 := congrArg Prod.fst hst
    have h2 := congrArg Prod.snd hst
    exact ⟨rfl, h1.symm, h2.symm⟩
theorem later_turn {xs : List Eqv} (h : (chkS xs).2 = 0) (s : ByteArray) (d k : Int) :
    (turnsS xs s k).any (fun z => d == z) = !(decide ((ofS xs s (d - 1) k).1.num = (ofS xs s d k).1.num) && decide ((ofS xs s (d - 1) k).1.den = (ofS xs s d k).1.den) && decide ((ofS xs s (d - 1) k).2 = (ofS xs s d k).2)) := by
  unfold turnsS
  rw [if_pos h]
  by_cases hm : d ∈ startsS xs s
  · have e : ((startsS xs s).filter (turnB xs s k)).any (fun z => d == z) = turnB xs s k d := by
      rcases ht : turnB xs s k d with _ | _
      · rw [List.any_eq_false]
        intro z hz
        rw [List.mem_filter] at hz
        intro he
        have : d = z := by simpa using he
        subst this
        rw [ht] at hz
        exact absurd hz.2 (by decide)
      · rw [List.any_eq_true]
        exact ⟨d, List.mem_filter.2 ⟨hm, ht⟩, by simp⟩
    rw [e]
    unfold turnB
    rw [of_ok h, of_ok h]
    by_cases h1 : (stS (inForceS xs s d k)).1 = (stS (inForceS xs s (d - 1) k)).1
    · by_cases h2 : (stS (inForceS xs s d k)).2 = (stS (inForceS xs s (d - 1) k)).2
      · have hi := some_of_st h h (Prod.ext h1 h2)
        have h1' := h1
        have h2' := h2
        unfold stS at h1' h2'
        dsimp only at h1' h2'
        simp [h1, h2, h1', h2', hi]
      · have h2' := h2
        unfold stS at h2'
        dsimp only at h2'
        have h3 : ¬ (((inForceS xs s (d - 1) k).getD zeroE).den = ((inForceS xs s d k).getD zeroE).den) := fun e => h2' e.symm
        simp [h2, h3]
    · have h1' := h1
      unfold stS at h1'
      dsimp only at h1'
      have h3 : ¬ (((inForceS xs s (d - 1) k).getD zeroE).num = ((inForceS xs s d k).getD zeroE).num) := fun e => h1' e.symm
      simp [h1, h3]
  · have e : ((startsS xs s).filter (turnB xs s k)).any (fun z => d == z) = false := by
      rw [List.any_eq_false]
      intro z hz he
      have : d = z := by simpa using he
      subst this
      exact hm (List.mem_filter.1 hz).1
    rw [e, of_ok h, of_ok h, force_still hm]
    simp

def fewB (n : Nat) : Bool := decide (n ≤ 40) || (decide (200 < n) && decide (n ≤ 205))
set_option maxRecDepth 100000 in
theorem few_any (A : Option Addr) (n c : Nat) (h : n ≤ 9223372036854775807) (w : World) : Calls Tryz.prog 47 #[.slice A n c] w fun e w' => e = .returned (.bool (fewB n)) ∧ w = w' := by
  obtain ⟨R, hR⟩ : ∃ R, fewB n = R := ⟨_, rfl⟩
  rw [hR]
  by_cases h1 : n ≤ 40
  · have e : R = true := by rw [← hR]; simp [fewB, h1]
    have i1 : (n : Int) ≤ 40 := by omega
    subst e
    clear hR
    go_enter Tryz.func47, Tryz.ntmps47
    go_wp2
    go_ret
    exact ⟨rfl, rfl⟩
  · have i1 : ¬ (n : Int) ≤ 40 := by omega
    by_cases h2 : 200 < n
    · have i2 : (200 : Int) < (n : Int) := by omega
      by_cases h3 : n ≤ 205
      · have i3 : (n : Int) ≤ 205 := by omega
        have e : R = true := by rw [← hR]; simp [fewB, h2, h3]
        subst e
        clear hR
        go_enter Tryz.func47, Tryz.ntmps47
        go_wp2
        go_ret
        exact ⟨rfl, rfl⟩
      · have i3 : ¬ (n : Int) ≤ 205 := by omega
        have e : R = false := by rw [← hR]; simp [fewB, h1, h3]
        subst e
        clear hR
        go_enter Tryz.func47, Tryz.ntmps47
        go_wp2
        go_ret
        exact ⟨rfl, rfl⟩
    · have i2 : ¬ (200 : Int) < (n : Int) := by omega
      have e : R = false := by rw [← hR]; simp [fewB, h1, h2]
      subst e
      clear hR
      go_enter Tryz.func47, Tryz.ntmps47
      go_wp2
      go_ret
      exact ⟨rfl, rfl⟩
theorem few_le {n : Nat} (h : fewB n = true) : n ≤ 205 := by
  unfold fewB at h
  simp at h
  omega
/-- what Append gives where the table takes the record -/
theorem tabres_form {w' : World} {xs : List Eqv} {x : Eqv} {b : Nat} {v : Value} (h : w'.ownsRow b 37 7 v (xs ++ [x]).length (flat7 (xs ++ [x]))) (hs : ∀ y ∈ xs, y.sort.size ≤ 9223372036854775807) (hx : x.sort.size ≤ 9223372036854775807) :
    ∃ mA mc, v = .slice mA (xs.length + 1) mc ∧ TabA w' mA (xs.length + 1) mc (xs ++ [x]) := by
  rcases own_form h with ⟨rfl, hz⟩ | ⟨g, cap, rfl, h1, h2, h3, h4⟩
  · simp at hz
  · rw [show (xs ++ [x]).length = xs.length + 1 by simp] at h ⊢
    exact ⟨_, _, rfl, own_tabA h (by simp) (fun y hy => by
      rcases List.mem_append.1 hy with h | h
      · exact hs y h
      · simp at h; subst h; exact hx)⟩
/-- the row of Turns -/
theorem intres_form {w' : World} {zs : List Int} {b : Nat} {v : Value} (h : w'.ownsRow b 3 1 v zs.length (zs.map (Value.int .i64))) : ∃ A c, v = .slice A zs.length c ∧ StA_i w' A zs.length c zs := by
  rcases own_form h with ⟨rfl, hz⟩ | ⟨g, cap, rfl, h1, h2, h3, h4⟩
  · have : zs = [] := List.eq_nil_of_length_eq_zero hz
    subst this
    exact ⟨none, 0, rfl, rfl, by omega, by omega, fun j z hj => by simp at hj⟩
  · refine ⟨_, _, rfl, rfl, h1, by simpa [maxLen] using h2, fun j z hj => ⟨g, 0, rfl, ?_⟩⟩
    have hl := (List.getElem?_eq_some_iff.1 hj).1
    have := h.cellAt j (by omega)
    rw [Nat.zero_add, this, List.getElem?_map, hj]
    rfl
end Go.Proofs.YtcjpecdnenemaaaGreatDoor
