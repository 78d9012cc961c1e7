/-
  The laws' measure of heads; what the uses of single heads are (P1.4).
-/
import Derived.Test.YtcjpecdnenemaaaGreatDoorUs1
import Derived.Test.YtcjpecdnenemaaaGreatDoorSm2
namespace Go.Proofs.YtcjpecdnenemaaaGreatDoor
set_option linter.all false
open Go.RowKit Go.Shelf

def longB (hs : List Hd) : Bool := hs.any fun h => decide (100 < h.sort.size)
def shB (hs : List Hd) : Bool := !(longB hs) && decide (hs.length ≤ 15)
theorem longB_at {hs : List Hd} {k : Nat} {h : Hd} (hx : hs[k]? = some h) (hl : 100 < h.sort.size) : longB hs = true := by
  unfold longB
  rw [List.any_eq_true]
  exact ⟨h, List.mem_of_getElem? hx, by simpa using hl⟩
theorem longB_none {hs : List Hd} (h : ∀ j x, j < hs.length → hs[j]? = some x → x.sort.size ≤ 100) : longB hs = false := by
  unfold longB
  rw [List.any_eq_false]
  intro x hx
  obtain ⟨i, hi⟩ := List.getElem?_of_mem hx
  have := h i x (List.getElem?_eq_some_iff.1 hi).1 hi
  simp <;> omega
set_option maxRecDepth 100000 in
set_option maxHeartbeats 1600000 in
theorem short_any (B : Option Addr) (hn hc : Nat) (hs : List Hd) (w : World) (hH : HeadsA w B hn hc hs) :
    Calls Tryz.prog 58 #[.slice B hn hc] w fun e w' => e = .returned (.bool (shB hs)) ∧ Kept w w' := by
  have HH := Lib.hid hH
  have hhc := hH.2.1
  have hhm := hH.2.2.1
  clear hH
  go_enter Tryz.func58, Tryz.ntmps58
  go_wp2_with fail
  go_loopw [7] (fun i wr => ∃ k : Nat, k ≤ hn ∧ i = .int .i64 k ∧ (∀ j x, j < k → hs[j]? = some x → x.sort.size ≤ 100) ∧ Kept w wr) (fun i _ => hn - (intOf i).toNat)
  case atStart => exact ⟨0, by omega, by first | rfl | go_num, fun j x hj => by omega, Kept.refl _⟩
  case round =>
    obtain ⟨k, hk, rfl, ho, hkr⟩ := hrel
    have Ho := Lib.hid ho
    have HKR := Lib.hid hkr
    clear ho
    by_cases hlt2 : k < hn
    · obtain ⟨b, off, hB, hcc⟩ := HH.out.2.2.2.2 (by omega)
      subst hB
      have hxl : k < hs.length := by rw [HH.out.1]; exact hlt2
      obtain ⟨x, hx⟩ : ∃ x, hs[k]? = some x := ⟨hs[k]'hxl, List.getElem?_eq_getElem hxl⟩
      have q0 := (hkr.cells _ _ (cell_lt (hcc k x hx).1)).trans (hcc k x hx).1
      have q1 := (hkr.cells _ _ (cell_lt (hcc k x hx).2)).trans (hcc k x hx).2
      have HX := Lib.hid hx
      clear hx hcc hkr
      by_cases hl : 100 < x.sort.size
      · have d1 : decide ((100 : Int) < (x.sort.size : Int)) = true := decide_eq_true (by omega)
        have HS : RowKit.Hid (shB hs = false) := Lib.hid (by unfold shB; rw [longB_at HX.out hl]; rfl)
        go_wp2
        go_ret
        exact ⟨ret_bool (by rw [HS.out]), HKR.out.alloc _⟩
      · have d1 : decide ((100 : Int) < (x.sort.size : Int)) = false := decide_eq_false (by omega)
        have HL : RowKit.Hid (x.sort.size ≤ 100) := Lib.hid (by omega)
        clear hl
        go_wp2
        go_roundw
        case rel =>
          refine ⟨k + 1, by omega, by go_num, fun j z hj hz => ?_, HKR.out.alloc _⟩
          rcases Nat.lt_or_eq_of_le (Nat.le_of_lt_succ hj) with h | h
          · exact Ho.out j z h hz
          · subst h
            have := HX.out
            rw [hz] at this
            cases this
            exact HL.out
        case measure => simp [intOf]; omega
    · obtain rfl : k = hn := by omega
      have HS : RowKit.Hid (shB hs = decide ((k : Int) ≤ 15)) := Lib.hid (by
        unfold shB
        rw [longB_none (fun j x hj hx => Ho.out j x (by rw [← HH.out.1]; exact hj) hx), HH.out.1]
        show (true && decide (k ≤ 15)) = decide ((k : Int) ≤ 15)
        rw [Bool.true_and]
        exact decide_eq_decide.2 (by omega))
      clear hkr
      go_wp2
      go_ret
      exact ⟨ret_bool (by rw [HS.out]), HKR.out⟩
theorem shB_ok {hs : List Hd} (h : shB hs = true) : hs.length ≤ 15 ∧ ∀ x ∈ hs, x.sort.size ≤ 100 := by
  unfold shB at h
  simp only [Bool.and_eq_true, decide_eq_true_eq, Bool.not_eq_true'] at h
  refine ⟨h.2, fun x hx => ?_⟩
  have := h.1
  unfold longB at this
  rw [List.any_eq_false] at this
  have := this x hx
  simp at this
  omega

/-- heads with what each of them takes up -/
def zipE (xs : List Eqv) (hs : List Hd) (day known : Int) : List ((Int × Int) × Int) := (eachL xs hs day known).zip (hs.map (·.num))
theorem zipE_map (xs : List Eqv) (hs : List Hd) (day known : Int) : zipE xs hs day known = hs.map (fun h => (stS (inForceS xs h.sort day known), h.num)) := by
  unfold zipE eachL
  rw [List.zip_map']
theorem zipE_at {xs : List Eqv} {hs : List Hd} {day known : Int} {k : Nat} {h : Hd} (hx : hs[k]? = some h) : (zipE xs hs day known)[k]? = some (stS (inForceS xs h.sort day known), h.num) := by
  rw [zipE_map, List.getElem?_map, hx]; rfl
theorem zipE_set (xs : List Eqv) (hs : List Hd) (day known : Int) (k : Nat) (h : Hd) : zipE xs (hs.set k h) day known = (zipE xs hs day known).set k (stS (inForceS xs h.sort day known), h.num) := by
  rw [zipE_map, zipE_map, List.map_set]
theorem zipE_good {xs : List Eqv} {hs : List Hd} {sn sd day known : Int} (h : eachE xs hs sn sd day known = 0) : goodE (zipE xs hs day known) ∧ ∀ e ∈ zipE xs hs day known, 0 < e.1.1 := by
  obtain ⟨h1, h2, h3, h4⟩ := each_ok h
  have hv := eachL_vld h1 h4
  have ha := (areS_ok h2).2
  rw [zipE_map]
  constructor
  · intro e he
    obtain ⟨x, hx, rfl⟩ := List.mem_map.1 he
    exact ⟨(hv _ (List.mem_map.2 ⟨x, hx, rfl⟩)).1, (ha x hx).2⟩
  · intro e he
    obtain ⟨x, hx, rfl⟩ := List.mem_map.1 he
    exact (hv _ (List.mem_map.2 ⟨x, hx, rfl⟩)).2
theorem excS_ok {xs : List Eqv} {hs : List Hd} {sn sd day known x y : Int} (h : excS xs hs sn sd day known = (x, y, 0)) : eachE xs hs sn sd day known = 0 ∧ excF (zipE xs hs day known) sn sd = some (x, y) := by
  unfold excS at h
  by_cases he : eachE xs hs sn sd day known = 0
  · rw [if_pos he] at h
    exact ⟨he, okL_ok h⟩
  · rw [if_neg he] at h
    simp only [Prod.mk.injEq] at h
    exact absurd h.2.2 he
theorem excS_bad {xs : List Eqv} {hs : List Hd} {sn sd day known x y z : Int} (h : excS xs hs sn sd day known = (x, y, z)) (hz : z ≠ 0) : x = 0 ∧ y = 0 := by
  unfold excS at h
  by_cases he : eachE xs hs sn sd day known = 0
  · rw [if_pos he] at h
    unfold okL at h
    split at h
    · simp only [Prod.mk.injEq] at h
      exact absurd h.2.2.symm hz
    · simp only [Prod.mk.injEq] at h
      exact ⟨h.1.symm, h.2.1.symm⟩
  · rw [if_neg he] at h
    simp only [Prod.mk.injEq] at h
    exact ⟨h.1.symm, h.2.1.symm⟩
/-- what each head takes up by itself -/
def mulsE (es : List ((Int × Int) × Int)) : List (Int × Int) := es.map fun e => (mulF e.1.1 e.1.2 e.2 1).getD (0, 1)
theorem uses_fold : ∀ (es : List ((Int × Int) × Int)) (acc r : Int × Int), es.foldl stepU (some acc) = some r → (∀ e ∈ es, ∃ m, mulF e.1.1 e.1.2 e.2 1 = some m) ∧ (mulsE es).foldl addO (some acc) = some r
  | [], acc, r, h => ⟨fun e he => (by cases he), h⟩
  | e :: es, acc, r, h => by
    rw [List.foldl_cons] at h
    rcases hs : stepU (some acc) e with _ | a
    · rw [hs, stepU_none] at h; cases h
    · rw [hs] at h
      obtain ⟨h1, h2⟩ := uses_fold es a r h
      unfold stepU at hs
      split at hs
      · rename_i m hm
        refine ⟨fun x hx => ?_, ?_⟩
        · rcases List.mem_cons.1 hx with rfl | hx
          · exact ⟨m, hm⟩
          · exact h1 x hx
        · unfold mulsE
          rw [List.map_cons, List.foldl_cons, hm]
          show ((mulsE es).foldl addO (addO (some acc) m)) = some r
          rw [hs]
          exact h2
      · cases hs
theorem sum_muls {es : List ((Int × Int) × Int)} {r : Int × Int} (hg : goodE es) (hl : es.length ≤ 1000) (h : usesF es = some r) : sumS (mulsE es) = (r.1, r.2, 0) := by
  obtain ⟨h1, h2⟩ := uses_fold es (0, 1) r h
  have hv : ((mulsE es).all fun p => vld p.1 p.2) = true := by
    rw [List.all_eq_true]
    intro p hp
    obtain ⟨e, he, rfl⟩ := List.mem_map.1 hp
    obtain ⟨m, hm⟩ := h1 e he
    rw [hm]
    obtain ⟨g1, g2, g3⟩ := hg e he
    exact (mulF_val g1 (by omega) (by omega) hm).2
  rw [sumS_all (by unfold mulsE; simpa using hl) hv]
  unfold sumF
  rw [h2]
  rfl
theorem mulsE_at {es : List ((Int × Int) × Int)} {k : Nat} {e : (Int × Int) × Int} {m : Int × Int} (h : es[k]? = some e) (hm : mulF e.1.1 e.1.2 e.2 1 = some m) : (mulsE es)[k]? = some m := by
  unfold mulsE
  rw [List.getElem?_map, h]
  simp [hm]
theorem excF_one {p m : Int × Int} {n : Int} (hv : vld m.1 m.2 = true) (hm : mulF p.1 p.2 n 1 = some m) : excF [(p, n)] 0 1 = some m := by
  have hu : usesF [(p, n)] = some m := by
    unfold usesF
    rw [List.foldl_cons, List.foldl_nil]
    unfold stepU
    dsimp only
    rw [hm]
    unfold addO
    simp only [Int.zero_mul, Int.zero_add, Int.one_mul, Int.mul_one]
    exact low_self hv
  unfold excF
  rw [hu]
  simp only [Int.mul_one, Int.neg_zero, Int.zero_mul, Int.add_zero]
  exact low_self hv
/-- **a head by itself takes up its product** -/
theorem exc_one {xs : List Eqv} {hs : List Hd} {sn sd day known : Int} {h : Hd} {m : Int × Int} (he : eachE xs hs sn sd day known = 0) (hh : h ∈ hs) (hm : mulF (stS (inForceS xs h.sort day known)).1 (stS (inForceS xs h.sort day known)).2 h.num 1 = some m) :
    excS xs [h] 0 1 day known = (m.1, m.2, 0) := by
  obtain ⟨h1, h2, h3, h4⟩ := each_ok he
  have ha := (areS_ok h2).2 h hh
  have hv := (eachL_vld h1 h4 _ (List.mem_map.2 ⟨h, hh, rfl⟩)).1
  have he1 : eachE xs [h] 0 1 day known = 0 := by
    unfold eachE
    have hb : eachB xs [h] day known = true := by
      unfold eachB at h4 ⊢
      rw [List.all_eq_true] at h4 ⊢
      intro x hx
      simp only [List.mem_singleton] at hx
      subst hx
      exact h4 _ hh
    have hr : areS [h] = true := by
      unfold areS areL
      simp [headB, ha.1, inB_iff.2 ha.2, seenS]
    rw [if_pos h1, hr, hb]
    rfl
  unfold excS
  rw [if_pos he1]
  have hz : (eachL xs [h] day known).zip ([h].map (·.num)) = [(stS (inForceS xs h.sort day known), h.num)] := rfl
  rw [hz, excF_one (mulF_val hv (by omega) (by omega) hm).2 hm]
  rfl
/-- **P1.4: with more beasts no less** -/
theorem together_more {xs : List Eqv} {hs : List Hd} {day known more x y a b c : Int} {k : Nat} {h : Hd} (hx : hs[k]? = some h) (hmore : 0 ≤ more) (h1 : excS xs hs 0 1 day known = (x, y, 0)) (h2 : excS xs (hs.set k ⟨h.sort, h.num + more⟩) 0 1 day known = (a, b, c)) (hc : c = 0) :
    cmpS x y a b ≤ 0 ∧ (decide (more = 0) = decide (x = a ∧ y = b)) := by
  subst hc
  obtain ⟨e1, f1⟩ := excS_ok h1
  obtain ⟨e2, f2⟩ := excS_ok h2
  obtain ⟨g1, p1⟩ := zipE_good e1
  obtain ⟨g2, p2⟩ := zipE_good e2
  rw [excF_zero g1] at f1
  rw [excF_zero g2] at f2
  rw [zipE_set] at f2 g2
  have hz := zipE_at (xs := xs) (day := day) (known := known) hx
  have := more_val (w := k) (k := more) g1 g2 hz (p1 _ (List.mem_of_getElem? hz)) hmore f1 f2
  have v1 := (uses_val g1 f1).2
  have v2 := (uses_val g2 f2).2
  refine ⟨?_, ?_⟩
  · unfold cmpS
    rw [if_pos (by simp [v1, v2])]
    exact this.1
  · have h3 := this.2
    rw [decide_eq_decide, h3]
    simp
end Go.Proofs.YtcjpecdnenemaaaGreatDoor
