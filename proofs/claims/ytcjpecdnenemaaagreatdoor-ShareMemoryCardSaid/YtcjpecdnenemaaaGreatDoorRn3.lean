/-
  refused, of the reference.
-/
import Derived.Test.YtcjpecdnenemaaaGreatDoorRn2
import Derived.Deep.DeepCutAuto
import Derived.BigQuiet
import Derived.Deep.QuietTactic
namespace Go.Proofs.YtcjpecdnenemaaaGreatDoor
set_option linter.all false
open Go.RowKit Go.Shelf

def fndB (xs : List Eqv) (x : Eqv) (k : Nat) : Bool := (xs.take k).any (fun y => y.off == 0 && y.id == x.off)
def gonB (xs : List Eqv) (x : Eqv) (k : Nat) : Bool := (xs.take k).any (fun y => decide (0 < y.off) && y.off == x.off)
def newB (xs : List Eqv) (x : Eqv) (k : Nat) : Bool := (xs.take k).any (fun y => y.id == x.id)
theorem any_snoc {xs : List Eqv} {k : Nat} {y : Eqv} (h : xs[k]? = some y) (p : Eqv → Bool) : (xs.take (k + 1)).any p = ((xs.take k).any p || p y) := by
  rw [take_snoc' h, List.any_append]; simp
theorem refS_id {xs : List Eqv} {x : Eqv} (h : xs.length < 200) (hf : formB x = true) {k : Nat} {y : Eqv} (hy : xs[k]? = some y) (e : y.id = x.id) : refS xs x = 6 := by
  unfold refS
  rw [if_neg (by omega), if_neg (by simp [hf]), if_pos]
  rw [List.any_eq_true]
  exact ⟨y, List.mem_of_getElem? hy, by simp [e]⟩
def timeB (xs : List Eqv) (x : Eqv) : Bool := match xs.getLast? with | some y => decide (x.kno < y.kno) | none => false
theorem form_off {x : Eqv} (hf : formB x = true) : x.off = 0 ∨ 0 < x.off := by
  unfold formB equivB voidB at hf
  simp only [Bool.and_eq_true, Bool.or_eq_true, decide_eq_true_eq] at hf
  rcases hf.2 with h1 | h1
  · exact .inl h1.1.1.1.1.1
  · have := (inB_iff.1 h1.1.1.1.1).1; omega
theorem refS_end {xs : List Eqv} {x : Eqv} (h : xs.length < 200) (hf : formB x = true) (hn : newB xs x xs.length = false) :
    refS xs x = if timeB xs x = true then 7 else if 0 < x.off ∧ fndB xs x xs.length = false then 5 else if 0 < x.off ∧ gonB xs x xs.length = true then 6 else 0 := by
  unfold newB at hn
  rw [List.take_of_length_le (Nat.le_refl _)] at hn
  have h0 : refS xs x = if timeB xs x = true then 7 else if x.off = 0 then 0 else if xs.any (fun y => y.id == x.off && y.off == 0) = false then 5 else if xs.any (fun y => y.off == x.off) = true then 6 else 0 := by
    unfold refS timeB
    rw [if_neg (by omega), if_neg (by simp [hf]), if_neg (by simp [hn])]
    rfl
  rw [h0]
  unfold fndB gonB
  rw [List.take_of_length_le (Nat.le_refl _)]
  rcases timeB xs x with _ | _
  · simp only [Bool.false_eq_true, if_false]
    rcases form_off hf with ho | ho
    · rw [if_pos ho, if_neg (by omega), if_neg (by omega)]
    · rw [if_neg (by omega)]
      have e1 : (xs.any fun y => y.id == x.off && y.off == 0) = (xs.any fun y => y.off == 0 && y.id == x.off) := by
        congr 1; funext y; rw [Bool.and_comm]
      have e2 : (xs.any fun y => y.off == x.off) = (xs.any fun y => decide (0 < y.off) && y.off == x.off) := by
        congr 1; funext y
        rcases hb : (y.off == x.off) with _ | _
        · simp
        · have := beq_iff_eq.1 hb
          have : 0 < y.off := by omega
          simp [this]
      rw [e1, e2]
      simp only [ho, true_and]
  · rfl
set_option maxRecDepth 100000 in
set_option maxHeartbeats 3200000 in
theorem rrefused_any (A : Option Addr) (n c : Nat) (xs : List Eqv) (x : Eqv) (E : Int) (hE : refS xs x = E) (hs : x.sort.size ≤ 9223372036854775807) (hn : n ≤ 200) (w : World) (hT : TabA w A n c xs) :
    Calls Tryz.prog 103 #[.slice A n c, eqV x] w fun e w' => e = .returned (.int .i64 E) ∧ Kept w w' := by
  have HE := Lib.hid hE
  have HT := Lib.hid hT
  have hlen := hT.1
  have hnc := hT.2.1
  have hcm := hT.2.2.1
  have C := Lib.hid (fun W => rformed_any x hs W)
  have R0 := Lib.hid (RowC.new w (eqCells x) 37)
  have K0 := Lib.hid ((Kept.refl w).alloc (.cells (eqCells x).toArray 37))
  clear hE hT
  obtain ⟨id, frm, kno, sort, num, den, off⟩ := x
  unfold eqV at C ⊢
  dsimp only at C ⊢
  by_cases h200 : n = 200
  · have he := HE.out
    have : refS xs ⟨id, frm, kno, sort, num, den, off⟩ = 2 := by unfold refS; rw [if_pos (by omega)]
    rw [this] at he
    subst he
    subst h200
    go_enter Tryz.func103, Tryz.ntmps103
    go_wp2_with fail
    go_ret
    exact ⟨rfl, K0.out⟩
  · have hlt : xs.length < 200 := by omega
    have hcmp : ¬ (200 : Int) ≤ (n : Int) := by omega
    rcases hf : formB ⟨id, frm, kno, sort, num, den, off⟩ with _ | _
    · rw [hf] at C
      have he := HE.out
      have : refS xs ⟨id, frm, kno, sort, num, den, off⟩ = 1 := by unfold refS; rw [if_neg (by omega), if_pos hf]
      rw [this] at he
      subst he
      go_enter Tryz.func103, Tryz.ntmps103
      go_wp2_with fail
      refine (C.out _).mono ?_
      rintro e w1 ⟨rfl, hk1⟩
      go_wp2_with fail
      go_ret
      exact ⟨rfl, K0.out.trans hk1⟩
    · rw [hf] at C
      have HFm := Lib.hid hf
      go_enter Tryz.func103, Tryz.ntmps103
      go_wp2_with fail
      refine (C.out _).mono ?_
      rintro e w1 ⟨rfl, hk1⟩
      have K1 := Lib.hid (K0.out.trans hk1)
      have R1 := Lib.hid (R0.out.kept hk1)
      clear hk1 hf
      go_wp2_with fail
      go_loopw [6, 7, 8] (fun f g i wr => ∃ k : Nat, k ≤ n ∧ i = .int .i64 k ∧ f = .bool (fndB xs ⟨id, frm, kno, sort, num, den, off⟩ k) ∧ g = .bool (gonB xs ⟨id, frm, kno, sort, num, den, off⟩ k) ∧ newB xs ⟨id, frm, kno, sort, num, den, off⟩ k = false ∧ Kept w1 wr) (fun _ _ i _ => n - (intOf i).toNat)
      case atStart => exact ⟨0, by omega, by first | rfl | go_num, rfl, rfl, rfl, Kept.refl _⟩
      case round =>
        obtain ⟨k, hk, rfl, rfl, rfl, hnew, hkr⟩ := hrel
        have HN := Lib.hid hnew
        have kz : (0 : Int) ≤ (k : Int) := by omega
        clear hnew
        by_cases hkn : k < n
        · obtain ⟨bb, of, hB, hcc⟩ := HT.out.2.2.2.2 (by omega)
          subst hB
          obtain ⟨y, hy⟩ : ∃ y, xs[k]? = some y := ⟨xs[k]'(by omega), List.getElem?_eq_getElem (by omega)⟩
          have HTk := Lib.hid (fun (W : World) (hK : Kept w W) => (hcc k y hy).kept hK)
          have Y := Lib.hid (((hcc k y hy).kept (K1.out.trans hkr)))
          have X := Lib.hid (R1.out.kept hkr)
          have HY := Lib.hid hy
          have y0 := Y.out.1
          have x0 := (X.out 0 _ rfl).1
          have k1 : (k : Int) < (n : Int) := by omega
          have kt : (k : Int).toNat = k := by omega
          clear hcc hy
          by_cases hid : y.id = id
          · have he := HE.out
            rw [refS_id hlt HFm.out HY.out hid] at he
            subst he
            have hb : (y.id == id) = true := by simp [hid]
            clear hid
            go_wp2_with fail
            go_quiet (fail)
            go_wp2_with fail
            go_ret
            exact ⟨rfl, (K1.out.trans hkr).drewN _⟩
          · have hb : (y.id == id) = false := by simp [hid]
            have HI := Lib.hid hid
            clear hid
            go_wp2_with fail
            go_quiet (fail)
            go_wp2_with fail
            go_cut [6] (fun s6 wx => s6 = .bool (fndB xs ⟨id, frm, kno, sort, num, den, off⟩ (k + 1)) ∧ Kept w1 wx)
            case first =>
              have y6 := Y.out.2.2.2.2.2.2
              have x6 := (X.out 6 _ rfl).1
              clear x0 hb
              have HS6 := Lib.hid (any_snoc HY.out (fun y => y.off == 0 && y.id == off))
              rcases hF : fndB xs ⟨id, frm, kno, sort, num, den, off⟩ k with _ | _
              · rcases b1 : (y.off == 0) with _ | _
                · go_quiet (fail)
                  go_wp2_with fail
                  go_meet
                  exact ⟨by unfold fndB at hF ⊢; rw [HS6.out, hF, b1]; rfl, by first | exact (hkr).drewN _ | exact ((hkr).drewN _).drewN _ | exact hkr⟩
                · rcases b2 : (y.id == off) with _ | _
                  · go_quiet (fail)
                    go_wp2_with fail
                    go_meet
                    exact ⟨by unfold fndB at hF ⊢; rw [HS6.out, hF, b1, b2]; rfl, by first | exact (hkr).drewN _ | exact ((hkr).drewN _).drewN _ | exact hkr⟩
                  · go_quiet (fail)
                    go_wp2_with fail
                    go_meet
                    exact ⟨by unfold fndB at hF ⊢; rw [HS6.out, hF, b1, b2]; rfl, by first | exact (hkr).drewN _ | exact ((hkr).drewN _).drewN _ | exact hkr⟩
              · go_quiet (fail)
                go_wp2_with fail
                go_meet
                exact ⟨by unfold fndB at hF ⊢; rw [HS6.out, hF]; rfl, by first | exact (hkr).drewN _ | exact ((hkr).drewN _).drewN _ | exact hkr⟩
            case rest =>
              obtain ⟨rfl, hkc⟩ := hcut
              have Y2 := Lib.hid (HTk.out _ (K1.out.trans hkc))
              have X2 := Lib.hid (R1.out.kept hkc)
              clear Y X y0 x0 hb
              have y6 := Y2.out.2.2.2.2.2.2
              have x6 := (X2.out 6 _ rfl).1
              have HN2 := Lib.hid (show newB xs ⟨id, frm, kno, sort, num, den, off⟩ (k + 1) = false by have h1 := any_snoc HY.out (fun y => y.id == id); have h2 := HN.out; unfold newB at h2 ⊢; rw [h1, h2]; simp [HI.out])
              have HS6 := Lib.hid (any_snoc HY.out (fun y => decide (0 < y.off) && y.off == off))
              rcases hF : gonB xs ⟨id, frm, kno, sort, num, den, off⟩ k with _ | _
              · rcases b1 : (decide (0 < y.off)) with _ | _
                · go_wp2_with fail
                  go_quiet (fail)
                  go_wp2_with fail
                  go_roundw
                  case rel => exact ⟨k + 1, by omega, by go_num, rfl, congrArg Value.bool (by unfold gonB at hF ⊢; rw [HS6.out, hF, b1]; rfl), HN2.out, by first | exact hkc.drewN _ | exact (hkc.drewN _).drewN _ | exact hkc⟩
                  case measure => simp [intOf]; omega
                · rcases b2 : (y.off == off) with _ | _
                  · go_wp2_with fail
                    go_quiet (fail)
                    go_wp2_with fail
                    go_roundw
                    case rel => exact ⟨k + 1, by omega, by go_num, rfl, congrArg Value.bool (by unfold gonB at hF ⊢; rw [HS6.out, hF, b1, b2]; rfl), HN2.out, by first | exact hkc.drewN _ | exact (hkc.drewN _).drewN _ | exact hkc⟩
                    case measure => simp [intOf]; omega
                  · go_wp2_with fail
                    go_quiet (fail)
                    go_wp2_with fail
                    go_roundw
                    case rel => exact ⟨k + 1, by omega, by go_num, rfl, congrArg Value.bool (by unfold gonB at hF ⊢; rw [HS6.out, hF, b1, b2]; rfl), HN2.out, by first | exact hkc.drewN _ | exact (hkc.drewN _).drewN _ | exact hkc⟩
                    case measure => simp [intOf]; omega
              · go_wp2_with fail
                go_quiet (fail)
                go_wp2_with fail
                go_roundw
                case rel => exact ⟨k + 1, by omega, by go_num, rfl, congrArg Value.bool (by unfold gonB at hF ⊢; rw [HS6.out, hF]; rfl), HN2.out, by first | exact hkc.drewN _ | exact (hkc.drewN _).drewN _ | exact hkc⟩
                case measure => simp [intOf]; omega
        · obtain rfl : k = n := by omega
          have hEnd := refS_end hlt HFm.out (by rw [hlen]; exact HN.out)
          rw [HE.out, hlen] at hEnd
          replace hEnd := hEnd.symm
          dsimp only at hEnd
          have X := R1.out.kept hkr
          have x2 := (X 2 _ rfl).1
          have x6 := (X 6 _ rfl).1
          clear X
          rcases Nat.eq_zero_or_pos k with h0 | hpos
          · subst h0
            have hT0 : timeB xs ⟨id, frm, kno, sort, num, den, off⟩ = false := by have := List.eq_nil_of_length_eq_zero hlen; subst this; rfl
            have hF0 : fndB xs ⟨id, frm, kno, sort, num, den, off⟩ 0 = false := by simp [fndB]
            by_cases o : 0 < off
            · have he : E = 5 := by rw [← hEnd]; simp [hT0, hF0, o]
              subst he
              clear hEnd
              go_wp2_with fail
              go_quiet (fail)
              go_wp2_with fail
              go_ret
              exact ⟨rfl, by first | exact (K1.out.trans hkr).drewN _ | exact K1.out.trans hkr⟩
            · have he : E = 0 := by rw [← hEnd]; simp [hT0, hF0, o]
              subst he
              clear hEnd
              go_wp2_with fail
              go_quiet (fail)
              go_wp2_with fail
              go_ret
              exact ⟨rfl, by first | exact (K1.out.trans hkr).drewN _ | exact K1.out.trans hkr⟩
          · obtain ⟨bb, of, hB, hcc⟩ := HT.out.2.2.2.2 hpos
            subst hB
            obtain ⟨y, hy⟩ : ∃ y, xs[k - 1]? = some y := ⟨xs[k - 1]'(by omega), List.getElem?_eq_getElem (by omega)⟩
            have Y := (hcc _ y hy).kept (K1.out.trans hkr)
            have y2 := Y.2.2.1
            have hT0 : timeB xs ⟨id, frm, kno, sort, num, den, off⟩ = decide (kno < y.kno) := by unfold timeB; rw [List.getLast?_eq_getElem?, hlen, hy]
            have w1 : RowKit.wrap64 ((k : Int) - 1) = (k : Int) - 1 := IntWalk.wrap64_in _ (by omega)
            have w2 : IntKind.i64.wrap ((k : Int) - 1) = (k : Int) - 1 := IntWalk.i64_in _ (by omega)
            have w3 : ((k : Int) - 1).toNat = k - 1 := by omega
            have w4 : (0 : Int) ≤ (k : Int) - 1 := by omega
            have w5 : (k : Int) - 1 < (k : Int) := by omega
            have w6 : (0 : Int) < (k : Int) := by omega
            rw [hT0] at hEnd
            clear hT0 Y hcc hy
            by_cases tm : kno < y.kno
            · have he : E = 7 := by rw [← hEnd]; simp [tm]
              subst he
              clear hEnd
              go_wp2_with fail
              go_quiet (fail)
              go_wp2_with fail
              go_ret
              exact ⟨rfl, by first | exact (K1.out.trans hkr).drewN _ | exact K1.out.trans hkr⟩
            · by_cases o : 0 < off
              · rcases hF : fndB xs ⟨id, frm, kno, sort, num, den, off⟩ k with _ | _
                · have he : E = 5 := by rw [← hEnd]; simp [tm, o, hF]
                  subst he
                  clear hEnd
                  go_wp2_with fail
                  go_quiet (fail)
                  go_wp2_with fail
                  go_ret
                  exact ⟨rfl, by first | exact (K1.out.trans hkr).drewN _ | exact K1.out.trans hkr⟩
                · rcases hG : gonB xs ⟨id, frm, kno, sort, num, den, off⟩ k with _ | _
                  · have he : E = 0 := by rw [← hEnd]; simp [tm, o, hF, hG]
                    subst he
                    clear hEnd
                    go_wp2_with fail
                    go_quiet (fail)
                    go_wp2_with fail
                    go_ret
                    exact ⟨rfl, by first | exact (K1.out.trans hkr).drewN _ | exact K1.out.trans hkr⟩
                  · have he : E = 6 := by rw [← hEnd]; simp [tm, o, hF, hG]
                    subst he
                    clear hEnd
                    go_wp2_with fail
                    go_quiet (fail)
                    go_wp2_with fail
                    go_ret
                    exact ⟨rfl, by first | exact (K1.out.trans hkr).drewN _ | exact K1.out.trans hkr⟩
              · have he : E = 0 := by rw [← hEnd]; simp [tm, o]
                subst he
                clear hEnd
                go_wp2_with fail
                go_quiet (fail)
                go_wp2_with fail
                go_ret
                exact ⟨rfl, by first | exact (K1.out.trans hkr).drewN _ | exact K1.out.trans hkr⟩
end Go.Proofs.YtcjpecdnenemaaaGreatDoor
