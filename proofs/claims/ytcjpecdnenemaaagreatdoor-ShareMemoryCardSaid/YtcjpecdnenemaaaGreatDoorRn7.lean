/-
  What is in force, of the reference: the same as the code's.
-/
import Derived.Test.YtcjpecdnenemaaaGreatDoorRn6
namespace Go.Proofs.YtcjpecdnenemaaaGreatDoor
set_option linter.all false
open Go.RowKit Go.Shelf

theorem cmpE_pos (x b : Eqv) : 0 < cmpE x b ↔ (b.frm < x.frm ∨ (x.frm = b.frm ∧ b.id < x.id)) := by
  unfold cmpE orZ cmpZ
  repeat' split
  all_goals omega
theorem form_id {x : Eqv} (h : formB x = true) : 1 ≤ x.id := by
  unfold formB at h
  simp only [Bool.and_eq_true, inB_iff] at h
  exact h.1.1.1
theorem rin_step {xs : List Eqv} {sort : ByteArray} {day known : Int} {x : Eqv} (hf : formB x = true) {acc : Option Eqv} (ha : ∀ y, acc = some y → 1 ≤ y.id) :
    rst xs sort day known (acc.getD zeroE) x = ((if cntP xs known x = true then gst sort day acc x else acc).getD zeroE) := by
  have hc : rcntB xs known x = cntP xs known x := by
    unfold rcntB cntP
    rcases form_off hf with h | h
    · simp [h]
    · have : ¬ x.off = 0 := by omega
      simp [h, this]
  unfold rst
  rw [hc]
  by_cases h1 : cntP xs known x = true
  · rw [if_pos h1]
    unfold gst
    by_cases h2 : fitB sort day x = true
    · rw [if_pos h2]
      cases acc with
      | none => simp [h1, h2, zeroE]
      | some b =>
        have hb := ha b rfl
        have hb0 : ¬ b.id = 0 := by omega
        simp only [Option.getD_some]
        by_cases h3 : 0 < cmpE x b
        · rw [if_pos h3, if_pos ⟨h1, h2, .inr ((cmpE_pos x b).1 h3)⟩]; rfl
        · rw [if_neg h3, if_neg (fun h => h.2.2.elim hb0 (fun h => h3 ((cmpE_pos x b).2 h)))]; rfl
    · rw [if_neg h2, if_neg (fun h => h2 h.2.1)]
  · rw [if_neg h1, if_neg (fun h => h1 h.1)]
theorem gst_id {sort : ByteArray} {day : Int} {x : Eqv} (hf : 1 ≤ x.id) {acc : Option Eqv} (ha : ∀ y, acc = some y → 1 ≤ y.id) : ∀ y, gst sort day acc x = some y → 1 ≤ y.id := by
  intro y h
  unfold gst at h
  split at h
  · cases acc with
    | none => cases h; exact hf
    | some b =>
      simp only at h
      split at h
      · cases h; exact hf
      · exact ha y h
  · exact ha y h
theorem rin_all {xs : List Eqv} {sort : ByteArray} {day known : Int} (hc : ∀ x ∈ xs, formB x = true) : ∀ k, k ≤ xs.length →
    rinS xs sort day known k = (bestS sort day ((xs.take k).filter (cntP xs known))).getD zeroE ∧ ∀ y, bestS sort day ((xs.take k).filter (cntP xs known)) = some y → 1 ≤ y.id := by
  intro k
  induction k with
  | zero => intro _; simp [rinS, bestS]
  | succ k ih =>
    intro hk
    obtain ⟨h1, h2⟩ := ih (by omega)
    obtain ⟨x, hx⟩ : ∃ x, xs[k]? = some x := ⟨xs[k]'(by omega), List.getElem?_eq_getElem (by omega)⟩
    have hf := hc x (List.mem_of_getElem? hx)
    have he : bestS sort day ((xs.take (k + 1)).filter (cntP xs known)) = if cntP xs known x = true then gst sort day (bestS sort day ((xs.take k).filter (cntP xs known))) x else bestS sort day ((xs.take k).filter (cntP xs known)) := by
      rw [take_snoc' hx, List.filter_append]
      by_cases h : cntP xs known x = true
      · rw [if_pos h, List.filter_cons_of_pos h, List.filter_nil, bestS_snoc]
      · rw [if_neg h, List.filter_cons_of_neg h, List.filter_nil, List.append_nil]
    rw [rinS_snoc hx, h1, he]
    refine ⟨rin_step hf h2, ?_⟩
    split
    · exact gst_id (form_id hf) h2
    · exact h2
theorem rin_force {xs : List Eqv} {sort : ByteArray} {day known : Int} (hc : ∀ x ∈ xs, formB x = true) :
    rinS xs sort day known xs.length = (inForceS xs sort day known).getD zeroE ∧ decide (0 < (rinS xs sort day known xs.length).id) = (inForceS xs sort day known).isSome := by
  obtain ⟨h1, h2⟩ := rin_all (sort := sort) (day := day) (known := known) hc xs.length (Nat.le_refl _)
  rw [List.take_of_length_le (Nat.le_refl _)] at h1 h2
  have e : inForceS xs sort day known = bestS sort day (xs.filter (cntP xs known)) := rfl
  rw [e, h1]
  refine ⟨rfl, ?_⟩
  rcases hb : bestS sort day (xs.filter (cntP xs known)) with _ | y
  · simp [zeroE]
  · have := h2 y hb
    simp; omega
theorem rinForce_for (A : Option Addr) (n c : Nat) (xs : List Eqv) (sort : ByteArray) (day known : Int) (w : World) (hT : TabA w A n c xs) (hc : ∀ x ∈ xs, formB x = true) :
    Calls Tryz.prog 116 #[.slice A n c, .string sort, .int .i64 day, .int .i64 known] w fun e w' => e = .returned (forV (inForceS xs sort day known)) ∧ Kept w w' := by
  have h := rinForce_any A n c xs sort day known w hT
  obtain ⟨h1, h2⟩ := rin_force (sort := sort) (day := day) (known := known) hc
  rw [show rfoV (rinS xs sort day known xs.length) = forV (inForceS xs sort day known) by unfold rfoV forV; rw [h2, h1]] at h
  exact h
set_option maxRecDepth 100000 in
set_option maxHeartbeats 1600000 in
theorem rof_any (A : Option Addr) (n c : Nat) (xs : List Eqv) (sort : ByteArray) (day known : Int) (w : World) (hT : TabA w A n c xs) :
    Calls Tryz.prog 49 #[.slice A n c, .string sort, .int .i64 day, .int .i64 known] w fun e w' => e = .returned (ofV (ofS xs sort day known)) ∧ Kept w w' := by
  have HT := Lib.hid hT
  clear hT
  obtain ⟨E, hE⟩ : ∃ E, E = chkS xs := ⟨_, rfl⟩
  have HE := Lib.hid hE
  have R0 : RowC (w.alloc (boxX zeroE)) w.heap.size (eqCells zeroE) := RowC.new w (eqCells zeroE) 37
  have HR0 := Lib.hid R0
  clear R0
  by_cases h0 : E.2 = 0
  · have h0' : (E.2 != 0) = false := by simp [h0]
    have HFm := Lib.hid (fun x hx => chk_form (x := x) (show (chkS xs).2 = 0 by rw [← hE]; exact h0) hx)
    rcases hf : inForceS xs sort day known with _ | x
    · have HO := Lib.hid (show ofS xs sort day known = (zeroE, 10) by unfold ofS; rw [← hE, if_pos h0, hf])
      have HF := Lib.hid hf
      clear hf h0 hE
      go_enter Tryz.func49, Tryz.ntmps49
      go_wp2_with fail
      refine (rcheck_any A n c xs _ (HT.out.kept ((Kept.refl _).alloc _))).mono ?_
      rw [← HE.out]
      rintro e w1 ⟨rfl, hk1⟩
      obtain ⟨hc1, hfz1, hz1⟩ := hk1.facts
      go_wp2_with fail
      refine (rinForce_for A n c xs sort day known _ ((HT.out.kept ((Kept.refl _).alloc _)).kept hk1) HFm.out).mono ?_
      rw [HF.out]
      rintro e w2 ⟨rfl, hk2'⟩
      have hk2 := hk1.trans hk2'
      have R := HR0.out.kept hk2
      have t0 := (R 0 _ rfl).1
      have z0 := (R 0 _ rfl).2
      have t1 := (R 1 _ rfl).1
      have z1 := (R 1 _ rfl).2
      have t2 := (R 2 _ rfl).1
      have z2 := (R 2 _ rfl).2
      have t3 := (R 3 _ rfl).1
      have z3 := (R 3 _ rfl).2
      have t4 := (R 4 _ rfl).1
      have z4 := (R 4 _ rfl).2
      have t5 := (R 5 _ rfl).1
      have z5 := (R 5 _ rfl).2
      have t6 := (R 6 _ rfl).1
      have z6 := (R 6 _ rfl).2
      dsimp only [zeroE] at t0 t1 t2 t3 t4 t5 t6
      have hzz := hk2.size
      simp only [World.size_alloc] at hzz
      have hzq : w.heap.size < w2.heap.size := by omega
      clear hc1 hfz1 hz1 R hzz
      dsimp only [forV, eqV, Option.getD_none, Option.getD_some, Option.isSome_none, Option.isSome_some, zeroE]
      go_wp2
      refine bodyPost_ret (v := ofV (zeroE, 10)) (by simp [results, Tryz.results49, go_sem, hzq, t0, t1, t2, t3, t4, t5, t6, ofV, eqV, zeroE]) rfl ⟨by rw [HO.out], ?_⟩
      exact Kept.alloc (show Kept w (put7 w2 w.heap.size zeroE) from put7_below (b := w.heap.size) zeroE (((Kept.refl w).alloc _).trans hk2).below (Nat.le_refl _)) _
    · have HO := Lib.hid (show ofS xs sort day known = (x, 0) by unfold ofS; rw [← hE, if_pos h0, hf])
      have HF := Lib.hid hf
      clear hf h0 hE
      go_enter Tryz.func49, Tryz.ntmps49
      go_wp2_with fail
      refine (rcheck_any A n c xs _ (HT.out.kept ((Kept.refl _).alloc _))).mono ?_
      rw [← HE.out]
      rintro e w1 ⟨rfl, hk1⟩
      obtain ⟨hc1, hfz1, hz1⟩ := hk1.facts
      go_wp2_with fail
      refine (rinForce_for A n c xs sort day known _ ((HT.out.kept ((Kept.refl _).alloc _)).kept hk1) HFm.out).mono ?_
      rw [HF.out]
      rintro e w2 ⟨rfl, hk2'⟩
      have hk2 := hk1.trans hk2'
      have R := HR0.out.kept hk2
      have t0 := (R 0 _ rfl).1
      have z0 := (R 0 _ rfl).2
      have t1 := (R 1 _ rfl).1
      have z1 := (R 1 _ rfl).2
      have t2 := (R 2 _ rfl).1
      have z2 := (R 2 _ rfl).2
      have t3 := (R 3 _ rfl).1
      have z3 := (R 3 _ rfl).2
      have t4 := (R 4 _ rfl).1
      have z4 := (R 4 _ rfl).2
      have t5 := (R 5 _ rfl).1
      have z5 := (R 5 _ rfl).2
      have t6 := (R 6 _ rfl).1
      have z6 := (R 6 _ rfl).2
      dsimp only [zeroE] at t0 t1 t2 t3 t4 t5 t6
      have hzz := hk2.size
      simp only [World.size_alloc] at hzz
      have hzq : w.heap.size < w2.heap.size := by omega
      clear hc1 hfz1 hz1 R hzz
      dsimp only [forV, eqV, Option.getD_none, Option.getD_some, Option.isSome_none, Option.isSome_some, zeroE]
      go_wp2
      refine bodyPost_ret (v := ofV (x, 0)) (by simp [results, Tryz.results49, go_sem, hzq, t0, t1, t2, t3, t4, t5, t6, ofV, eqV, zeroE]) rfl ⟨by rw [HO.out], ?_⟩
      exact Kept.alloc (show Kept w (put7 w2 w.heap.size x) from put7_below (b := w.heap.size) x (((Kept.refl w).alloc _).trans hk2).below (Nat.le_refl _)) _
  · have h0' : (E.2 != 0) = true := by simp [h0]
    have HO := Lib.hid (show ofS xs sort day known = (zeroE, E.2) by unfold ofS; rw [← hE, if_neg h0])
    clear h0 hE
    go_enter Tryz.func49, Tryz.ntmps49
    go_wp2_with fail
    refine (rcheck_any A n c xs _ (HT.out.kept ((Kept.refl _).alloc _))).mono ?_
    rw [← HE.out]
    rintro e w1 ⟨rfl, hk1⟩
    obtain ⟨hc1, hfz1, hz1⟩ := hk1.facts
    have hk2 := hk1
    have R := HR0.out.kept hk2
    have t0 := (R 0 _ rfl).1
    have z0 := (R 0 _ rfl).2
    have t1 := (R 1 _ rfl).1
    have z1 := (R 1 _ rfl).2
    have t2 := (R 2 _ rfl).1
    have z2 := (R 2 _ rfl).2
    have t3 := (R 3 _ rfl).1
    have z3 := (R 3 _ rfl).2
    have t4 := (R 4 _ rfl).1
    have z4 := (R 4 _ rfl).2
    have t5 := (R 5 _ rfl).1
    have z5 := (R 5 _ rfl).2
    have t6 := (R 6 _ rfl).1
    have z6 := (R 6 _ rfl).2
    dsimp only [zeroE] at t0 t1 t2 t3 t4 t5 t6
    have hzz := hk2.size
    simp only [World.size_alloc] at hzz
    have hzq : w.heap.size < w1.heap.size := by omega
    clear hc1 hfz1 hz1 R hzz
    go_wp2
    refine bodyPost_ret (v := ofV (zeroE, E.2)) (by simp [results, Tryz.results49, go_sem, hzq, t0, t1, t2, t3, t4, t5, t6, ofV, eqV, zeroE]) rfl ⟨by rw [HO.out], ?_⟩
    exact (show Kept w (put7 w1 w.heap.size zeroE) from put7_below (b := w.heap.size) zeroE (((Kept.refl w).alloc _).trans hk2).below (Nat.le_refl _))

end Go.Proofs.YtcjpecdnenemaaaGreatDoor
