/- slices' symMerge, over a row of ints: the step where both sides are longer -/
import Derived.Test.YtcjpecdnenemaaaGreatDoorMs3
namespace Go.Proofs.YtcjpecdnenemaaaGreatDoor
set_option linter.all false
open Go.RowKit Go.Shelf

/-- what is asked of two lists that are to be merged -/
structure MH (nn : Nat) (cf : Nat → Nat → Int) (lt : Nat → Nat → Prop) (X Y : List Nat) : Prop where
  sx : X.Pairwise lt
  sy : Y.Pairwise lt
  bx : ∀ x ∈ X, x < nn
  bw : ∀ y ∈ Y, y < nn
  cfh : ∀ x ∈ X, ∀ y ∈ Y, (cf y x < 0 ↔ lt y x)
  tot : ∀ x ∈ X, ∀ y ∈ Y, ¬ lt y x → lt x y
theorem MH.sub {nn : Nat} {cf : Nat → Nat → Int} {lt : Nat → Nat → Prop} {X Y X' Y' : List Nat} (h : MH nn cf lt X Y) (hx : X'.Sublist X) (hy : Y'.Sublist Y) : MH nn cf lt X' Y' :=
  ⟨h.sx.sublist hx, h.sy.sublist hy, fun x hm => h.bx x (hx.subset hm), fun y hm => h.bw y (hy.subset hm), fun x hm y hn => h.cfh x (hx.subset hm) y (hy.subset hn), fun x hm y hn => h.tot x (hx.subset hm) y (hy.subset hn)⟩
theorem pw_at {lt : Nat → Nat → Prop} {l : List Nat} (h : l.Pairwise lt) {i j u v : Nat} (hi : l[i]? = some u) (hj : l[j]? = some v) (hij : i < j) : lt u v := by
  obtain ⟨h1, rfl⟩ := List.getElem?_eq_some_iff.1 hi
  obtain ⟨h2, rfl⟩ := List.getElem?_eq_some_iff.1 hj
  exact List.pairwise_iff_getElem.1 h i j h1 h2 hij
/-- where the two halves are split -/
theorem split_ok {nn : Nat} {cf : Nat → Nat → Int} {lt : Nat → Nat → Prop} (tr : ∀ x y z, lt x y → lt y z → lt x z) {X Y : List Nat} (H : MH nn cf lt X Y) (h s e : Nat) (hse : s + e = h) (hs : s ≤ X.length) (he : e ≤ Y.length)
    (k1 : ∀ (x y : Nat), 0 < s → X[s - 1]? = some x → Y[e]? = some y → ¬ lt y x) (k2 : ∀ (x y : Nat), 0 < e → X[s]? = some x → Y[e - 1]? = some y → lt y x) :
    (∀ x ∈ X.take s, ∀ y ∈ Y.drop e, lt x y) ∧ (∀ y ∈ Y.take e, ∀ x ∈ X.drop s, lt y x) := by
  constructor
  · intro x hx y hy
    obtain ⟨i, hi, rfl⟩ := List.mem_iff_getElem.1 hx
    obtain ⟨j, hj, rfl⟩ := List.mem_iff_getElem.1 hy
    rw [List.length_take] at hi
    rw [List.length_drop] at hj
    rw [List.getElem_take, List.getElem_drop]
    have a1 : X[s - 1]? = some (X[s - 1]'(by omega)) := List.getElem?_eq_getElem _
    have a2 : Y[e]? = some (Y[e]'(by omega)) := List.getElem?_eq_getElem _
    have b := H.tot _ (List.getElem_mem (show s - 1 < X.length by omega)) _ (List.getElem_mem (show e < Y.length by omega)) (k1 _ _ (by omega) a1 a2)
    have c : i = s - 1 ∨ lt (X[i]'(by omega)) (X[s - 1]'(by omega)) := by
      rcases Nat.lt_or_ge i (s - 1) with q | q
      · exact .inr (pw_at H.sx (List.getElem?_eq_getElem _) (List.getElem?_eq_getElem _) q)
      · exact .inl (by omega)
    have d : j = 0 ∨ lt (Y[e]'(by omega)) (Y[e + j]'(by omega)) := by
      rcases Nat.eq_zero_or_pos j with q | q
      · exact .inl q
      · exact .inr (pw_at H.sy (List.getElem?_eq_getElem _) (List.getElem?_eq_getElem _) (by omega))
    have bc : lt (X[i]'(by omega)) (Y[e]'(by omega)) := by
      rcases c with q | q
      · subst q; exact b
      · exact tr _ _ _ q b
    rcases d with q | q
    · subst q; simpa using bc
    · exact tr _ _ _ bc q
  · intro y hy x hx
    obtain ⟨i, hi, rfl⟩ := List.mem_iff_getElem.1 hx
    obtain ⟨j, hj, rfl⟩ := List.mem_iff_getElem.1 hy
    rw [List.length_drop] at hi
    rw [List.length_take] at hj
    rw [List.getElem_take, List.getElem_drop]
    have a1 : X[s]? = some (X[s]'(by omega)) := List.getElem?_eq_getElem _
    have a2 : Y[e - 1]? = some (Y[e - 1]'(by omega)) := List.getElem?_eq_getElem _
    have b := k2 _ _ (by omega) a1 a2
    have c : j = e - 1 ∨ lt (Y[j]'(by omega)) (Y[e - 1]'(by omega)) := by
      rcases Nat.lt_or_ge j (e - 1) with q | q
      · exact .inr (pw_at H.sy (List.getElem?_eq_getElem _) (List.getElem?_eq_getElem _) q)
      · exact .inl (by omega)
    have d : i = 0 ∨ lt (X[s]'(by omega)) (X[s + i]'(by omega)) := by
      rcases Nat.eq_zero_or_pos i with q | q
      · exact .inl q
      · exact .inr (pw_at H.sx (List.getElem?_eq_getElem _) (List.getElem?_eq_getElem _) (by omega))
    have bc : lt (Y[j]'(by omega)) (X[s]'(by omega)) := by
      rcases c with q | q
      · subst q; exact b
      · exact tr _ _ _ q b
    rcases d with q | q
    · subst q; simpa using bc
    · exact tr _ _ _ bc q
/-- what a merge gives -/
def MRes (g : Nat) (lt : Nat → Nat → Prop) (P X Y S : List Nat) (w : World) (e : Ending) (w' : World) : Prop := e = .returned (.tuple #[]) ∧ ∃ Z, Z.Pairwise lt ∧ Z.Perm (X ++ Y) ∧ Stp g w (P ++ Z ++ S) w'
theorem merged {g : Nat} {lt : Nat → Nat → Prop} {P S X Y Z1 Z2 : List Nat} {s e : Nat} {w w' : World} (sx : X.Pairwise lt) (sy : Y.Pairwise lt)
    (h1 : ∀ x ∈ X.take s, ∀ y ∈ Y.drop e, lt x y) (h2 : ∀ y ∈ Y.take e, ∀ x ∈ X.drop s, lt y x) (p1 : Z1.Pairwise lt) (q1 : Z1.Perm (X.take s ++ Y.take e)) (p2 : Z2.Pairwise lt) (q2 : Z2.Perm (X.drop s ++ Y.drop e)) (hst : Stp g w (P ++ Z1 ++ Z2 ++ S) w') :
    MRes g lt P X Y S w (.returned (.tuple #[])) w' := by
  have hX : (X.take s ++ X.drop s).Pairwise lt := by rw [List.take_append_drop]; exact sx
  have hY : (Y.take e ++ Y.drop e).Pairwise lt := by rw [List.take_append_drop]; exact sy
  have gX := (List.pairwise_append.1 hX).2.2
  have gY := (List.pairwise_append.1 hY).2.2
  refine ⟨rfl, Z1 ++ Z2, List.pairwise_append.2 ⟨p1, p2, fun u hu v hv => ?_⟩, ?_, by simpa using hst⟩
  · rcases List.mem_append.1 (q1.mem_iff.1 hu) with hu | hu <;> rcases List.mem_append.1 (q2.mem_iff.1 hv) with hv | hv
    · exact gX u hu v hv
    · exact h1 u hu v hv
    · exact h2 u hu v hv
    · exact gY u hu v hv
  · refine (q1.append q2).trans ?_
    have e1 : X ++ Y = (X.take s ++ X.drop s) ++ (Y.take e ++ Y.drop e) := by rw [List.take_append_drop, List.take_append_drop]
    rw [e1]
    have : (X.take s ++ Y.take e ++ (X.drop s ++ Y.drop e)).Perm (X.take s ++ (X.drop s ++ (Y.take e ++ Y.drop e))) := by
      rw [List.append_assoc]
      refine List.Perm.append_left _ ?_
      rw [← List.append_assoc, ← List.append_assoc]
      exact List.Perm.append_right _ (List.perm_append_comm)
    rw [List.append_assoc (X.take s) (X.drop s)]
    exact this
/-- the step's own hypothesis: smaller merges are right -/
def MIH (g n c bc nn N : Nat) (cf : Nat → Nat → Int) (lt : Nat → Nat → Prop) (w : World) : Prop := ∀ (P X Y S : List Nat) (a m b : Nat), MH nn cf lt X Y → X.length + Y.length < N → 0 < X.length → 0 < Y.length → P.length = a → a + X.length = m → m + Y.length = b → b + S.length = n → ∀ W, But g w W → RowC W g (natV (P ++ X ++ Y ++ S)) →
  Calls Tryz.prog 201 #[.slice (some ⟨g, 0, none⟩) n c, .int .i64 (a : Int), .int .i64 (m : Int), .int .i64 (b : Int), (.func (.func 139) #[] #[.pointer (some ⟨bc, 0, none⟩)])] W (MRes g lt P X Y S W)
set_option maxRecDepth 100000 in
set_option maxHeartbeats 16000000 in
theorem merge_big (g n c bc nn : Nat) (cf : Nat → Nat → Int) (lt : Nat → Nat → Prop) (tr : ∀ x y z, lt x y → lt y z → lt x z) (P X Y S : List Nat) (a m b p q h : Nat) (hp : p = X.length) (hq : q = Y.length) (hh : h = (p + q) / 2) (ha : P.length = a) (hm : a + p = m) (hb : m + q = b) (hn : b + S.length = n) (hX : 1 < p) (hY : 1 < q) (hmm : h < p) (hnc : n ≤ c) (hc : c ≤ 1000)
    (H : MH nn cf lt X Y) (w : World) (hC : CmpG g bc nn cf w) (hIH : MIH g n c bc nn (p + q) cf lt w) (hr : RowC w g (natV (P ++ X ++ Y ++ S))) :
    Calls Tryz.prog 201 #[.slice (some ⟨g, 0, none⟩) n c, .int .i64 a, .int .i64 m, .int .i64 b, (.func (.func 139) #[] #[.pointer (some ⟨bc, 0, none⟩)])] w (MRes g lt P X Y S w) := by
  have HR := Lib.hid hr
  have HC := Lib.hid hC
  have HH := Lib.hid H
  have HIH := Lib.hid hIH
  have HPQ := Lib.hid (And.intro hp hq)
  have HPA := Lib.hid ha
  have HTR := Lib.hid tr
  clear hr hC H hIH hp hq ha tr
  obtain ⟨md, hmd⟩ : ∃ md, md = a + h := ⟨_, rfl⟩
  obtain ⟨np, hnp⟩ : ∃ np, np = md + m := ⟨_, rfl⟩
  obtain ⟨s0, hs0⟩ : ∃ s0, s0 = h - q := ⟨_, rfl⟩
  obtain ⟨r0, hr0⟩ : ∃ r0, r0 = min h p := ⟨_, rfl⟩
  have x1 : ((m : Int) - (a : Int) == 1) = false := by simp; omega
  have x2 : ((b : Int) - (m : Int) == 1) = false := by simp; omega
  have x3 : ((a : Int) + (b : Int)) / 2 = (md : Int) := by omega
  have x4 : (md : Int) + (m : Int) = (np : Int) := by omega
  have x5 : decide ((md : Int) < (m : Int)) = true := decide_eq_true (by omega)
  have x6 : (np : Int) - (b : Int) = ((a + s0 : Nat) : Int) := by omega
  have hmd1 := Nat.le_of_eq hmd
  have hmd2 := Nat.le_of_eq hmd.symm
  have hnp1 := Nat.le_of_eq hnp
  have hnp2 := Nat.le_of_eq hnp.symm
  have hs01 := Nat.le_of_eq hs0
  have hs02 := Nat.le_of_eq hs0.symm
  have hr01 := Nat.le_of_eq hr0
  have hr02 := Nat.le_of_eq hr0.symm
  have hh1 := Nat.le_of_eq hh
  have hh2 := Nat.le_of_eq hh.symm
  clear hmd hnp hs0 hr0 hh
  have g139 := e139
  go_enter Tryz.func201, Tryz.ntmps201
  go_wp2_with fail
  go_loopw [20, 21] (fun i j wr => ∃ s r : Nat, s0 ≤ s ∧ s ≤ r ∧ r ≤ r0 ∧ i = .int .i64 ((a + s : Nat) : Int) ∧ j = .int .i64 ((a + r : Nat) : Int) ∧ (∀ (k x y : Nat), s0 ≤ k → k < s → X[k]? = some x → Y[h - 1 - k]? = some y → ¬ lt y x) ∧ (∀ (k x y : Nat), r ≤ k → k < r0 → X[k]? = some x → Y[h - 1 - k]? = some y → lt y x) ∧ Stp g w (P ++ X ++ Y ++ S) wr) (fun i j _ => (intOf j).toNat - (intOf i).toNat)
  case atStart => exact ⟨s0, r0, by omega, by omega, by omega, by first | rfl | (congr 1; done) | (congr 1; omega), by first | rfl | (congr 1; done) | (congr 1; omega), fun k x y _ h => by omega, fun k x y _ h => by omega, But.of_kept (Kept.refl _), HR.out⟩
  case round =>
    obtain ⟨s, r, hs0s, hsr, hrr, rfl, rfl, h1, h2, hst⟩ := hrel
    have H1 := Lib.hid h1
    have H2 := Lib.hid h2
    have HST := Lib.hid hst
    clear h1 h2 hst
    by_cases hlt : s < r
    · have d1 : decide (((a + s : Nat) : Int) < ((a + r : Nat) : Int)) = true := decide_eq_true (by omega)
      obtain ⟨th, hth⟩ : ∃ th, th = (s + r) / 2 := ⟨_, rfl⟩
      have ht1 : s ≤ th := by omega
      have ht2 : th < r := by omega
      have hpq := HPQ.out
      have hpa := HPA.out
      obtain ⟨x, hx⟩ : ∃ x, X[th]? = some x := ⟨X[th]'(by omega), List.getElem?_eq_getElem (by omega)⟩
      obtain ⟨y, hy⟩ : ∃ y, Y[h - 1 - th]? = some y := ⟨Y[h - 1 - th]'(by omega), List.getElem?_eq_getElem (by omega)⟩
      have hxn := HH.out.bx x (List.mem_of_getElem? hx)
      have hyn := HH.out.bw y (List.mem_of_getElem? hy)
      have hcx := HH.out.cfh x (List.mem_of_getElem? hx) y (List.mem_of_getElem? hy)
      have cx := (HST.out.at (j := a + th) (o := x) (by
        rw [List.append_assoc, List.append_assoc, List.getElem?_append_right (by omega), hpa]
        rw [show a + th - a = th by omega, List.getElem?_append_left (by omega)]
        exact hx)).1
      obtain ⟨yi, hyi⟩ : ∃ yi, yi = m + (h - 1 - th) := ⟨_, rfl⟩
      have cy := (HST.out.at (j := yi) (o := y) (by
        rw [List.append_assoc, List.getElem?_append_right (by simp; omega)]
        rw [show yi - (P ++ X).length = h - 1 - th by simp; omega, List.getElem?_append_left (by omega)]
        exact hy)).1
      have lc := cell_lt cx
      have HCq : RowKit.Hid (∀ r : Nat, Calls Tryz.prog 139 #[.int .i64 (y : Int), .int .i64 (x : Int), .pointer (some ⟨bc, 0, none⟩)] (wr.drewN r) fun e W' => e = .returned (.int .i64 (cf y x)) ∧ ∃ q', W' = (wr.drewN r).drewN q') := Lib.hid (fun r => HC.out _ (HST.out.drewB r) y x hyn hxn)
      have hhh : ((a : Int) + (s : Int) + ((a : Int) + (r : Int))) / 2 = ((a + th : Nat) : Int) := by omega
      have hyy : (np : Int) - 1 - ((a : Int) + (th : Int)) = (yi : Int) := by omega
      have HXT := Lib.hid hx
      have HYT := Lib.hid hy
      have HHT := Lib.hid hth
      have HCX := Lib.hid hcx
      have i1 : (0 : Int) ≤ ((a + th : Nat) : Int) := by omega
      have i2 : ((a + th : Nat) : Int) < (n : Int) := by omega
      have i3 : (0 : Int) ≤ (yi : Int) := by omega
      have i4 : (yi : Int) < (n : Int) := by omega
      clear hx hy hth hcx hpq hpa hyi
      go_upto_region 35 with (fail)
      try rw [hhh]
      go_cut [171] (fun v wx => v = .bool (!decide (cf y x < 0)) ∧ ∃ r, wx = wr.drewN r)
      case first =>
        go_quiet ((go_at_call 139; with_reducible exact Calls.quiet_of (HCq.out _)))
        go_wp2
        go_meet
        exact ⟨by first | rfl | (simp; done), _, rfl⟩
      obtain ⟨rfl, t, rfl⟩ := hcut
      obtain ⟨bv, hbv⟩ : ∃ bv, bv = !decide (cf y x < 0) := ⟨_, rfl⟩
      rw [← hbv]
      cases bv
      · have hcmp : cf y x < 0 := by simpa using hbv
        have HLT := Lib.hid (HCX.out.1 hcmp)
        clear hcmp hbv
        go_wp2
        go_roundw
        case rel =>
          refine ⟨s, th, hs0s, by omega, by omega, by first | rfl | trivial, by first | rfl | trivial | (congr 1; done) | (congr 1; omega), H1.out, fun k xk yk hk hk0 hxk hyk => ?_, HST.out.drewN t⟩
          have hpq := HPQ.out
          rcases Nat.lt_or_ge th k with hl | hl
          · exact HTR.out _ _ _ (pw_at HH.out.sy hyk HYT.out (by omega)) (HTR.out _ _ _ HLT.out (pw_at HH.out.sx HXT.out hxk hl))
          · obtain rfl : k = th := by omega
            rw [HXT.out] at hxk
            rw [HYT.out] at hyk
            cases hxk; cases hyk
            exact HLT.out
        case measure => simp [intOf]; omega
      · have hcmp : ¬ cf y x < 0 := by simpa using hbv
        have HLT : RowKit.Hid (¬ lt y x) := Lib.hid (fun h => hcmp (HCX.out.2 h))
        clear hcmp hbv
        go_wp2
        go_roundw
        case rel =>
          refine ⟨th + 1, r, by omega, by omega, hrr, by first | rfl | trivial | (congr 1; done) | (congr 1; omega), by first | rfl | trivial, fun k xk yk hk hk0 hxk hyk hl0 => ?_, H2.out, HST.out.drewN t⟩
          rcases Nat.lt_or_ge k th with hl | hl
          · exact HLT.out (HTR.out _ _ _ (pw_at HH.out.sy HYT.out hyk (by omega)) (HTR.out _ _ _ hl0 (pw_at HH.out.sx hxk HXT.out hl)))
          · obtain rfl : k = th := by omega
            rw [HXT.out] at hxk
            rw [HYT.out] at hyk
            cases hxk; cases hyk
            exact HLT.out hl0
        case measure => simp [intOf]; omega
    · obtain rfl : s = r := by omega
      obtain ⟨e, he⟩ : ∃ e, e = h - s := ⟨_, rfl⟩
      have HSP : RowKit.Hid ((∀ x ∈ X.take s, ∀ y ∈ Y.drop e, lt x y) ∧ (∀ y ∈ Y.take e, ∀ x ∈ X.drop s, lt y x)) := Lib.hid (by
        have hpq := HPQ.out
        refine split_ok HTR.out HH.out h s e (by omega) (by omega) (by omega) (fun x y hs hx hy => ?_) (fun x y hs hx hy => ?_)
        · have hyl := (List.getElem?_eq_some_iff.1 hy).1
          refine H1.out (s - 1) x y (by omega) (by omega) hx ?_
          rw [show h - 1 - (s - 1) = e by omega]; exact hy
        · have hxl := (List.getElem?_eq_some_iff.1 hx).1
          refine H2.out s x y (by omega) (by omega) hx ?_
          rw [show h - 1 - s = e - 1 by omega]; exact hy)
      obtain ⟨st, hst'⟩ : ∃ st, st = a + s := ⟨_, rfl⟩
      obtain ⟨en, hen⟩ : ∃ en, en = m + e := ⟨_, rfl⟩
      rw [← hst']
      have hst1 := Nat.le_of_eq hst'
      have hst2 := Nat.le_of_eq hst'.symm
      have hen1 := Nat.le_of_eq hen
      have hen2 := Nat.le_of_eq hen.symm
      have d2 : decide ((st : Int) < (st : Int)) = false := decide_eq_false (by omega)
      have y1 : (np : Int) - (st : Int) = (en : Int) := by omega
      have he1 := Nat.le_of_eq he
      have he2 := Nat.le_of_eq he.symm
      clear hst' hen
      have y2 : s + e = h := by omega
      have y3 : s ≤ p := by omega
      have y4 : e ≤ q := by omega
      clear H1 H2 hlt he
      have hR1 : s < p := by omega
      have dR1 : decide ((st : Int) < (m : Int)) = true := decide_eq_true (by omega)
      by_cases hR2 : 0 < e
      · have dR2 : decide ((m : Int) < (en : Int)) = true := decide_eq_true (by omega)
        have CT : RowKit.Hid (Calls Tryz.prog 232 #[.slice (some ⟨g, 0, none⟩) n c, .int .i64 (st : Int), .int .i64 (m : Int), .int .i64 (en : Int), (.func (.func 139) #[] #[.pointer (some ⟨bc, 0, none⟩)])] wr fun e' w' => e' = .returned (.tuple #[]) ∧ Stp g wr ((P ++ X.take s) ++ Y.take e ++ X.drop s ++ (Y.drop e ++ S)) w') := Lib.hid (by
          have hpq := HPQ.out
          have hpa := HPA.out
          refine rotate_any g n c (.func (.func 139) #[] #[.pointer (some ⟨bc, 0, none⟩)]) (P ++ X.take s) (X.drop s) (Y.take e) (Y.drop e ++ S) st m en (by simp; omega) (by simp; omega) (by simp; omega) (by simp; omega) (by simp; omega) (by simp; omega) hnc hc wr ?_
          have h := HST.out.2
          have e1 : (P ++ X.take s) ++ X.drop s ++ Y.take e ++ (Y.drop e ++ S) = P ++ X ++ Y ++ S := by
            rw [List.append_assoc P, List.take_append_drop, ← List.append_assoc, List.append_assoc (P ++ X), List.take_append_drop]
          rw [e1]; exact h)
        go_wp2_with fail
        with_reducible refine CT.out.mono ?_
        rintro e7 w7 ⟨rfl, hs7⟩
        have HS0 : RowKit.Hid (Stp g w (P ++ X.take s ++ Y.take e ++ X.drop s ++ Y.drop e ++ S) w7) := Lib.hid (by have h := HST.out.trans hs7; simpa using h)
        clear hs7
        by_cases hA : 0 < s
        · have dA : decide ((a : Int) < (st : Int)) = true := decide_eq_true (by omega)
          have dC : decide ((st : Int) < (md : Int)) = true := decide_eq_true (by omega)
          have CL : RowKit.Hid (Calls Tryz.prog 201 #[.slice (some ⟨g, 0, none⟩) n c, .int .i64 (a : Int), .int .i64 (st : Int), .int .i64 (md : Int), (.func (.func 139) #[] #[.pointer (some ⟨bc, 0, none⟩)])] w7 (MRes g lt P (X.take s) (Y.take e) (X.drop s ++ Y.drop e ++ S) w7)) := Lib.hid (HIH.out P (X.take s) (Y.take e) (X.drop s ++ Y.drop e ++ S) a st md (HH.out.sub (List.take_sublist ..) (List.take_sublist ..)) (by have := HPQ.out; simp; omega) (by have := HPQ.out; simp; omega) (by have := HPQ.out; simp; omega) HPA.out (by have := HPQ.out; simp; omega) (by have := HPQ.out; simp; omega) (by have := HPQ.out; simp; omega) _ HS0.out.1 (by have h := HS0.out.2; simpa using h))
          go_wp2_with fail
          with_reducible refine CL.out.mono ?_
          rintro e8 w8 ⟨rfl, Z1, hp1, hq1, hs1⟩
          have HP1 := Lib.hid hp1
          have HQ1 := Lib.hid hq1
          have HZ1 : RowKit.Hid (P.length + Z1.length = md) := Lib.hid (by have h1 := hq1.length_eq; have h2 := HPQ.out; have h3 := HPA.out; simp at h1; omega)
          have HS1 : RowKit.Hid (Stp g w (P ++ Z1 ++ X.drop s ++ Y.drop e ++ S) w8) := Lib.hid (by have h := HS0.out.trans hs1; simpa using h)
          clear hp1 hq1 hs1
          have dB : decide ((md : Int) < (en : Int)) = true := decide_eq_true (by omega)
          by_cases hD : e < q
          · first
              | (exfalso; omega)
              | (have dD : decide ((en : Int) < (b : Int)) = true := decide_eq_true (by omega)
                 have CR : RowKit.Hid (Calls Tryz.prog 201 #[.slice (some ⟨g, 0, none⟩) n c, .int .i64 (md : Int), .int .i64 (en : Int), .int .i64 (b : Int), (.func (.func 139) #[] #[.pointer (some ⟨bc, 0, none⟩)])] w8 (MRes g lt (P ++ Z1) (X.drop s) (Y.drop e) S w8)) := Lib.hid (HIH.out (P ++ Z1) (X.drop s) (Y.drop e) S md en b (HH.out.sub (List.drop_sublist ..) (List.drop_sublist ..)) (by have := HPQ.out; simp; omega) (by have := HPQ.out; simp; omega) (by have := HPQ.out; simp; omega) (by have := HZ1.out; simp; omega) (by have := HPQ.out; simp; omega) (by have := HPQ.out; simp; omega) (by omega) _ HS1.out.1 HS1.out.2)
                 go_wp2_with fail
                 with_reducible refine CR.out.mono ?_
                 rintro e9 w9 ⟨rfl, Z2, hp2, hq2, hs2⟩
                 have HP2 := Lib.hid hp2
                 have HQ2 := Lib.hid hq2
                 have HS2 := Lib.hid hs2
                 clear hp2 hq2 hs2
                 go_wp2
                 go_end0
                 exact merged HH.out.sx HH.out.sy HSP.out.1 HSP.out.2 HP1.out HQ1.out HP2.out HQ2.out (by have h := HS1.out.trans HS2.out; simpa using h))
          · first
              | (exfalso; omega)
              | (have dD : decide ((en : Int) < (b : Int)) = false := decide_eq_false (by omega)
                 have HZ2 : RowKit.Hid (Y.drop e = []) := Lib.hid (List.drop_eq_nil_of_le (by have := HPQ.out; omega))
                 go_wp2
                 go_end0
                 exact merged (Z2 := X.drop s) HH.out.sx HH.out.sy HSP.out.1 HSP.out.2 HP1.out HQ1.out (HH.out.sx.sublist (List.drop_sublist ..)) (by rw [HZ2.out, List.append_nil]) (by have h := HS1.out; rw [HZ2.out] at h; simpa using h))
        · have dA : decide ((a : Int) < (st : Int)) = false := decide_eq_false (by omega)
          obtain ⟨Z1, hZ1⟩ : ∃ Z1, Z1 = Y.take e := ⟨_, rfl⟩
          have HYT : RowKit.Hid (X.take s = []) := Lib.hid (by rw [show s = 0 by omega]; rfl)
          have HP1 : RowKit.Hid (Z1.Pairwise lt) := Lib.hid (by rw [hZ1]; exact HH.out.sy.sublist (List.take_sublist ..))
          have HQ1 : RowKit.Hid (Z1.Perm (X.take s ++ Y.take e)) := Lib.hid (by rw [HYT.out, List.nil_append, hZ1])
          have HZ1 : RowKit.Hid (P.length + Z1.length = md) := Lib.hid (by have h2 := HPQ.out; have h3 := HPA.out; rw [hZ1, List.length_take]; omega)
          have HS1 : RowKit.Hid (Stp g w (P ++ Z1 ++ X.drop s ++ Y.drop e ++ S) w7) := Lib.hid (by have h := HS0.out; rw [HYT.out] at h; rw [hZ1]; simpa using h)
          clear hZ1
          have dB : decide ((md : Int) < (en : Int)) = true := decide_eq_true (by omega)
          by_cases hD : e < q
          · first
              | (exfalso; omega)
              | (have dD : decide ((en : Int) < (b : Int)) = true := decide_eq_true (by omega)
                 have CR : RowKit.Hid (Calls Tryz.prog 201 #[.slice (some ⟨g, 0, none⟩) n c, .int .i64 (md : Int), .int .i64 (en : Int), .int .i64 (b : Int), (.func (.func 139) #[] #[.pointer (some ⟨bc, 0, none⟩)])] w7 (MRes g lt (P ++ Z1) (X.drop s) (Y.drop e) S w7)) := Lib.hid (HIH.out (P ++ Z1) (X.drop s) (Y.drop e) S md en b (HH.out.sub (List.drop_sublist ..) (List.drop_sublist ..)) (by have := HPQ.out; simp; omega) (by have := HPQ.out; simp; omega) (by have := HPQ.out; simp; omega) (by have := HZ1.out; simp; omega) (by have := HPQ.out; simp; omega) (by have := HPQ.out; simp; omega) (by omega) _ HS1.out.1 HS1.out.2)
                 go_wp2_with fail
                 with_reducible refine CR.out.mono ?_
                 rintro e9 w9 ⟨rfl, Z2, hp2, hq2, hs2⟩
                 have HP2 := Lib.hid hp2
                 have HQ2 := Lib.hid hq2
                 have HS2 := Lib.hid hs2
                 clear hp2 hq2 hs2
                 go_wp2
                 go_end0
                 exact merged HH.out.sx HH.out.sy HSP.out.1 HSP.out.2 HP1.out HQ1.out HP2.out HQ2.out (by have h := HS1.out.trans HS2.out; simpa using h))
          · first
              | (exfalso; omega)
              | (have dD : decide ((en : Int) < (b : Int)) = false := decide_eq_false (by omega)
                 have HZ2 : RowKit.Hid (Y.drop e = []) := Lib.hid (List.drop_eq_nil_of_le (by have := HPQ.out; omega))
                 go_wp2
                 go_end0
                 exact merged (Z2 := X.drop s) HH.out.sx HH.out.sy HSP.out.1 HSP.out.2 HP1.out HQ1.out (HH.out.sx.sublist (List.drop_sublist ..)) (by rw [HZ2.out, List.append_nil]) (by have h := HS1.out; rw [HZ2.out] at h; simpa using h))
      · have dR2 : decide ((m : Int) < (en : Int)) = false := decide_eq_false (by omega)
        have HS0 : RowKit.Hid (Stp g w (P ++ X.take s ++ Y.take e ++ X.drop s ++ Y.drop e ++ S) wr) := Lib.hid (by
          have h := HST.out
          have e0 : e = 0 := by omega
          rw [e0, List.take_zero, List.drop_zero, List.append_nil, List.append_assoc P, List.take_append_drop]
          exact h)
        by_cases hA : 0 < s
        · have dA : decide ((a : Int) < (st : Int)) = true := decide_eq_true (by omega)
          have dC : decide ((st : Int) < (md : Int)) = false := decide_eq_false (by omega)
          obtain ⟨Z1, hZ1⟩ : ∃ Z1, Z1 = X.take s := ⟨_, rfl⟩
          have HYT : RowKit.Hid (Y.take e = []) := Lib.hid (by rw [show e = 0 by omega]; rfl)
          have HP1 : RowKit.Hid (Z1.Pairwise lt) := Lib.hid (by rw [hZ1]; exact HH.out.sx.sublist (List.take_sublist ..))
          have HQ1 : RowKit.Hid (Z1.Perm (X.take s ++ Y.take e)) := Lib.hid (by rw [HYT.out, List.append_nil, hZ1])
          have HZ1 : RowKit.Hid (P.length + Z1.length = md) := Lib.hid (by have h2 := HPQ.out; have h3 := HPA.out; rw [hZ1, List.length_take]; omega)
          have HS1 : RowKit.Hid (Stp g w (P ++ Z1 ++ X.drop s ++ Y.drop e ++ S) wr) := Lib.hid (by have h := HS0.out; rw [HYT.out] at h; rw [hZ1]; simpa using h)
          clear hZ1
          have dB : decide ((md : Int) < (en : Int)) = true := decide_eq_true (by omega)
          by_cases hD : e < q
          · first
              | (exfalso; omega)
              | (have dD : decide ((en : Int) < (b : Int)) = true := decide_eq_true (by omega)
                 have CR : RowKit.Hid (Calls Tryz.prog 201 #[.slice (some ⟨g, 0, none⟩) n c, .int .i64 (md : Int), .int .i64 (en : Int), .int .i64 (b : Int), (.func (.func 139) #[] #[.pointer (some ⟨bc, 0, none⟩)])] wr (MRes g lt (P ++ Z1) (X.drop s) (Y.drop e) S wr)) := Lib.hid (HIH.out (P ++ Z1) (X.drop s) (Y.drop e) S md en b (HH.out.sub (List.drop_sublist ..) (List.drop_sublist ..)) (by have := HPQ.out; simp; omega) (by have := HPQ.out; simp; omega) (by have := HPQ.out; simp; omega) (by have := HZ1.out; simp; omega) (by have := HPQ.out; simp; omega) (by have := HPQ.out; simp; omega) (by omega) _ HS1.out.1 HS1.out.2)
                 go_wp2_with fail
                 with_reducible refine CR.out.mono ?_
                 rintro e9 w9 ⟨rfl, Z2, hp2, hq2, hs2⟩
                 have HP2 := Lib.hid hp2
                 have HQ2 := Lib.hid hq2
                 have HS2 := Lib.hid hs2
                 clear hp2 hq2 hs2
                 go_wp2
                 go_end0
                 exact merged HH.out.sx HH.out.sy HSP.out.1 HSP.out.2 HP1.out HQ1.out HP2.out HQ2.out (by have h := HS1.out.trans HS2.out; simpa using h))
          · first
              | (exfalso; omega)
              | (have dD : decide ((en : Int) < (b : Int)) = false := decide_eq_false (by omega)
                 have HZ2 : RowKit.Hid (Y.drop e = []) := Lib.hid (List.drop_eq_nil_of_le (by have := HPQ.out; omega))
                 go_wp2
                 go_end0
                 exact merged (Z2 := X.drop s) HH.out.sx HH.out.sy HSP.out.1 HSP.out.2 HP1.out HQ1.out (HH.out.sx.sublist (List.drop_sublist ..)) (by rw [HZ2.out, List.append_nil]) (by have h := HS1.out; rw [HZ2.out] at h; simpa using h))
        · have dA : decide ((a : Int) < (st : Int)) = false := decide_eq_false (by omega)
          obtain ⟨Z1, hZ1⟩ : ∃ Z1, Z1 = Y.take e := ⟨_, rfl⟩
          have HYT : RowKit.Hid (X.take s = []) := Lib.hid (by rw [show s = 0 by omega]; rfl)
          have HP1 : RowKit.Hid (Z1.Pairwise lt) := Lib.hid (by rw [hZ1]; exact HH.out.sy.sublist (List.take_sublist ..))
          have HQ1 : RowKit.Hid (Z1.Perm (X.take s ++ Y.take e)) := Lib.hid (by rw [HYT.out, List.nil_append, hZ1])
          have HZ1 : RowKit.Hid (P.length + Z1.length = md) := Lib.hid (by have h2 := HPQ.out; have h3 := HPA.out; rw [hZ1, List.length_take]; omega)
          have HS1 : RowKit.Hid (Stp g w (P ++ Z1 ++ X.drop s ++ Y.drop e ++ S) wr) := Lib.hid (by have h := HS0.out; rw [HYT.out] at h; rw [hZ1]; simpa using h)
          clear hZ1
          have dB : decide ((md : Int) < (en : Int)) = true := decide_eq_true (by omega)
          by_cases hD : e < q
          · first
              | (exfalso; omega)
              | (have dD : decide ((en : Int) < (b : Int)) = true := decide_eq_true (by omega)
                 have CR : RowKit.Hid (Calls Tryz.prog 201 #[.slice (some ⟨g, 0, none⟩) n c, .int .i64 (md : Int), .int .i64 (en : Int), .int .i64 (b : Int), (.func (.func 139) #[] #[.pointer (some ⟨bc, 0, none⟩)])] wr (MRes g lt (P ++ Z1) (X.drop s) (Y.drop e) S wr)) := Lib.hid (HIH.out (P ++ Z1) (X.drop s) (Y.drop e) S md en b (HH.out.sub (List.drop_sublist ..) (List.drop_sublist ..)) (by have := HPQ.out; simp; omega) (by have := HPQ.out; simp; omega) (by have := HPQ.out; simp; omega) (by have := HZ1.out; simp; omega) (by have := HPQ.out; simp; omega) (by have := HPQ.out; simp; omega) (by omega) _ HS1.out.1 HS1.out.2)
                 go_wp2_with fail
                 with_reducible refine CR.out.mono ?_
                 rintro e9 w9 ⟨rfl, Z2, hp2, hq2, hs2⟩
                 have HP2 := Lib.hid hp2
                 have HQ2 := Lib.hid hq2
                 have HS2 := Lib.hid hs2
                 clear hp2 hq2 hs2
                 go_wp2
                 go_end0
                 exact merged HH.out.sx HH.out.sy HSP.out.1 HSP.out.2 HP1.out HQ1.out HP2.out HQ2.out (by have h := HS1.out.trans HS2.out; simpa using h))
          · first
              | (exfalso; omega)
              | (have dD : decide ((en : Int) < (b : Int)) = false := decide_eq_false (by omega)
                 have HZ2 : RowKit.Hid (Y.drop e = []) := Lib.hid (List.drop_eq_nil_of_le (by have := HPQ.out; omega))
                 go_wp2
                 go_end0
                 exact merged (Z2 := X.drop s) HH.out.sx HH.out.sy HSP.out.1 HSP.out.2 HP1.out HQ1.out (HH.out.sx.sublist (List.drop_sublist ..)) (by rw [HZ2.out, List.append_nil]) (by have h := HS1.out; rw [HZ2.out] at h; simpa using h))
end Go.Proofs.YtcjpecdnenemaaaGreatDoor
