/-
  ShareTogether.
-/
import Derived.Test.YtcjpecdnenemaaaGreatDoorUs2
import Derived.Test.YtcjpecdnenemaaaGreatDoorLa4
import Derived.Test.YtcjpecdnenemaaaGreatDoorGR
import Derived.Deep.AppendLies
namespace Go.Proofs.YtcjpecdnenemaaaGreatDoor
set_option linter.all false
open Go.RowKit Go.Shelf

theorem info23 : (Tryz.prog.info? 23).map (fun i => (i.zero, i.size, i.bytes)) = some (some (.agg #[.int .i64 0, .int .i64 0]), 2, 16) := by kernel_rfl
def flH (hs : List Hd) : List Value := hs.flatMap hdCells
theorem flH_len (hs : List Hd) : (flH hs).length = hs.length * 2 := by
  induction hs with
  | nil => rfl
  | cons h hs ih => unfold flH at ih ⊢; rw [List.flatMap_cons, List.length_append, ih]; simp [hdCells]; omega
theorem flH_at : ∀ (hs : List Hd) (k : Nat) (h : Hd), hs[k]? = some h → (flH hs)[k * 2]? = some (.string h.sort) ∧ (flH hs)[k * 2 + 1]? = some (.int .i64 h.num)
  | [], k, h, hx => by simp at hx
  | x :: hs, 0, h, hx => by simp at hx; subst hx; simp [flH, hdCells]
  | x :: hs, k + 1, h, hx => by
    have := flH_at hs k h (by simpa using hx)
    have e : flH (x :: hs) = .string x.sort :: .int .i64 x.num :: flH hs := by simp [flH, hdCells]
    rw [e, show (k + 1) * 2 = k * 2 + 1 + 1 by omega]
    simpa using this
theorem flH_one (hs : List Hd) : ∀ u ∈ flH hs, u.oneCell' = true := by
  intro u hu
  unfold flH at hu
  obtain ⟨h, _, hu⟩ := List.mem_flatMap.1 hu
  exact one2h h u hu
theorem flH_get (hs : List Hd) (j : Nat) (u : Value) (hu : (flH hs)[j]? = some u) : ∃ k h, hs[k]? = some h ∧ ((j = k * 2 ∧ u = .string h.sort) ∨ (j = k * 2 + 1 ∧ u = .int .i64 h.num)) := by
  have hl : j < hs.length * 2 := by rw [← flH_len]; exact (List.getElem?_eq_some_iff.1 hu).1
  have hk : j / 2 < hs.length := by omega
  have hx : hs[j / 2]? = some (hs[j / 2]'hk) := List.getElem?_eq_getElem hk
  have := flH_at hs _ _ hx
  refine ⟨j / 2, _, hx, ?_⟩
  rcases Nat.mod_two_eq_zero_or_one j with h | h
  · left
    have e : j = j / 2 * 2 := by omega
    refine ⟨e, ?_⟩
    have h2 := this.1
    rw [← e, hu] at h2
    exact Option.some.inj h2
  · right
    have e : j = j / 2 * 2 + 1 := by omega
    refine ⟨e, ?_⟩
    have h2 := this.2
    rw [← e, hu] at h2
    exact Option.some.inj h2
theorem heads_news {w : World} {b off n c : Nat} {hs : List Hd} (h : HeadsA w (some ⟨b, off, none⟩) n c hs) (hn : 0 < n) : ∀ j u, (flH hs)[j]? = some u → w.cell? ((⟨b, off, none⟩ : Addr).add j) = some u := by
  intro j u hu
  obtain ⟨b', off', e, hc⟩ := h.2.2.2.2 hn
  cases e
  obtain ⟨k, x, hx, hh⟩ := flH_get hs j u hu
  have e0 : ((⟨b, off, none⟩ : Addr).add j) = ⟨b, off + j, none⟩ := by unfold Addr.add; split <;> simp_all
  rw [e0]
  rcases hh with ⟨rfl, rfl⟩ | ⟨rfl, rfl⟩
  · exact (hc k x hx).1
  · exact (hc k x hx).2
theorem ownH0 (W : World) (B : Nat) (hB : W.heap.size = B) : (W.alloc (.cells #[] 84)).ownsRow B 84 2 (.slice (some ⟨B, 0, none⟩) 0 0) 0 [] := by
  subst hB
  exact ⟨rfl, .inr ⟨W.heap.size, 0, #[], rfl, Nat.le_refl _, heap_alloc_new _ _, by omega, by simp [maxLen], rfl, rfl⟩⟩
theorem own_rowC {w : World} {base : Nat} {t : TypeId} {s g n c : Nat} {ys : List Value} (h : w.ownsRow base t s (.slice (some ⟨g, 0, none⟩) n c) n ys) : RowC w g ys := by
  intro j v hv
  have hj : j < n * s := by rw [← h.1]; exact (List.getElem?_eq_some_iff.1 hv).1
  refine ⟨by rw [h.cellAt j hj]; exact hv, ?_⟩
  rcases h.2 with ⟨h1, _⟩ | ⟨g', c', cur, h1, hb, hh, _⟩
  · cases h1
  · cases h1
    unfold World.frozen?
    rw [show (⟨g, j, none⟩ : Addr).block = g from rfl, hh]
    simp
theorem fracs_own {w : World} {base : Nat} {t : TypeId} {v : Value} {es : List (Int × Int)} (h : w.ownsRow base t 2 v es.length (fl2 es)) : ∃ A c, v = .slice A es.length c ∧ FracsA w A es.length c es := by
  obtain ⟨A, c, rfl, h1, h2, h3⟩ := FrA.of_own h
  refine ⟨A, c, rfl, rfl, h1, h2, fun hn => ?_⟩
  obtain ⟨g, e, hc⟩ := h3 hn
  exact ⟨g, 0, e, fun i p hp => ⟨by rw [Nat.zero_add]; exact hc _ _ (fl2_at hp).1, by rw [Nat.zero_add]; exact hc _ _ (fl2_at hp).2⟩⟩
theorem heads_one (w : World) (h : Hd) (m : Nat) (hm : w.heap.size = m) (h1 : h.sort.size ≤ 9223372036854775807) (h2 : -9223372036854775808 ≤ h.num) (h3 : h.num ≤ 9223372036854775807) : HeadsA (w.alloc (.cells #[.string h.sort, .int .i64 h.num] 84)) (some ⟨m, 0, none⟩) 1 1 [h] := by
  subst hm
  refine ⟨rfl, by omega, by omega, fun x hx => by simp at hx; subst hx; exact ⟨h1, h2, h3⟩, fun _ => ⟨_, _, rfl, fun i x hx => ?_⟩⟩
  have hi : i = 0 := by have := (List.getElem?_eq_some_iff.1 hx).1; simp at this; exact this
  subst hi
  simp at hx
  subst hx
  exact ⟨(RowC.new w [.string h.sort, .int .i64 h.num] 84 0 _ rfl).1, (RowC.new w [.string h.sort, .int .i64 h.num] 84 1 _ rfl).1⟩
theorem heads_set {w : World} {g hn c k : Nat} {hs : List Hd} {h : Hd} {n : Int} (hr : RowC w g (flH hs)) (hx : hs[k]? = some h) (hl : hs.length = hn) (hc : hn ≤ c) (hm : c ≤ 9223372036854775807) (hb : ∀ x ∈ hs, x.sort.size ≤ 9223372036854775807 ∧ -9223372036854775808 ≤ x.num ∧ x.num ≤ 9223372036854775807) (h2 : -9223372036854775808 ≤ n) (h3 : n ≤ 9223372036854775807) :
    HeadsA (w.setCell ⟨g, k * 2 + 1, none⟩ (.int .i64 n)) (some ⟨g, 0, none⟩) hn c (hs.set k ⟨h.sort, n⟩) := by
  have hk : k < hs.length := (List.getElem?_eq_some_iff.1 hx).1
  have hp := hr.put (j := k * 2 + 1) (by rw [flH_len]; omega) (.int .i64 n)
  have he : (flH hs).set (k * 2 + 1) (.int .i64 n) = flH (hs.set k ⟨h.sort, n⟩) := by
    apply List.ext_getElem?
    intro j
    by_cases hj : j < hs.length * 2
    · obtain ⟨q, rfl | rfl⟩ : ∃ q, j = q * 2 ∨ j = q * 2 + 1 := ⟨j / 2, by omega⟩
      · have hq : q < hs.length := by omega
        have hxq : hs[q]? = some (hs[q]'hq) := List.getElem?_eq_getElem hq
        rw [List.getElem?_set_ne (by omega), (flH_at hs _ _ hxq).1]
        by_cases e : q = k
        · subst e
          rw [hxq] at hx
          have := (flH_at (hs.set q ⟨h.sort, n⟩) q ⟨h.sort, n⟩ (by simp [hq])).1
          rw [this, Option.some.inj hx]
        · have := (flH_at (hs.set k ⟨h.sort, n⟩) q _ (by rw [List.getElem?_set_ne (fun x => e x.symm)]; exact hxq)).1
          rw [this]
      · have hq : q < hs.length := by omega
        have hxq : hs[q]? = some (hs[q]'hq) := List.getElem?_eq_getElem hq
        by_cases e : q = k
        · subst e
          rw [List.getElem?_set_self (by rw [flH_len]; omega)]
          have := (flH_at (hs.set q ⟨h.sort, n⟩) q ⟨h.sort, n⟩ (by simp [hq])).2
          rw [this]
        · rw [List.getElem?_set_ne (by omega), (flH_at hs _ _ hxq).2]
          have := (flH_at (hs.set k ⟨h.sort, n⟩) q _ (by rw [List.getElem?_set_ne (fun x => e x.symm)]; exact hxq)).2
          rw [this]
    · rw [List.getElem?_eq_none (by rw [List.length_set, flH_len]; omega), List.getElem?_eq_none (by rw [flH_len, List.length_set]; omega)]
  rw [he] at hp
  refine ⟨by rw [List.length_set, hl], hc, hm, fun x hx2 => ?_, fun _ => ⟨g, 0, rfl, fun i x hx2 => ?_⟩⟩
  · rcases List.mem_or_eq_of_mem_set hx2 with h | h
    · exact hb x h
    · subst h; exact ⟨(hb _ (List.mem_of_getElem? hx)).1, h2, h3⟩
  · have := flH_at _ _ _ hx2
    exact ⟨by rw [Nat.zero_add]; exact (hp _ _ this.1).1, by rw [Nat.zero_add]; exact (hp _ _ this.2).1⟩

set_option maxRecDepth 100000 in
set_option maxHeartbeats 8000000 in
theorem together_any (A : Option Addr) (n c : Nat) (xs : List Eqv) (B : Option Addr) (hn hc : Nat) (hs : List Hd) (more which day known : Int) (w : World) (hT : TabA w A n c xs) (hH : HeadsA w B hn hc hs) (hE : Env w)
    (hw1 : -9223372036854775808 ≤ which) (hw2 : which ≤ 9223372036854775807) :
    Calls Tryz.prog 14 #[.slice A n c, .slice B hn hc, .int .i64 more, .int .i64 which, .int .i64 day, .int .i64 known] w fun e w' => e = .returned (.bool true) ∧ Kept w w' := by
  have HT := Lib.hid hT
  have HH := Lib.hid hH
  have HE := Lib.hid hE
  have hnc := hT.2.1
  have hcm := hT.2.2.1
  have hhc := hH.2.1
  have hhm := hH.2.2.1
  clear hT hH hE
  obtain ⟨fb, hfb⟩ : ∃ fb, fb = fewB n := ⟨_, rfl⟩
  have HFB := Lib.hid hfb
  have HF : RowKit.Hid (∀ W, Calls Tryz.prog 47 #[.slice A n c] W fun e w' => e = .returned (.bool fb) ∧ W = w') := Lib.hid (fun W => by rw [hfb]; exact few_any A n c (by omega) W)
  clear hfb
  cases fb
  · go_enter Tryz.func14, Tryz.ntmps14
    go_wp2_with fail
    refine (HF.out _).mono ?_
    rintro e w1 ⟨rfl, rfl⟩
    go_wp2_with fail
    refine (alive_any _ HE.out).mono ?_
    rintro e w2 ⟨rfl, hk2⟩
    go_wp2
    go_ret
    exact ⟨rfl, hk2⟩
  have hlt : n ≤ 1000000 := by have := few_le HFB.out.symm; omega
  obtain ⟨sb, hsb⟩ : ∃ sb, sb = shB hs := ⟨_, rfl⟩
  have HSB := Lib.hid hsb
  have HSH : RowKit.Hid (∀ W, Kept w W → Calls Tryz.prog 58 #[.slice B hn hc] W fun e w' => e = .returned (.bool sb) ∧ Kept W w') := Lib.hid (fun W hW => by rw [hsb]; exact short_any B hn hc hs W (HH.out.kept hW))
  clear hsb
  cases sb
  · go_enter Tryz.func14, Tryz.ntmps14
    go_wp2_with fail
    refine (HF.out _).mono ?_
    rintro e w1 ⟨rfl, rfl⟩
    go_wp2_with fail
    refine (HSH.out _ (Kept.refl _)).mono ?_
    rintro e w2 ⟨rfl, hk2⟩
    go_wp2_with fail
    refine (alive_any _ (HE.out.kept hk2)).mono ?_
    rintro e w3 ⟨rfl, hk3⟩
    go_wp2
    go_ret
    exact ⟨rfl, hk2.trans hk3⟩
  obtain ⟨h15, hsz⟩ := shB_ok HSB.out.symm
  have HSZ := Lib.hid hsz
  rw [HH.out.1] at h15
  clear hsz
  obtain ⟨⟨x, y, z⟩, hx⟩ : ∃ r, r = excS xs hs 0 1 day known := ⟨_, rfl⟩
  have HX := Lib.hid hx.symm
  have HU : RowKit.Hid (∀ W, Kept w W → Calls Tryz.prog 59 #[.slice A n c, .slice B hn hc, .int .i64 day, .int .i64 known] W fun e w' => e = .returned (.tuple #[.agg #[.int .i64 x, .int .i64 y], .int .i64 z]) ∧ Kept W w') := Lib.hid (fun W hW => by
    have := uses_any A n c xs B hn hc hs day known W (HT.out.kept hW) hlt (HH.out.kept hW)
    rw [← hx] at this
    exact this)
  clear hx
  by_cases hz : z = 0
  rotate_left
  · obtain ⟨rfl, rfl⟩ := excS_bad HX.out hz
    have hzb : (z != 0) = true := by simpa using hz
    go_enter Tryz.func14, Tryz.ntmps14
    go_wp2_with fail
    refine (HF.out _).mono ?_
    rintro e w1 ⟨rfl, rfl⟩
    go_wp2_with fail
    refine (HSH.out _ (Kept.refl _)).mono ?_
    rintro e w2 ⟨rfl, hk2⟩
    go_wp2_with fail
    refine (HU.out _ hk2).mono ?_
    rintro e w3 ⟨rfl, hk3⟩
    have K3 := Lib.hid (hk2.trans hk3)
    clear hk2 hk3
    go_wp2_with fail
    refine (alive_any _ (HE.out.kept (K3.out.alloc _))).mono ?_
    rintro e w4 ⟨rfl, hk4⟩
    have R := (RowC.new w3 [.int .i64 0, .int .i64 0] 23).kept hk4
    have r0 := (R 0 _ rfl).1
    have r1 := (R 1 _ rfl).1
    clear R
    go_wp2
    go_ret
    exact ⟨by simp, (K3.out.alloc _).trans hk4⟩
  subst hz
  obtain ⟨he0, hex⟩ := excS_ok HX.out
  obtain ⟨hge, hpe⟩ := zipE_good he0
  rw [excF_zero hge] at hex
  obtain ⟨hare, hnums⟩ := areS_ok (each_ok he0).2.1
  obtain ⟨hmul, _⟩ := uses_fold (zipE xs hs day known) (0, 1) (x, y) hex
  have hzl : (zipE xs hs day known).length = hn := by rw [zipE_map, List.length_map, HH.out.1]
  have hsum := sum_muls hge (by omega) hex
  obtain ⟨ms, hms⟩ : ∃ ms, ms = mulsE (zipE xs hs day known) := ⟨_, rfl⟩
  have hml : ms.length = hn := by rw [hms]; unfold mulsE; rw [List.length_map, hzl]
  rw [← hms] at hsum
  have HE0 := Lib.hid he0
  have HMUL := Lib.hid hmul
  have HMS := Lib.hid hms
  have HSUM := Lib.hid hsum
  have HNU := Lib.hid hnums
  have HML := Lib.hid hml
  clear he0 hex hge hpe hmul hms hsum hnums hzl hml hare
  obtain ⟨i0, hi0, hz0, hz1, hz2⟩ := info_parts info23
  go_enter Tryz.func14, Tryz.ntmps14
  go_wp2_with fail
  refine (HF.out _).mono ?_
  rintro e w1 ⟨rfl, rfl⟩
  go_wp2_with fail
  refine (HSH.out _ (Kept.refl _)).mono ?_
  rintro e w2 ⟨rfl, hk2⟩
  go_wp2_with fail
  refine (HU.out _ hk2).mono ?_
  rintro e w3 ⟨rfl, hk3⟩
  obtain ⟨W3, hW3⟩ : ∃ W3, W3 = w3.alloc (.cells #[.int .i64 x, .int .i64 y] 23) := ⟨_, rfl⟩
  have K3 : RowKit.Hid (Kept w W3) := Lib.hid (by rw [hW3]; exact (hk2.trans hk3).alloc _)
  have R3 : RowKit.Hid (RowC W3 w3.heap.size [.int .i64 x, .int .i64 y]) := Lib.hid (by rw [hW3]; exact RowC.new w3 _ 23)
  have HW3 := Lib.hid hW3
  have HL3 : RowKit.Hid (w3.heap.size < W3.heap.size) := Lib.hid (by rw [hW3]; simp)
  clear hW3 hk2 hk3
  go_upto_region 6 with (fail)
  rw [← HW3.out]
  go_wp2_with fail
  go_loopw [15, 52] (fun v i wr => ∃ k : Nat, k ≤ hn ∧ i = .int .i64 k ∧ wr.ownsRow W3.heap.size 23 2 v k (fl2 (ms.take k)) ∧ Kept W3 wr) (fun _ i _ => hn - (intOf i).toNat)
  case atStart => exact ⟨0, by omega, by first | rfl | go_num, by exact ⟨rfl, .inl ⟨rfl, rfl⟩⟩, Kept.refl _⟩
  case round =>
    obtain ⟨k, hk, rfl, hown, hkr⟩ := hrel
    have HOWN := Lib.hid hown
    have HKR := Lib.hid hkr
    clear hown
    by_cases hlt2 : k < hn
    · obtain ⟨b, off, hB, hcc⟩ := HH.out.2.2.2.2 (by omega)
      subst hB
      have hxl : k < hs.length := by rw [HH.out.1]; exact hlt2
      obtain ⟨hd, hhd⟩ : ∃ hd, hs[k]? = some hd := ⟨hs[k]'hxl, List.getElem?_eq_getElem hxl⟩
      have kw := K3.out.trans hkr
      have q0 := (kw.cells _ _ (cell_lt (hcc k hd hhd).1)).trans (hcc k hd hhd).1
      have q1 := (kw.cells _ _ (cell_lt (hcc k hd hhd).2)).trans (hcc k hd hhd).2
      have hmem := List.mem_of_getElem? hhd
      obtain ⟨_, n0, n1⟩ := HNU.out hd hmem
      have hdz := HSZ.out hd hmem
      have hze := zipE_at (xs := xs) (day := day) (known := known) hhd
      obtain ⟨m, hm⟩ := HMUL.out _ (List.mem_of_getElem? hze)
      have hmk : ms[k]? = some m := by rw [HMS.out]; exact mulsE_at hze hm
      have HONE := Lib.hid (exc_one HE0.out hmem hm)
      have HMK := Lib.hid hmk
      have HKW := Lib.hid kw
      obtain ⟨m0, m1⟩ := m
      have HU1 : RowKit.Hid (Calls Tryz.prog 59 #[.slice A n c, .slice (some ⟨wr.heap.size + 1, 0, none⟩) 1 1, .int .i64 day, .int .i64 known] ((wr.alloc (.cells #[.string hd.sort, .int .i64 hd.num] 84)).alloc (.cells #[.string hd.sort, .int .i64 hd.num] 84)) fun e w' => e = .returned (.tuple #[.agg #[.int .i64 m0, .int .i64 m1], .int .i64 0]) ∧ Kept ((wr.alloc (.cells #[.string hd.sort, .int .i64 hd.num] 84)).alloc (.cells #[.string hd.sort, .int .i64 hd.num] 84)) w') := Lib.hid (by
        have := uses_any A n c xs (some ⟨wr.heap.size + 1, 0, none⟩) 1 1 [hd] day known ((wr.alloc (.cells #[.string hd.sort, .int .i64 hd.num] 84)).alloc (.cells #[.string hd.sort, .int .i64 hd.num] 84)) (HT.out.kept ((kw.alloc _).alloc _)) hlt (heads_one (wr.alloc (.cells #[.string hd.sort, .int .i64 hd.num] 84)) hd _ (by simp) (by omega) (by omega) (by omega))
        rw [HONE.out] at this
        exact this)
      clear hcc hhd hmem n0 n1 hdz hze hm hmk kw hkr
      go_wp2_with fail
      refine HU1.out.mono ?_
      rintro e w9 ⟨rfl, hk9⟩
      have K9 := Lib.hid (HKR.out.trans ((((Kept.refl wr).alloc (.cells #[.string hd.sort, .int .i64 hd.num] 84)).alloc (.cells #[.string hd.sort, .int .i64 hd.num] 84)).trans hk9))
      have HO9 := Lib.hid (own_kept HOWN.out ((((((Kept.refl wr).alloc (.cells #[.string hd.sort, .int .i64 hd.num] 84)).alloc (.cells #[.string hd.sort, .int .i64 hd.num] 84)).trans hk9).alloc (.cells #[.int .i64 m0, .int .i64 m1] 23)).alloc (.cells #[.int .i64 m0, .int .i64 m1] 23)))
      have HN := Lib.hid (news_of (W := w9.alloc (.cells #[.int .i64 m0, .int .i64 m1] 23)) (cs := [.int .i64 m0, .int .i64 m1]) (t := 23) (m := w9.heap.size + 1) (by simp))
      have H16 := Lib.hid (one2 m0 m1)
      have HZ := Lib.hid ((K9.out.alloc (.cells #[.int .i64 m0, .int .i64 m1] 23)).alloc (.cells #[.int .i64 m0, .int .i64 m1] 23)).size
      have HA3 : RowKit.Hid (k + 1 ≤ maxLen) := Lib.hid (by unfold maxLen; omega)
      have HA4 : RowKit.Hid ((k + 1) * 16 ≤ 140737488355328) := Lib.hid (by omega)
      clear hk9
      go_wp2_with (at_builtin; refine wpList_append_lies _ rfl (.tmp 67) (.tmp 69) 32 rfl W3.heap.size 23 i0 _ 2 16 Tryz.underlying32 hi0 hz0 hz1 hz2 rfl (by decide) _ k _ rfl HO9.out ⟨w9.heap.size + 1, 0, none⟩ 1 1 [.int .i64 m0, .int .i64 m1] rfl rfl HN.out H16.out (by decide) HA3.out HA4.out HZ.out _ rfl ?_; intro g cap w10 hown10 hgrow10 hat10 hlt10)
      have HO10 := Lib.hid hown10
      have HK10 := Lib.hid (((K9.out.alloc (.cells #[.int .i64 m0, .int .i64 m1] 23)).alloc (.cells #[.int .i64 m0, .int .i64 m1] 23)).grown hgrow10 (fun r hr => (HOWN.out.lt r hr).1))
      clear hown10 hgrow10 hat10 hlt10
      go_roundw
      case rel =>
        refine ⟨k + 1, by omega, by go_num, ?_, HK10.out⟩
        rw [take_snoc' HMK.out, fl2_snoc]
        exact HO10.out
      case measure => simp [intOf]; omega
    · obtain rfl : k = hn := by omega
      have hown := HOWN.out
      rw [List.take_of_length_le (by rw [HML.out]; exact Nat.le_refl _)] at hown
      obtain ⟨A7, c7, hv7, hf7⟩ := fracs_own (es := ms) (by rw [HML.out]; exact hown)
      rw [HML.out] at hv7 hf7
      subst hv7
      have HF7 := Lib.hid hf7
      have HS7 : RowKit.Hid (∀ W, Kept wr W → Calls Tryz.prog 34 #[.slice A7 k c7] W fun e w' => e = .returned (.tuple #[.agg #[.int .i64 x, .int .i64 y], .int .i64 0]) ∧ Kept W w') := Lib.hid (fun W hW => by
        have := sum_any A7 k c7 ms W (HF7.out.kept hW)
        rw [HSUM.out] at this
        exact this)
      clear hown hf7 hkr
      go_wp2_with fail
      refine (HS7.out _ (Kept.refl _)).mono ?_
      rintro e w12 ⟨rfl, hk12⟩
      obtain ⟨W13, hW13⟩ : ∃ W13, W13 = w12.alloc (.cells #[.int .i64 x, .int .i64 y] 23) := ⟨_, rfl⟩
      have k13 : Kept W3 W13 := by rw [hW13]; exact (HKR.out.trans hk12).alloc _
      have r13 : RowC W13 w12.heap.size [.int .i64 x, .int .i64 y] := by rw [hW13]; exact RowC.new w12 _ 23
      have K13 := Lib.hid k13
      have HW13 := Lib.hid hW13
      have ra := R3.out.kept k13
      have a0 := (ra 0 _ rfl).1
      have a1 := (ra 1 _ rfl).1
      have b0 := (r13 0 _ rfl).1
      have b1 := (r13 1 _ rfl).1
      have la := cell_lt a0
      have lb := cell_lt b0
      clear hk12 hW13 k13 r13 ra
      go_upto_region 16 with (fail)
      rw [← HW13.out]
      have HE13 := Lib.hid (HE.out.kept (K3.out.trans K13.out))
      have KW13 := Lib.hid (K3.out.trans K13.out)
      by_cases hwh : which < 0
      · have d1 : decide (which < 0) = true := decide_eq_true hwh
        go_wp2_with fail
        refine (alive_any _ HE13.out).mono ?_
        rintro e w15 ⟨rfl, hk15⟩
        go_wp2
        go_ret
        exact ⟨rfl, KW13.out.trans hk15⟩
      obtain ⟨q, rfl⟩ : ∃ q : Nat, which = (q : Int) := ⟨which.toNat, by omega⟩
      have d1 : decide ((q : Int) < 0) = false := decide_eq_false (by omega)
      by_cases hwk : k ≤ q
      · have d2 : decide ((k : Int) ≤ (q : Int)) = true := decide_eq_true (by omega)
        go_wp2_with fail
        refine (alive_any _ HE13.out).mono ?_
        rintro e w15 ⟨rfl, hk15⟩
        go_wp2
        go_ret
        exact ⟨rfl, KW13.out.trans hk15⟩
      have d2 : decide ((k : Int) ≤ (q : Int)) = false := decide_eq_false (by omega)
      by_cases hm0 : more < 0
      · have d3 : decide (more < 0) = true := decide_eq_true hm0
        go_wp2_with fail
        refine (alive_any _ HE13.out).mono ?_
        rintro e w15 ⟨rfl, hk15⟩
        go_wp2
        go_ret
        exact ⟨rfl, KW13.out.trans hk15⟩
      have d3 : decide (more < 0) = false := decide_eq_false hm0
      by_cases hm1 : 1000 < more
      · have d4 : decide (1000 < more) = true := decide_eq_true hm1
        go_wp2_with fail
        refine (alive_any _ HE13.out).mono ?_
        rintro e w15 ⟨rfl, hk15⟩
        go_wp2
        go_ret
        exact ⟨rfl, KW13.out.trans hk15⟩
      have d4 : decide (1000 < more) = false := decide_eq_false hm1
      have hql : q < hs.length := by rw [HH.out.1]; omega
      obtain ⟨hd, hhd⟩ : ∃ hd, hs[q]? = some hd := ⟨hs[q]'hql, List.getElem?_eq_getElem hql⟩
      obtain ⟨_, n0, n1⟩ := HNU.out hd (List.mem_of_getElem? hhd)
      obtain ⟨bb, off, hB, _⟩ := HH.out.2.2.2.2 (by omega)
      subst hB
      have HHD := Lib.hid hhd
      obtain ⟨i1, hj0, hy0, hy1, hy2⟩ := info_parts info84
      have H13 := Lib.hid (HH.out.kept KW13.out)
      have HNEW := Lib.hid (heads_news (HH.out.kept (KW13.out.alloc (.cells #[] 84))) (by omega))
      have HONE := Lib.hid (flH_one hs)
      have HOL : RowKit.Hid ((flH hs).length = k * 2) := Lib.hid (by rw [flH_len, HH.out.1])
      have HOWN0 := Lib.hid (ownH0 W13 W13.heap.size rfl)
      have HA3 : RowKit.Hid (0 + k ≤ maxLen) := Lib.hid (by unfold maxLen; omega)
      have HA4 : RowKit.Hid ((0 + k) * 24 ≤ 140737488355328) := Lib.hid (by omega)
      have HA5 : RowKit.Hid (0 < k) := Lib.hid (by omega)
      have HZ : RowKit.Hid (W13.heap.size ≤ (W13.alloc (.cells #[] 84)).heap.size) := Lib.hid (by simp)
      have HMO : RowKit.Hid (0 ≤ more) := Lib.hid (by omega)
      clear hhd hql
      go_upto_region 21 with (at_builtin; refine wpList_append_lies _ rfl (.tmp 101) (.tmp 102) 61 rfl W13.heap.size 84 i1 _ 2 24 Tryz.underlying61 hj0 hy0 hy1 hy2 rfl (by decide) _ 0 _ rfl HOWN0.out ⟨bb, off, none⟩ k hc (flH hs) rfl HOL.out HNEW.out HONE.out HA5.out HA3.out HA4.out HZ.out _ rfl ?_; intro g cap w14 hown14 hgrow14 hat14 hlt14)
      have hk14 : Kept W13 w14 := ((Kept.refl W13).alloc (.cells #[] 84)).grown hgrow14 (fun r hr => (HOWN0.out.lt r hr).1)
      rw [Nat.zero_add, List.nil_append] at hown14
      have hr14 := own_rowC hown14
      have hgb : W13.heap.size ≤ g := by
        rcases hown14.2 with ⟨h1, _⟩ | ⟨g', c', cur, h1, hb, _⟩
        · cases h1
        · cases h1; exact hb
      obtain ⟨hcap1, hcap2⟩ : k ≤ cap ∧ cap ≤ 9223372036854775807 := by
        rcases own_form hown14 with ⟨h1, _⟩ | ⟨g', c', h1, h2, h3, _⟩
        · cases h1
        · cases h1; exact ⟨h2, by simpa [maxLen] using h3⟩
      have HS' := Lib.hid (heads_set (n := hd.num + more) hr14 HHD.out HH.out.1 hcap1 hcap2 HH.out.2.2.2.1 (by omega) (by omega))
      have t0 := (hr14 _ _ (flH_at hs q hd HHD.out).2)
      have s0 := t0.1
      have s1 := t0.2
      have lg := cell_lt s0
      have hwr : IntKind.i64.wrap (hd.num + more) = hd.num + more := IntWalk.i64_in _ (by omega)
      have j0 : (0 : Int) ≤ (q : Int) := by omega
      have j1 : (q : Int) < (k : Int) := by omega
      have KS : RowKit.Hid (Kept W13 (w14.setCell ⟨g, q * 2 + 1, none⟩ (.int .i64 (hd.num + more)))) := Lib.hid (hk14.setCell hgb _)
      clear hown14 hgrow14 hat14 hlt14 hr14 t0
      obtain ⟨⟨p0, p1, p2⟩, hp⟩ : ∃ r, r = excS xs (hs.set q ⟨hd.sort, hd.num + more⟩) 0 1 day known := ⟨_, rfl⟩
      have HP := Lib.hid hp.symm
      have HU2 : RowKit.Hid (Calls Tryz.prog 59 #[.slice A n c, .slice (some ⟨g, 0, none⟩) k cap, .int .i64 day, .int .i64 known] (w14.setCell ⟨g, q * 2 + 1, none⟩ (.int .i64 (hd.num + more))) fun e w' => e = .returned (.tuple #[.agg #[.int .i64 p0, .int .i64 p1], .int .i64 p2]) ∧ Kept (w14.setCell ⟨g, q * 2 + 1, none⟩ (.int .i64 (hd.num + more))) w') := Lib.hid (by
        have := uses_any A n c xs (some ⟨g, 0, none⟩) k cap (hs.set q ⟨hd.sort, hd.num + more⟩) day known _ (HT.out.kept (KW13.out.trans KS.out)) hlt HS'.out
        rw [← hp] at this
        exact this)
      clear hp a0 a1 b0 b1 la lb
      go_wp2_with fail
      refine HU2.out.mono ?_
      rintro e w16 ⟨rfl, hk16⟩
      obtain ⟨W17, hW17⟩ : ∃ W17, W17 = w16.alloc (.cells #[.int .i64 p0, .int .i64 p1] 23) := ⟨_, rfl⟩
      have k17 : Kept W13 W17 := by rw [hW17]; exact (KS.out.trans hk16).alloc _
      have K17 := Lib.hid k17
      have R17 : RowKit.Hid (RowC W17 w16.heap.size [.int .i64 p0, .int .i64 p1]) := Lib.hid (by rw [hW17]; exact RowC.new w16 _ 23)
      have HW17 := Lib.hid hW17
      clear hW17 k17 hk16 s0 s1 lg
      go_upto_region 23 with (fail)
      rw [← HW17.out]
      go_wp2_with fail
      refine (alive_any _ (HE13.out.kept K17.out)).mono ?_
      rintro e w18 ⟨rfl, hk18⟩
      have K18 := Lib.hid (KW13.out.trans (K17.out.trans hk18))
      have ra := R3.out.kept (K13.out.trans (K17.out.trans hk18))
      have rb := R17.out.kept hk18
      have a0 := (ra 0 _ rfl).1
      have a1 := (ra 1 _ rfl).1
      have b0 := (rb 0 _ rfl).1
      have b1 := (rb 1 _ rfl).1
      have la := cell_lt a0
      have lb := cell_lt b0
      clear hk18 ra rb
      by_cases hp2 : p2 = 0
      · subst hp2
        obtain ⟨hcm1, hcm2⟩ := together_more HHD.out HMO.out HX.out HP.out rfl
        obtain ⟨cm, hcm⟩ : ∃ cm, cm = cmpS x y p0 p1 := ⟨_, rfl⟩
        rw [← hcm] at hcm1
        have HC : RowKit.Hid (∀ W, Calls Tryz.prog 21 #[.agg #[.int .i64 x, .int .i64 y], .agg #[.int .i64 p0, .int .i64 p1]] W fun e w' => e = .returned (.int .i64 cm) ∧ Kept W w') := Lib.hid (fun W => by rw [hcm]; exact compare_any x y p0 p1 W)
        have d5 : decide (cm ≤ 0) = true := decide_eq_true hcm1
        clear hcm hcm1
        by_cases hmz : more = 0
        · obtain ⟨e1, e2⟩ : x = p0 ∧ y = p1 := by rw [hmz] at hcm2; simpa using hcm2.symm
          subst e1
          subst e2
          have d6 : (more == 0) = true := by simp [hmz]
          have d7 : (x == x) = true := by simp
          have d8 : (y == y) = true := by simp
          clear hcm2 hmz
          go_wp2_with fail
          refine (HC.out _).mono ?_
          rintro e w19 ⟨rfl, hk19⟩
          have a0' := (hk19.cells _ _ la).trans a0
          have a1' := (hk19.cells _ _ la).trans a1
          have b0' := (hk19.cells _ _ lb).trans b0
          have b1' := (hk19.cells _ _ lb).trans b1
          go_wp2
          go_ret
          exact ⟨by first | rfl | (simp; done), K18.out.trans hk19⟩
        have hno : ¬ (x = p0 ∧ y = p1) := by intro h; rw [decide_eq_true h, decide_eq_true_iff] at hcm2; exact hmz hcm2
        have d6 : (more == 0) = false := by simpa using hmz
        clear hcm2 hmz
        by_cases e1 : x = p0
        · subst e1
          have d7 : (x == x) = true := by simp
          have d8 : (y == p1) = false := by simp; intro h; exact hno ⟨rfl, h⟩
          clear hno
          go_wp2_with fail
          refine (HC.out _).mono ?_
          rintro e w19 ⟨rfl, hk19⟩
          have a0' := (hk19.cells _ _ la).trans a0
          have a1' := (hk19.cells _ _ la).trans a1
          have b0' := (hk19.cells _ _ lb).trans b0
          have b1' := (hk19.cells _ _ lb).trans b1
          go_wp2
          go_ret
          exact ⟨by first | rfl | (simp; done), K18.out.trans hk19⟩
        · have d7 : (x == p0) = false := by simpa using e1
          clear hno e1
          go_wp2_with fail
          refine (HC.out _).mono ?_
          rintro e w19 ⟨rfl, hk19⟩
          have a0' := (hk19.cells _ _ la).trans a0
          have a1' := (hk19.cells _ _ la).trans a1
          have b0' := (hk19.cells _ _ lb).trans b0
          have b1' := (hk19.cells _ _ lb).trans b1
          go_wp2
          go_ret
          exact ⟨by first | rfl | (simp; done), K18.out.trans hk19⟩
      · have d5 : (p2 != 0) = true := by simpa using hp2
        go_wp2
        go_ret
        exact ⟨rfl, K18.out⟩
end Go.Proofs.YtcjpecdnenemaaaGreatDoor
