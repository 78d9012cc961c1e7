/-
  Fill for all inputs.
-/
import Derived.Test.YtcjpecdnenemaaaGreatDoorUf1
import Derived.Test.YtcjpecdnenemaaaGreatDoorUf2
namespace Go.Proofs.YtcjpecdnenemaaaGreatDoor
set_option linter.all false
open Go.RowKit Go.Shelf

set_option maxRecDepth 100000 in
set_option maxHeartbeats 3200000 in
theorem fill_ok2 (A : Option Addr) (n c : Nat) (xs : List Eqv) (B : Option Addr) (hn hc : Nat) (hs : List Hd) (sn sd day known x y : Int) (out : List Hd) (w : World) (hT : TabA w A n c xs) (hlt : n ≤ 1000000) (hH : HeadsA w B hn hc hs)
    (he : eachE xs hs sn sd day known = 0) (hr : fillS (sn, sd) ((eachL xs hs day known).zip hs) = some ((x, y), out)) :
    Calls Tryz.prog 63 #[.slice A n c, .slice B hn hc, .agg #[.int .i64 sn, .int .i64 sd], .int .i64 day, .int .i64 known] w fun e w' => ∃ v, (e = .returned (.tuple #[v, .int .i64 0]) ∧ w'.ownsRow w.heap.size 84 2 v out.length (hdFlat out)) ∧ Kept w w' := by
  have hBl : 0 < hn → ∀ b off, B = some ⟨b, off, none⟩ → b < w.heap.size := fun h0 b off hB => by
    obtain ⟨b', off', e, hc⟩ := hH.2.2.2.2 h0
    rw [hB] at e
    cases e
    have hl := hH.1
    exact cell_lt (hc 0 _ (List.getElem?_eq_getElem (by omega))).1
  obtain ⟨hchk, hare, hvld, hall⟩ := each_ok he
  have hev := eachL_vld hchk hall
  obtain ⟨h12, hnv⟩ := areS_ok hare
  have hlen : (eachL xs hs day known).length = hs.length := by simp [eachL]
  have hmf : ∀ (fn : Fn) (first cap : Array Value) (w : World), (Instr.makeFunc fn first cap).run Tryz.prog w = .ok (.func fn first cap) w := fun _ _ _ _ => rfl
  obtain ⟨W0, hW0⟩ : ∃ W0 : World, W0 = (w.alloc (.cells #[.slice B hn hc] 61)).alloc (.cells #[.int .i64 sn, .int .i64 sd] 23) := ⟨_, rfl⟩
  have K0 : Kept w W0 := by rw [hW0]; exact ((Kept.refl w).alloc _).alloc _
  have r1 : RowC W0 w.heap.size [.slice B hn hc] := by rw [hW0]; exact (RowC.new w [.slice B hn hc] 61).kept ((Kept.refl _).alloc _)
  have r2 : RowC W0 (w.heap.size + 1) [.int .i64 sn, .int .i64 sd] := by
    have := RowC.new (w.alloc (.cells #[.slice B hn hc] 61)) [.int .i64 sn, .int .i64 sd] 23
    rw [World.size_alloc] at this
    rw [hW0]; exact this
  have z0 : W0.heap.size = w.heap.size + 1 + 1 := by rw [hW0]; simp
  have HW0 := Lib.hid hW0
  have R1 := Lib.hid r1
  have R2 := Lib.hid r2
  have Z0 := Lib.hid z0
  have HEa : RowKit.Hid (Calls Tryz.prog 127 #[.slice A n c, .slice B hn hc, .agg #[.int .i64 sn, .int .i64 sd], .int .i64 day, .int .i64 known] W0 fun e w' => ∃ v, (e = .returned (.tuple #[v, .int .i64 0]) ∧ w'.ownsRow W0.heap.size 92 2 v hs.length (fl2 (eachL xs hs day known))) ∧ Kept W0 w') := Lib.hid ((eachOf_any A n c xs B hn hc hs sn sd day known W0 (hT.kept K0) hlt (hH.kept K0)).mono (fun e w' h => by
    rcases h with ⟨⟨h1, _⟩ | ⟨_, v, h2, h3⟩, h4⟩
    · exact absurd he h1
    · exact ⟨v, ⟨h2, h3⟩, h4⟩))
  have HX : RowKit.Hid (∀ (be bf : Nat) (v : Value) (W : World), Kept W0 W → RowC W be [v] → FrA W v (eachL xs hs day known) → RowC W bf [.slice none 0 0] → W0.heap.size < bf → be ≠ bf → (∀ A c, v = .slice A (eachL xs hs day known).length c → ∀ g, A = some ⟨g, 0, none⟩ → g ≠ bf) →
      Calls Tryz.prog 129 #[.pointer (some ⟨w.heap.size + 1, 0, none⟩), .pointer (some ⟨w.heap.size, 0, none⟩), .pointer (some ⟨be, 0, none⟩), .pointer (some ⟨bf, 0, none⟩)] W fun e w' => e = .returned (.agg #[.int .i64 x, .int .i64 y]) ∧ FillPost bf out W w') := Lib.hid (fun be bf v W hk hv hf hb hlt2 hne h5 =>
    fill1_ok2 (w.heap.size + 1) w.heap.size be bf B hn hc hs v (eachL xs hs day known) sn sd x y out W (r1.kept hk 0 _ rfl).1 ((hH.kept K0).kept hk) hv hf hlen (r2.kept hk) hb hvld hev (fun h hh => (hnv h hh).2) (by rw [← hH.1]; exact h12) (by omega) (by omega) hne (fun h0 b off hB => by have := hBl h0 b off hB; omega) h5 hr)
  have b1 := (r1 0 _ rfl).1
  have b2 := (r2 0 _ rfl).1
  have b3 := (r2 1 _ rfl).1
  clear hW0 r1 r2 z0 hT hH he hr hchk hare hvld hall hev h12 hnv hlen hBl
  have g129 := e129
  go_enter Tryz.func63, Tryz.ntmps63
  go_wp2_with fail
  rw [← HW0.out]
  refine HEa.out.mono ?_
  rintro e w1 ⟨v, ⟨rfl, hown⟩, hk1⟩
  have hv := FrA.of_own (es := eachL xs hs day known) (by rw [show (eachL xs hs day known).length = hs.length by simp [eachL]]; exact hown)
  have HV := Lib.hid hv
  have hv5 : ∀ A c, v = .slice A (eachL xs hs day known).length c → ∀ g, A = some ⟨g, 0, none⟩ → g ≠ w1.heap.size + 1 := by
    intro A' c' hA g hg
    subst hg
    rcases own_form hown with ⟨e1, _⟩ | ⟨g', cap, e1, _, _, _, h4⟩
    · rw [hA] at e1
      injection e1 with e1 _ _
      cases e1
    · rw [hA] at e1
      injection e1 with e1 _ _
      injection e1 with e1
      injection e1 with e1
      omega
  have HV5 := Lib.hid hv5
  clear hown hv5
  obtain ⟨A', c', rfl, _⟩ := hv
  obtain ⟨W2, hW2⟩ : ∃ W2 : World, W2 = (w1.alloc (.cells #[.slice A' (eachL xs hs day known).length c'] 127)).alloc (.cells #[.slice none 0 0] 61) := ⟨_, rfl⟩
  have NB : RowC W2 w1.heap.size [.slice A' (eachL xs hs day known).length c'] := by rw [hW2]; exact (RowC.new w1 _ 127).kept ((Kept.refl _).alloc _)
  have NF : RowC W2 (w1.heap.size + 1) [.slice none 0 0] := by
    have := RowC.new (w1.alloc (.cells #[.slice A' (eachL xs hs day known).length c'] 127)) [.slice none 0 0] 61
    rw [World.size_alloc] at this
    rw [hW2]; exact this
  have kw12 : Kept w1 W2 := by rw [hW2]; exact ((Kept.refl _).alloc _).alloc _
  have z2 : W2.heap.size = w1.heap.size + 1 + 1 := by rw [hW2]; simp
  have HW2 := Lib.hid hW2
  have HNB := Lib.hid NB
  have HNF := Lib.hid NF
  have HK12 := Lib.hid kw12
  have HK1 := Lib.hid hk1
  have Z2 := Lib.hid z2
  have hz := hk1.size
  have hz0 := Z0.out
  have hwl : w.heap.size < w1.heap.size := by omega
  have hW0l : W0.heap.size < w1.heap.size + 1 := by omega
  clear hW2 NB NF kw12 z2 hz hz0 b1 b2 b3
  have HF : RowKit.Hid (∀ W, Kept W2 W → Calls Tryz.prog 129 #[.pointer (some ⟨w.heap.size + 1, 0, none⟩), .pointer (some ⟨w.heap.size, 0, none⟩), .pointer (some ⟨w1.heap.size, 0, none⟩), .pointer (some ⟨w1.heap.size + 1, 0, none⟩)] W fun e w' => e = .returned (.agg #[.int .i64 x, .int .i64 y]) ∧ FillPost (w1.heap.size + 1) out W w') := Lib.hid (fun W hW =>
    HX.out w1.heap.size (w1.heap.size + 1) _ W ((HK1.out.trans HK12.out).trans hW) (HNB.out.kept hW) ((HV.out.kept HK12.out).kept hW) (HNF.out.kept hW) hW0l (by omega) HV5.out)
  go_wp2_with fail
  rw [← HW2.out]
  refine (reckon_any 129 _ x y (FillPost (w1.heap.size + 1) out) _ e129 (fun W1 W1' hp k hk1' hk2 => hp.block k hk2 (by have := Z2.out; omega)) (fun W hW _ => HF.out W hW)).mono ?_
  rintro e w2 ⟨rfl, Wa, Wb, hka, hza, hpo, hap⟩
  have hkf := fill_kept ((K0.trans HK1.out).trans HK12.out) (by omega) hka hpo hap
  obtain ⟨vv, hbut, hrow, hown⟩ := hpo
  have hc2 : w2.cell? ⟨w1.heap.size + 1, 0, none⟩ = some vv := by
    have := Z2.out
    rw [World.cell?_of_block (hap.block (w1.heap.size + 1) (by omega) (by omega))]
    exact (hrow 0 _ rfl).1
  have ho2 : w2.ownsRow w.heap.size 84 2 vv out.length (hdFlat out) := by
    have h1 := Z2.out
    have h2 := (HK1.out.trans (HK12.out.trans hka)).size
    have h3 := Z0.out
    exact own_base (own_blocks hown (fun k hk => hap.block k (by omega) (by omega))) (by omega)
  have HKF := Lib.hid hkf
  have HO2 := Lib.hid ho2
  clear hkf ho2 hown hrow hbut hap hka hza
  go_wp2
  go_ret2
  exact ⟨vv, ⟨rfl, HO2.out⟩, HKF.out⟩

set_option maxRecDepth 100000 in
set_option maxHeartbeats 3200000 in
theorem fill_lim (A : Option Addr) (n c : Nat) (xs : List Eqv) (B : Option Addr) (hn hc : Nat) (hs : List Hd) (sn sd day known : Int) (w : World) (hT : TabA w A n c xs) (hlt : n ≤ 1000000) (hH : HeadsA w B hn hc hs)
    (he : eachE xs hs sn sd day known = 0) (hr : fillS (sn, sd) ((eachL xs hs day known).zip hs) = none) :
    Calls Tryz.prog 63 #[.slice A n c, .slice B hn hc, .agg #[.int .i64 sn, .int .i64 sd], .int .i64 day, .int .i64 known] w fun e w' => e = .returned (.tuple #[.slice none 0 0, .int .i64 2]) ∧ Kept w w' := by
  have hBl : 0 < hn → ∀ b off, B = some ⟨b, off, none⟩ → b < w.heap.size := fun h0 b off hB => by
    obtain ⟨b', off', e, hc⟩ := hH.2.2.2.2 h0
    rw [hB] at e
    cases e
    have hl := hH.1
    exact cell_lt (hc 0 _ (List.getElem?_eq_getElem (by omega))).1
  obtain ⟨hchk, hare, hvld, hall⟩ := each_ok he
  have hev := eachL_vld hchk hall
  obtain ⟨h12, hnv⟩ := areS_ok hare
  have hlen : (eachL xs hs day known).length = hs.length := by simp [eachL]
  have hmf : ∀ (fn : Fn) (first cap : Array Value) (w : World), (Instr.makeFunc fn first cap).run Tryz.prog w = .ok (.func fn first cap) w := fun _ _ _ _ => rfl
  obtain ⟨W0, hW0⟩ : ∃ W0 : World, W0 = (w.alloc (.cells #[.slice B hn hc] 61)).alloc (.cells #[.int .i64 sn, .int .i64 sd] 23) := ⟨_, rfl⟩
  have K0 : Kept w W0 := by rw [hW0]; exact ((Kept.refl w).alloc _).alloc _
  have r1 : RowC W0 w.heap.size [.slice B hn hc] := by rw [hW0]; exact (RowC.new w [.slice B hn hc] 61).kept ((Kept.refl _).alloc _)
  have r2 : RowC W0 (w.heap.size + 1) [.int .i64 sn, .int .i64 sd] := by
    have := RowC.new (w.alloc (.cells #[.slice B hn hc] 61)) [.int .i64 sn, .int .i64 sd] 23
    rw [World.size_alloc] at this
    rw [hW0]; exact this
  have z0 : W0.heap.size = w.heap.size + 1 + 1 := by rw [hW0]; simp
  have HW0 := Lib.hid hW0
  have R1 := Lib.hid r1
  have R2 := Lib.hid r2
  have Z0 := Lib.hid z0
  have HEa : RowKit.Hid (Calls Tryz.prog 127 #[.slice A n c, .slice B hn hc, .agg #[.int .i64 sn, .int .i64 sd], .int .i64 day, .int .i64 known] W0 fun e w' => ∃ v, (e = .returned (.tuple #[v, .int .i64 0]) ∧ w'.ownsRow W0.heap.size 92 2 v hs.length (fl2 (eachL xs hs day known))) ∧ Kept W0 w') := Lib.hid ((eachOf_any A n c xs B hn hc hs sn sd day known W0 (hT.kept K0) hlt (hH.kept K0)).mono (fun e w' h => by
    rcases h with ⟨⟨h1, _⟩ | ⟨_, v, h2, h3⟩, h4⟩
    · exact absurd he h1
    · exact ⟨v, ⟨h2, h3⟩, h4⟩))
  have HX : RowKit.Hid (∀ (be bf : Nat) (v : Value) (W : World), Kept W0 W → RowC W be [v] → FrA W v (eachL xs hs day known) → RowC W bf [.slice none 0 0] → W0.heap.size < bf → be ≠ bf → (∀ A c, v = .slice A (eachL xs hs day known).length c → ∀ g, A = some ⟨g, 0, none⟩ → g ≠ bf) →
      Calls Tryz.prog 129 #[.pointer (some ⟨w.heap.size + 1, 0, none⟩), .pointer (some ⟨w.heap.size, 0, none⟩), .pointer (some ⟨be, 0, none⟩), .pointer (some ⟨bf, 0, none⟩)] W fun e w' => e = .panicked limPanic ∧ But bf W w') := Lib.hid (fun be bf v W hk hv hf hb hlt2 hne h5 =>
    fill1_lim (w.heap.size + 1) w.heap.size be bf B hn hc hs v (eachL xs hs day known) sn sd W (r1.kept hk 0 _ rfl).1 ((hH.kept K0).kept hk) hv hf hlen (r2.kept hk) hb hvld hev (fun h hh => (hnv h hh).2) (by rw [← hH.1]; exact h12) (by omega) (by omega) hne (fun h0 b off hB => by have := hBl h0 b off hB; omega) h5 hr)
  have b1 := (r1 0 _ rfl).1
  have b2 := (r2 0 _ rfl).1
  have b3 := (r2 1 _ rfl).1
  clear hW0 r1 r2 z0 hT hH he hr hchk hare hvld hall hev h12 hnv hlen hBl
  have g129 := e129
  go_enter Tryz.func63, Tryz.ntmps63
  go_wp2_with fail
  rw [← HW0.out]
  refine HEa.out.mono ?_
  rintro e w1 ⟨v, ⟨rfl, hown⟩, hk1⟩
  have hv := FrA.of_own (es := eachL xs hs day known) (by rw [show (eachL xs hs day known).length = hs.length by simp [eachL]]; exact hown)
  have HV := Lib.hid hv
  have hv5 : ∀ A c, v = .slice A (eachL xs hs day known).length c → ∀ g, A = some ⟨g, 0, none⟩ → g ≠ w1.heap.size + 1 := by
    intro A' c' hA g hg
    subst hg
    rcases own_form hown with ⟨e1, _⟩ | ⟨g', cap, e1, _, _, _, h4⟩
    · rw [hA] at e1
      injection e1 with e1 _ _
      cases e1
    · rw [hA] at e1
      injection e1 with e1 _ _
      injection e1 with e1
      injection e1 with e1
      omega
  have HV5 := Lib.hid hv5
  clear hown hv5
  obtain ⟨A', c', rfl, _⟩ := hv
  obtain ⟨W2, hW2⟩ : ∃ W2 : World, W2 = (w1.alloc (.cells #[.slice A' (eachL xs hs day known).length c'] 127)).alloc (.cells #[.slice none 0 0] 61) := ⟨_, rfl⟩
  have NB : RowC W2 w1.heap.size [.slice A' (eachL xs hs day known).length c'] := by rw [hW2]; exact (RowC.new w1 _ 127).kept ((Kept.refl _).alloc _)
  have NF : RowC W2 (w1.heap.size + 1) [.slice none 0 0] := by
    have := RowC.new (w1.alloc (.cells #[.slice A' (eachL xs hs day known).length c'] 127)) [.slice none 0 0] 61
    rw [World.size_alloc] at this
    rw [hW2]; exact this
  have kw12 : Kept w1 W2 := by rw [hW2]; exact ((Kept.refl _).alloc _).alloc _
  have z2 : W2.heap.size = w1.heap.size + 1 + 1 := by rw [hW2]; simp
  have HW2 := Lib.hid hW2
  have HNB := Lib.hid NB
  have HNF := Lib.hid NF
  have HK12 := Lib.hid kw12
  have HK1 := Lib.hid hk1
  have Z2 := Lib.hid z2
  have hz := hk1.size
  have hz0 := Z0.out
  have hwl : w.heap.size < w1.heap.size := by omega
  have hW0l : W0.heap.size < w1.heap.size + 1 := by omega
  clear hW2 NB NF kw12 z2 hz hz0 b1 b2 b3
  have HF : RowKit.Hid (∀ W, Kept W2 W → Calls Tryz.prog 129 #[.pointer (some ⟨w.heap.size + 1, 0, none⟩), .pointer (some ⟨w.heap.size, 0, none⟩), .pointer (some ⟨w1.heap.size, 0, none⟩), .pointer (some ⟨w1.heap.size + 1, 0, none⟩)] W fun e w' => e = .panicked limPanic ∧ But (w1.heap.size + 1) W w') := Lib.hid (fun W hW =>
    HX.out w1.heap.size (w1.heap.size + 1) _ W ((HK1.out.trans HK12.out).trans hW) (HNB.out.kept hW) ((HV.out.kept HK12.out).kept hW) (HNF.out.kept hW) hW0l (by omega) HV5.out)
  go_wp2_with fail
  rw [← HW2.out]
  refine (reckon_limP 129 _ (But (w1.heap.size + 1)) _ e129 (fun W1 W1' hp k hk1' hk2 => hp.5 k hk2 (by have := Z2.out; simp; omega)) (fun W hW _ => HF.out W hW)).mono ?_
  rintro e w2 ⟨rfl, Wa, Wb, hka, hza, hpo, hap⟩
  have hkf := but_kept ((K0.trans HK1.out).trans HK12.out) (by omega) hka hpo hap
  have HKF := Lib.hid hkf
  clear hkf hpo hap hka hza
  go_wp2
  go_ret2
  exact ⟨rfl, HKF.out⟩

set_option maxRecDepth 100000 in
set_option maxHeartbeats 3200000 in
theorem fill_err (A : Option Addr) (n c : Nat) (xs : List Eqv) (B : Option Addr) (hn hc : Nat) (hs : List Hd) (sn sd day known : Int) (w : World) (hT : TabA w A n c xs) (hlt : n ≤ 1000000) (hH : HeadsA w B hn hc hs)
    (he : eachE xs hs sn sd day known ≠ 0) :
    Calls Tryz.prog 63 #[.slice A n c, .slice B hn hc, .agg #[.int .i64 sn, .int .i64 sd], .int .i64 day, .int .i64 known] w fun e w' => e = .returned (.tuple #[.slice none 0 0, .int .i64 (eachE xs hs sn sd day known)]) ∧ Kept w w' := by
  obtain ⟨W0, hW0⟩ : ∃ W0 : World, W0 = (w.alloc (.cells #[.slice B hn hc] 61)).alloc (.cells #[.int .i64 sn, .int .i64 sd] 23) := ⟨_, rfl⟩
  have K0 : Kept w W0 := by rw [hW0]; exact ((Kept.refl w).alloc _).alloc _
  have r1 : RowC W0 w.heap.size [.slice B hn hc] := by rw [hW0]; exact (RowC.new w [.slice B hn hc] 61).kept ((Kept.refl _).alloc _)
  have r2 : RowC W0 (w.heap.size + 1) [.int .i64 sn, .int .i64 sd] := by
    have := RowC.new (w.alloc (.cells #[.slice B hn hc] 61)) [.int .i64 sn, .int .i64 sd] 23
    rw [World.size_alloc] at this
    rw [hW0]; exact this
  have z0 : W0.heap.size = w.heap.size + 1 + 1 := by rw [hW0]; simp
  have HW0 := Lib.hid hW0
  have R1 := Lib.hid r1
  have R2 := Lib.hid r2
  have Z0 := Lib.hid z0
  obtain ⟨E, hE⟩ : ∃ E, E = eachE xs hs sn sd day known := ⟨_, rfl⟩
  rw [← hE] at he ⊢
  have HEa : RowKit.Hid (Calls Tryz.prog 127 #[.slice A n c, .slice B hn hc, .agg #[.int .i64 sn, .int .i64 sd], .int .i64 day, .int .i64 known] W0 fun e w' => e = .returned (.tuple #[.slice none 0 0, .int .i64 E]) ∧ Kept W0 w') := Lib.hid ((eachOf_any A n c xs B hn hc hs sn sd day known W0 (hT.kept K0) hlt (hH.kept K0)).mono (fun e w' h => by
    rcases h with ⟨⟨h1, h2⟩ | ⟨h1, _⟩, h4⟩
    · exact ⟨by rw [h2, hE], h4⟩
    · exact absurd (hE.trans h1) he))
  have hne : (E != 0) = true := by simpa using he
  have b1 := (r1 0 _ rfl).1
  have b2 := (r2 0 _ rfl).1
  have b3 := (r2 1 _ rfl).1
  clear hW0 r1 r2 z0 hT hH he hE
  go_enter Tryz.func63, Tryz.ntmps63
  go_wp2_with fail
  rw [← HW0.out]
  refine HEa.out.mono ?_
  rintro e w1 ⟨rfl, hk1⟩
  have HK1 := Lib.hid hk1
  clear hk1
  go_wp2
  go_ret2
  exact ⟨rfl, (K0.trans HK1.out).alloc _⟩
def FillRes (w : World) (r : List Hd × Int) (e : Ending) (w' : World) : Prop :=
  ∃ v, e = .returned (.tuple #[v, .int .i64 r.2]) ∧ w'.ownsRow w.heap.size 84 2 v r.1.length (hdFlat r.1) ∧ Kept w w'
theorem fill_any (A : Option Addr) (n c : Nat) (xs : List Eqv) (B : Option Addr) (hn hc : Nat) (hs : List Hd) (sn sd day known : Int) (w : World) (hT : TabA w A n c xs) (hlt : n ≤ 1000000) (hH : HeadsA w B hn hc hs) :
    Calls Tryz.prog 63 #[.slice A n c, .slice B hn hc, .agg #[.int .i64 sn, .int .i64 sd], .int .i64 day, .int .i64 known] w (FillRes w (fillR xs hs sn sd day known)) := by
  by_cases he : eachE xs hs sn sd day known = 0
  · rcases hr : fillS (sn, sd) (zipH xs hs day known) with _ | r
    · have e1 : fillR xs hs sn sd day known = ([], 2) := by unfold fillR; rw [if_pos he, hr]
      rw [e1]
      refine (fill_lim A n c xs B hn hc hs sn sd day known w hT hlt hH he hr).mono ?_
      rintro e w' ⟨rfl, hk⟩
      exact ⟨_, rfl, ⟨rfl, .inl ⟨rfl, rfl⟩⟩, hk⟩
    · obtain ⟨⟨x, y⟩, out⟩ := r
      have e1 : fillR xs hs sn sd day known = (out, 0) := by unfold fillR; rw [if_pos he, hr]
      rw [e1]
      refine (fill_ok2 A n c xs B hn hc hs sn sd day known x y out w hT hlt hH he hr).mono ?_
      rintro e w' ⟨v, ⟨rfl, h1⟩, hk⟩
      exact ⟨v, rfl, h1, hk⟩
  · have e1 : fillR xs hs sn sd day known = ([], eachE xs hs sn sd day known) := by unfold fillR; rw [if_neg he]
    rw [e1]
    refine (fill_err A n c xs B hn hc hs sn sd day known w hT hlt hH he).mono ?_
    rintro e w' ⟨rfl, hk⟩
    exact ⟨_, rfl, ⟨rfl, .inl ⟨rfl, rfl⟩⟩, hk⟩
end Go.Proofs.YtcjpecdnenemaaaGreatDoor
