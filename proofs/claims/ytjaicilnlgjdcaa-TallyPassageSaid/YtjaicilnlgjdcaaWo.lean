/- TallyPassage -/
import Derived.Test.YtjaicilnlgjdcaaWm
import Derived.Test.YtjaicilnlgjdcaaUl
import Derived.Deep.RegionHeld3
import Derived.BigQuiet
namespace Go.Proofs.Ytjaicilnlgjdcaa
set_option linter.all false
open Go.RowKit Go.Shelf

theorem inI_iff {s : Iv} {n : Int} : inI s.lo s.hi s.so n = true ↔ inV s n := by
  unfold inI inV; simp only [Bool.and_eq_true, decide_eq_true_eq, and_assoc]
def allIn (y : Int) (l : List Iv) : Bool := l.all (fun s => inI s.lo s.hi s.so y)
theorem allIn_snoc {l : List Iv} {k : Nat} {s : Iv} (h : l[k]? = some s) (y : Int) : allIn y (l.take (k + 1)) = (allIn y (l.take k) && inI s.lo s.hi s.so y) := by
  unfold allIn; rw [take_snoc' h]; simp
theorem all_fold {l : List Iv} (hl : ∀ s ∈ l, goodV s) (y : Int) : inI (foldB a100 l).lo (foldB a100 l).hi (foldB a100 l).so y = (inB y 0 100000 && allIn y l) := by
  have hf := (fold_good l a100 a100_good hl).2 y
  rw [Bool.eq_iff_iff, inI_iff, hf, Bool.and_eq_true, inB_iff]
  unfold allIn
  rw [List.all_eq_true]
  constructor
  · rintro ⟨⟨_, h1, h2⟩, h3⟩
    exact ⟨⟨h1, h2⟩, fun s hs => inI_iff.2 (h3 s hs)⟩
  · rintro ⟨⟨h1, h2⟩, h3⟩
    exact ⟨⟨rfl, h1, h2⟩, fun s hs => inI_iff.1 (h3 s hs)⟩

set_option maxRecDepth 100000 in
set_option maxHeartbeats 40000000 in
theorem passageLaw_any (A : Option Addr) (n1 c1 : Nat) (rs : List Rt) (B : Option Addr) (n c : Nat) (cs : List Ct) (N : Int) (w : World) (hR : SliK 2 rtCells w A n1 c1 rs) (hC : SliK 5 ctCells w B n c cs) :
    Calls Try.prog 12 #[.slice A n1 c1, .slice B n c, .int .i64 N] w fun e w' => e = .returned (.bool true) ∧ Kept w w' := by
  have HR := Lib.hid hR
  have HC := Lib.hid hC
  have hfl := field34
  have hnc := hC.2.1
  have hcm := hC.2.2.1
  have hnc1 := hR.2.1
  have hcm1 := hR.2.2.1
  clear hR hC
  by_cases h1 : 20 < n1
  · go_enter Try.func12, Try.ntmps12
    go_wp2_with fail
    refine (counted_any _).mono ?_
    rintro e w1 ⟨rfl, hk⟩
    go_wp2
    go_ret
    exact ⟨rfl, hk⟩
  by_cases h2 : 20 < n
  · go_enter Try.func12, Try.ntmps12
    go_wp2_with fail
    refine (counted_any _).mono ?_
    rintro e w1 ⟨rfl, hk⟩
    go_wp2
    go_ret
    exact ⟨rfl, hk⟩
  have H37 : RowKit.Hid (Calls Try.prog 37 #[.slice A n1 c1, .slice B n c] w (PassOut w rs cs)) := Lib.hid (passage_any A n1 c1 rs B n c cs w HR.out HC.out (by omega))
  have hda : decide ((20 : Int) < (n1 : Int)) = false := decide_eq_false (by omega)
  have hdb : decide ((20 : Int) < (n : Int)) = false := decide_eq_false (by omega)
  go_enter Try.func12, Try.ntmps12
  go_wp2_with fail
  refine H37.out.mono ?_
  rintro e w1 ⟨⟨xa, xb, xs⟩, ids, er, A1, n2, c2, rfl, hi1, hp1, hk1⟩
  dsimp only
  obtain ⟨W1, hW1⟩ : ∃ W1, W1 = w1.alloc (.cells #[.int .i64 xa, .int .i64 xb, .bool xs] 34) := ⟨_, rfl⟩
  have k1 : Kept w1 W1 := by rw [hW1]; exact (Kept.refl _).alloc _
  have R1 : RowKit.Hid (RowC W1 w1.heap.size [.int .i64 xa, .int .i64 xb, .bool xs]) := Lib.hid (by rw [hW1]; exact RowC.new w1 [.int .i64 xa, .int .i64 xb, .bool xs] 34)
  have K1 := Lib.hid (hk1.trans k1)
  have I1 := Lib.hid (hi1.kept k1)
  have HW1 := Lib.hid hW1
  clear hk1 k1 hi1 hW1 H37
  have P1 := Lib.hid hp1
  by_cases her : er = 0
  · subst her
    obtain ⟨hlen, hpos, hrl, hall, hxe, hap⟩ : cs.length ≤ 200 ∧ 0 < cs.length ∧ rs.length = cs.length ∧ (∀ (k : Nat) (r : Rt) (c : Ct), rs[k]? = some r → cs[k]? = some c → okV r c = true) ∧ (⟨xa, xb, xs⟩ : Iv) = foldB a100 (spn rs cs) ∧ ApRes (spn rs cs) ids := by
      rcases hp1 with ⟨h, _⟩ | ⟨h, _⟩ | ⟨_, h⟩
      · cases h
      · cases h
      · exact h
    obtain rfl : n1 = n := by rw [← HR.out.1, ← HC.out.1]; exact hrl
    have hn0 : 0 < n1 := by rw [← HC.out.1]; exact hpos
    obtain ⟨b, off, hA, htab⟩ := HR.out.2.2.2 hn0
    obtain ⟨b2, off2, hB, htab2⟩ := HC.out.2.2.2 hn0
    subst hA hB
    have HTR := Lib.hid htab
    have HTC := Lib.hid htab2
    have HALLOK := Lib.hid hall
    have HXE := Lib.hid hxe
    have HAP := Lib.hid hap
    have HSL : RowKit.Hid ((spn rs cs).length = n1) := Lib.hid (by rw [spn_len rs cs hrl, HC.out.1])
    have hgx : goodV ⟨xa, xb, xs⟩ := by rw [hxe]; exact (fold_good _ a100 a100_good spn_good).1
    have hxb : (0 ≤ xa ∧ xa ≤ 100000) ∧ (0 ≤ xb ∧ xb ≤ 100000) := by
      rcases hgx with h | h
      · dsimp only at h; omega
      · injection h with h1 h2 _; omega
    have HNE : RowKit.Hid (spn rs cs ≠ []) := Lib.hid (fun h => by have h5 := HSL.out; rw [h] at h5; simp at h5; omega)
    have hw1 : IntKind.i64.wrap (xa - 1) = xa - 1 := IntWalk.i64_in _ (by omega)
    have hw2 : IntKind.i64.wrap (xb + 1) = xb + 1 := IntWalk.i64_in _ (by omega)
    clear hp1 P1 hlen hpos hrl hall hxe hap htab htab2 hgx hxb
    go_upto_region 6 with (fail)
    rw [← HW1.out]
    have x0 := (R1.out 0 _ rfl).1
    have x1 := (R1.out 1 _ rfl).1
    have x2 := (R1.out 2 _ rfl).1
    have lx := cell_lt x0
    obtain ⟨W6, hW6⟩ : ∃ W6, W6 = W1.alloc (.cells #[.int .i64 N, .int .i64 (xa - 1), .int .i64 xa, .int .i64 xb, .int .i64 (xb + 1)] 3) := ⟨_, rfl⟩
    have k6 : Kept W1 W6 := by rw [hW6]; exact (Kept.refl _).alloc _
    have RN : RowKit.Hid (RowC W6 W1.heap.size ([N, xa - 1, xa, xb, xb + 1].map (Value.int .i64))) := Lib.hid (by rw [hW6]; exact RowC.new W1 _ 3)
    have HW6 := Lib.hid hW6
    go_upto_region 7 with (fail)
    rw [← HW6.out]
    replace R1 := Lib.hid (R1.out.kept k6)
    replace K1 := Lib.hid (K1.out.trans k6)
    replace I1 := Lib.hid (I1.out.kept k6)
    clear k6 hW6 x0 x1 x2 lx hw1 hw2
    go_wp2_with fail
    go_loopw [11] (fun i wr => ∃ k : Nat, k ≤ 5 ∧ i = .int .i64 k ∧ Kept W6 wr) (fun i _ => 5 - (intOf i).toNat)
    case atStart => exact ⟨0, by omega, by first | rfl | go_num, Kept.refl _⟩
    case round =>
      obtain ⟨wa, rfl⟩ : ∃ wa, wa = wr := ⟨_, rfl⟩
      obtain ⟨k, hk, rfl, hka⟩ := hrel
      have HKA := Lib.hid hka
      by_cases hlt : k < 5
      · obtain ⟨y, hy⟩ : ∃ y, ([N, xa - 1, xa, xb, xb + 1] : List Int)[k]? = some y := ⟨_, List.getElem?_eq_getElem (by simpa using hlt)⟩
        have HCY : RowKit.Hid (∀ W, Kept W6 W → W.cell? ⟨W1.heap.size, k, none⟩ = some (.int .i64 y)) := Lib.hid (fun W hW => ((RN.out.kept hW) k (.int .i64 y) (by rw [List.getElem?_map, hy]; rfl)).1)
        have hcy := HCY.out _ hka
        have hlk := cell_lt hcy
        have hi0 : (0 : Int) ≤ (k : Int) := by omega
        have hi1 : (k : Int) < 5 := by omega
        clear hy hka
        go_wp2_with (go_at_call 57; refine (lnumber_any y _).mono ?_; rintro e w4 ⟨rfl, hw4⟩; obtain rfl : wa = w4 := hw4.symm)
        clear hw4 hcy hlk
        go_loopw [12, 13] (fun al i wr => ∃ j : Nat, j ≤ n1 ∧ i = .int .i64 j ∧ al = .bool (inB y 0 100000 && allIn y ((spn rs cs).take j)) ∧ Kept W6 wr) (fun _ i _ => n1 - (intOf i).toNat)
        case atStart => exact ⟨0, by omega, by first | rfl | go_num, by simp [allIn], HKA.out⟩
        case round =>
          obtain ⟨wb, rfl⟩ : ∃ wb, wb = wr := ⟨_, rfl⟩
          obtain ⟨j, hj, rfl, rfl, hkb⟩ := hrel
          have HKB := Lib.hid hkb
          obtain ⟨al, hal⟩ : ∃ al, al = (inB y 0 100000 && allIn y ((spn rs cs).take j)) := ⟨_, rfl⟩
          rw [← hal]
          have HAL := Lib.hid hal
          clear hal
          by_cases hlt3 : j < n1
          · have kw := K1.out.trans hkb
            obtain ⟨r, hr⟩ : ∃ r, rs[j]? = some r := ⟨rs[j]'(by rw [HR.out.1]; omega), List.getElem?_eq_getElem (by rw [HR.out.1]; omega)⟩
            obtain ⟨x, hx⟩ : ∃ x, cs[j]? = some x := ⟨cs[j]'(by rw [HC.out.1]; omega), List.getElem?_eq_getElem (by rw [HC.out.1]; omega)⟩
            have HRK := Lib.hid hr
            have HXK := Lib.hid hx
            have p0 := (kw.cells _ _ (cell_lt (HTR.out j r hr 0 _ rfl))).trans (HTR.out j r hr 0 _ rfl)
            have p1 := (kw.cells _ _ (cell_lt (HTR.out j r hr 1 _ rfl))).trans (HTR.out j r hr 1 _ rfl)
            have q0 := (kw.cells _ _ (cell_lt (HTC.out j x hx 0 _ rfl))).trans (HTC.out j x hx 0 _ rfl)
            have q1 := (kw.cells _ _ (cell_lt (HTC.out j x hx 1 _ rfl))).trans (HTC.out j x hx 1 _ rfl)
            have q2 := (kw.cells _ _ (cell_lt (HTC.out j x hx 2 _ rfl))).trans (HTC.out j x hx 2 _ rfl)
            have q3 := (kw.cells _ _ (cell_lt (HTC.out j x hx 3 _ rfl))).trans (HTC.out j x hx 3 _ rfl)
            have q4 := (kw.cells _ _ (cell_lt (HTC.out j x hx 4 _ rfl))).trans (HTC.out j x hx 4 _ rfl)
            simp only [Nat.add_zero] at p0 q0
            have lp := cell_lt p0
            have lq := cell_lt q0
            clear hr hx
            clear kw hkb
            have hj0 : (0 : Int) ≤ (j : Int) := by omega
            have hj1 : (j : Int) < (n1 : Int) := by omega
            obtain ⟨⟨sl, sh, so⟩, hS⟩ : ∃ S : Iv, S = ocV r x := ⟨_, rfl⟩
            have H26 : RowKit.Hid (∀ W, Calls Try.prog 26 #[.agg #[.int .i64 r.m, .int .i64 r.d], .agg #[.int .i64 x.id, .int .i64 x.dy, .int .i64 x.sh, .int .i64 x.nu, .int .i64 x.wo]] W fun e w' => e = .returned (.tuple #[.agg #[.int .i64 sl, .int .i64 sh, .bool so], .int .i64 0]) ∧ Kept W w') := Lib.hid (fun W => by
              have := ofCount_any r.m r.d x.id x.dy x.sh x.nu x.wo W
              have hg : ocOk r.m r.d x.id x.dy x.sh x.nu x.wo = true := HALLOK.out j r x HRK.out HXK.out
              rw [hg, errI_true] at this
              unfold ocV at hS
              injection hS with h1 h2 h3
              rwa [← h1, ← h2, ← h3] at this)
            go_upto_region 14 with (fail)
            go_cut [14, 15] (fun sa sb wx => ∃ bx, sa = .pointer (some ⟨bx, 0, none⟩) ∧ sb = .int .i64 0 ∧ wb.heap.size ≤ bx ∧ RowC wx bx [.int .i64 sl, .int .i64 sh, .bool so] ∧ Kept wb wx)
            case first =>
              as_aux_lemma =>
              have SB : RowKit.Hid (∀ W, Kept wb W → W.cell? ⟨b, off + j * 2, none⟩ = some (.int .i64 r.m) ∧ W.cell? ⟨b, off + j * 2 + 1, none⟩ = some (.int .i64 r.d) ∧ W.cell? ⟨b2, off2 + j * 5, none⟩ = some (.int .i64 x.id) ∧ W.cell? ⟨b2, off2 + j * 5 + 1, none⟩ = some (.int .i64 x.dy) ∧ W.cell? ⟨b2, off2 + j * 5 + 2, none⟩ = some (.int .i64 x.sh) ∧ W.cell? ⟨b2, off2 + j * 5 + 3, none⟩ = some (.int .i64 x.nu) ∧ W.cell? ⟨b2, off2 + j * 5 + 4, none⟩ = some (.int .i64 x.wo) ∧ Kept wb W) := Lib.hid (fun W hW => ⟨(hW.cells _ _ (cell_lt p0)).trans p0, (hW.cells _ _ (cell_lt p1)).trans p1, (hW.cells _ _ (cell_lt q0)).trans q0, (hW.cells _ _ (cell_lt q1)).trans q1, (hW.cells _ _ (cell_lt q2)).trans q2, (hW.cells _ _ (cell_lt q3)).trans q3, (hW.cells _ _ (cell_lt q4)).trans q4, hW⟩)
              have kd : Kept wb wb.drew := (Kept.refl wb).drew
              have kda : Kept wb ((wb.alloc (.cells #[.int .i64 0, .int .i64 0, .bool false] 34)).drew) := ((Kept.refl wb).alloc _).drew
              have SD := Lib.hid (SB.out _ kd)
              have SDA := Lib.hid (SB.out _ kda)
              go_region_held3 (fun W => W.cell? ⟨b, off + j * 2, none⟩ = some (.int .i64 r.m) ∧ W.cell? ⟨b, off + j * 2 + 1, none⟩ = some (.int .i64 r.d) ∧ W.cell? ⟨b2, off2 + j * 5, none⟩ = some (.int .i64 x.id) ∧ W.cell? ⟨b2, off2 + j * 5 + 1, none⟩ = some (.int .i64 x.dy) ∧ W.cell? ⟨b2, off2 + j * 5 + 2, none⟩ = some (.int .i64 x.sh) ∧ W.cell? ⟨b2, off2 + j * 5 + 3, none⟩ = some (.int .i64 x.nu) ∧ W.cell? ⟨b2, off2 + j * 5 + 4, none⟩ = some (.int .i64 x.wo) ∧ Kept wb W)
                (first
                  | (with_reducible exact SD.out)
                  | (with_reducible exact SDA.out)
                  | (with_reducible exact SB.out _ kk9)
                  | (with_reducible exact SB.out _ (kk9.alloc _))
                  | (with_reducible exact SB.out _ (((kk9.setCell (Nat.le_refl _) _).setCell (Nat.le_refl _) _).setCell (Nat.le_refl _) _))
                  | (with_reducible exact SB.out _ ((((kk9.alloc _).setCell kk9.size _).setCell kk9.size _).setCell kk9.size _))
                  | fail)
                (first
                  | (go_at_call 26; refine (H26.out _).mono ?_; rintro e w9 ⟨rfl, hk9⟩; have kk9 : Kept wb w9 := (by with_reducible exact kd.trans hk9))
                  | (go_at_call 26; refine (H26.out _).mono ?_; rintro e w9 ⟨rfl, hk9⟩; have kk9 : Kept wb w9 := (by with_reducible exact kda.trans hk9); have rz := ((RowC.new wb [.int .i64 0, .int .i64 0, .bool false] 34).drew).kept hk9; have z0 := (rz 0 _ rfl).1; have z1 := (rz 1 _ rfl).1; have z2 := (rz 2 _ rfl).1; have y0 := (rz 0 _ rfl).2; have y1 := (rz 1 _ rfl).2; have y2 := (rz 2 _ rfl).2; have lz := cell_lt z0)
                  | fail)
              all_goals go_wp2
              all_goals go_meet
              all_goals first
                | exact ⟨w9.heap.size, rfl, rfl, kk9.size, RowC.new w9 [.int .i64 sl, .int .i64 sh, .bool so] 34, kk9.alloc _⟩
                | exact ⟨wb.heap.size, rfl, rfl, Nat.le_refl _, by simpa using ((rz.put (j := 0) (by simp) (.int .i64 sl)).put (j := 1) (by simp) (.int .i64 sh)).put (j := 2) (by simp) (.bool so), ((kk9.setCell (Nat.le_refl _) _).setCell (Nat.le_refl _) _).setCell (Nat.le_refl _) _⟩
            obtain ⟨bx, rfl, rfl, hbx, rx, kx⟩ := hcut
            obtain ⟨wd, rfl⟩ : ∃ wd, wd = wc := ⟨_, rfl⟩
            have HSN : RowKit.Hid (allIn y ((spn rs cs).take (j + 1)) = (allIn y ((spn rs cs).take j) && inI sl sh so y)) := Lib.hid (by
              have := allIn_snoc (spn_at HRK.out HXK.out) y
              rwa [← hS] at this)
            have KD := Lib.hid (HKB.out.trans kx)
            have RX := Lib.hid rx
            clear p0 p1 q0 q1 q2 q3 q4 lp lq rx kx hS
            cases al
            · have HSF : RowKit.Hid ((inB y 0 100000 && allIn y ((spn rs cs).take (j + 1))) = false) := Lib.hid (by rw [HSN.out, ← Bool.and_assoc, ← HAL.out]; rfl)
              go_upto_region 17 with (fail)
              go_quiet (fail)
              go_wp2
              go_roundw
              case rel =>
                first
                  | exact ⟨j + 1, by omega, by go_num, by rw [HSF.out], by first | exact KD.out | exact KD.out.drewN _ | exact KD.out.drew⟩
                  | ((repeat apply Exists.intro); exact ⟨⟨j + 1, by omega, by go_num, by rw [HSF.out], by first | exact KD.out | exact KD.out.drewN _ | exact KD.out.drew⟩, rfl⟩)
              case measure => simp [intOf] <;> omega
            · obtain ⟨nx, hnx⟩ : ∃ nx, nx = inI sl sh so y := ⟨_, rfl⟩
              have H58 : RowKit.Hid (∀ W, Calls Try.prog 58 #[.agg #[.int .i64 sl, .int .i64 sh, .bool so], .int .i64 y] W fun e w' => e = .returned (.bool nx) ∧ Kept W w') := Lib.hid (fun W => by rw [hnx]; exact in_any sl sh y so W)
              have HSF : RowKit.Hid ((inB y 0 100000 && allIn y ((spn rs cs).take (j + 1))) = nx) := Lib.hid (by rw [HSN.out, ← Bool.and_assoc, ← HAL.out, hnx]; rfl)
              have SB : RowKit.Hid (∀ W, Kept wd W → W.cell? ⟨bx, 0, none⟩ = some (.int .i64 sl) ∧ W.cell? ⟨bx, 1, none⟩ = some (.int .i64 sh) ∧ W.cell? ⟨bx, 2, none⟩ = some (.bool so) ∧ W.cell? ⟨W1.heap.size, k, none⟩ = some (.int .i64 y) ∧ Kept wd W) := Lib.hid (fun W hW => ⟨((RX.out.kept hW) 0 _ rfl).1, ((RX.out.kept hW) 1 _ rfl).1, ((RX.out.kept hW) 2 _ rfl).1, HCY.out W (KD.out.trans hW), hW⟩)
              clear hnx
              go_upto_region 17 with (fail)
              have SST : RowKit.Hid (∀ W W', (W.cell? ⟨bx, 0, none⟩ = some (.int .i64 sl) ∧ W.cell? ⟨bx, 1, none⟩ = some (.int .i64 sh) ∧ W.cell? ⟨bx, 2, none⟩ = some (.bool so) ∧ W.cell? ⟨W1.heap.size, k, none⟩ = some (.int .i64 y) ∧ Kept wd W) → Kept W W' → W'.cell? ⟨bx, 0, none⟩ = some (.int .i64 sl) ∧ W'.cell? ⟨bx, 1, none⟩ = some (.int .i64 sh) ∧ W'.cell? ⟨bx, 2, none⟩ = some (.bool so) ∧ W'.cell? ⟨W1.heap.size, k, none⟩ = some (.int .i64 y) ∧ Kept wd W') := Lib.hid (fun W W' h hk => SB.out W' (h.2.2.2.2.trans hk))
              have SB1 := Lib.hid (SB.out _ ((Kept.refl wd).drew))
              obtain ⟨z0, z1, z2, zy, -⟩ := SB.out _ (Kept.refl wd)
              have lz := cell_lt z0
              have ly := cell_lt zy
              go_region_held3 (fun W => W.cell? ⟨bx, 0, none⟩ = some (.int .i64 sl) ∧ W.cell? ⟨bx, 1, none⟩ = some (.int .i64 sh) ∧ W.cell? ⟨bx, 2, none⟩ = some (.bool so) ∧ W.cell? ⟨W1.heap.size, k, none⟩ = some (.int .i64 y) ∧ Kept wd W) (first | (with_reducible exact SB1.out) | (with_reducible assumption) | (with_reducible refine SST.out _ _ ?_ hkk; assumption) | fail) (first | fail | (go_at_call 58; refine (H58.out _).mono ?_; rintro e w5 ⟨rfl, hkk⟩))
              rename World => wz
              clear z0 z1 z2 zy lz ly
              obtain ⟨-, -, -, -, hkz⟩ := ‹_ ∧ _›
              go_wp2
              go_roundw
              case rel =>
                first
                  | exact ⟨j + 1, by omega, by go_num, by rw [HSF.out], KD.out.trans hkz⟩
                  | ((repeat apply Exists.intro); exact ⟨⟨j + 1, by omega, by go_num, by rw [HSF.out], KD.out.trans hkz⟩, rfl⟩)
              case measure => simp [intOf] <;> omega
          · obtain rfl : j = n1 := by omega
            have htk : (spn rs cs).take j = spn rs cs := List.take_of_length_le (by rw [HSL.out]; exact Nat.le_refl _)
            have hal2 : inI xa xb xs y = al := by
              have h7 := all_fold (l := spn rs cs) spn_good y
              rw [← HXE.out] at h7
              have h8 := HAL.out
              rw [htk] at h8
              rw [h8]; exact h7
            have H58 : RowKit.Hid (∀ W, Calls Try.prog 58 #[.agg #[.int .i64 xa, .int .i64 xb, .bool xs], .int .i64 y] W fun e w' => e = .returned (.bool al) ∧ Kept W w') := Lib.hid (fun W => by rw [← hal2]; exact in_any xa xb y xs W)
            have SB : RowKit.Hid (∀ W, Kept wb W → W.cell? ⟨w1.heap.size, 0, none⟩ = some (.int .i64 xa) ∧ W.cell? ⟨w1.heap.size, 1, none⟩ = some (.int .i64 xb) ∧ W.cell? ⟨w1.heap.size, 2, none⟩ = some (.bool xs) ∧ W.cell? ⟨W1.heap.size, k, none⟩ = some (.int .i64 y) ∧ Kept wb W) := Lib.hid (fun W hW => ⟨((R1.out.kept (HKB.out.trans hW)) 0 _ rfl).1, ((R1.out.kept (HKB.out.trans hW)) 1 _ rfl).1, ((R1.out.kept (HKB.out.trans hW)) 2 _ rfl).1, HCY.out W (HKB.out.trans hW), hW⟩)
            clear htk hal2 hkb
            cases al
            all_goals
              go_upto_region 18 with (fail)
              have SST : RowKit.Hid (∀ W W', (W.cell? ⟨w1.heap.size, 0, none⟩ = some (.int .i64 xa) ∧ W.cell? ⟨w1.heap.size, 1, none⟩ = some (.int .i64 xb) ∧ W.cell? ⟨w1.heap.size, 2, none⟩ = some (.bool xs) ∧ W.cell? ⟨W1.heap.size, k, none⟩ = some (.int .i64 y) ∧ Kept wb W) → Kept W W' → W'.cell? ⟨w1.heap.size, 0, none⟩ = some (.int .i64 xa) ∧ W'.cell? ⟨w1.heap.size, 1, none⟩ = some (.int .i64 xb) ∧ W'.cell? ⟨w1.heap.size, 2, none⟩ = some (.bool xs) ∧ W'.cell? ⟨W1.heap.size, k, none⟩ = some (.int .i64 y) ∧ Kept wb W') := Lib.hid (fun W W' h hk => SB.out W' (h.2.2.2.2.trans hk))
              have SB1 := Lib.hid (SB.out _ ((Kept.refl wb).drew))
              obtain ⟨z0, z1, z2, zy, -⟩ := SB.out _ (Kept.refl wb)
              have lz := cell_lt z0
              have ly := cell_lt zy
              go_region_held3 (fun W => W.cell? ⟨w1.heap.size, 0, none⟩ = some (.int .i64 xa) ∧ W.cell? ⟨w1.heap.size, 1, none⟩ = some (.int .i64 xb) ∧ W.cell? ⟨w1.heap.size, 2, none⟩ = some (.bool xs) ∧ W.cell? ⟨W1.heap.size, k, none⟩ = some (.int .i64 y) ∧ Kept wb W) (first | (with_reducible exact SB1.out) | (with_reducible assumption) | (with_reducible refine SST.out _ _ ?_ hkk; assumption) | fail) (first | fail | (go_at_call 58; refine (H58.out _).mono ?_; rintro e w5 ⟨rfl, hkk⟩))
              rename World => wz
              clear z0 z1 z2 zy lz ly
              obtain ⟨-, -, -, -, hkz⟩ := ‹_ ∧ _›
              go_wp2
              go_roundw
              case rel =>
                first
                  | exact ⟨k + 1, by omega, by go_num, HKB.out.trans hkz⟩
                  | ((repeat apply Exists.intro); exact ⟨⟨k + 1, by omega, by go_num, HKB.out.trans hkz⟩, rfl⟩)
              case measure => simp [intOf] <;> omega
      · obtain rfl : k = 5 := by omega
        have RX := Lib.hid (R1.out.kept hka)
        have IX := Lib.hid (I1.out.kept hka)
        have KX := Lib.hid (K1.out.trans hka)
        have x0 := (RX.out 0 _ rfl).1
        have x1 := (RX.out 1 _ rfl).1
        have x2 := (RX.out 2 _ rfl).1
        have lx := cell_lt x0
        clear hka
        cases xs
        · have hids : ∃ (i j : Nat) (s t : Iv), ids = [(i : Int), (j : Int)] ∧ i ≤ j ∧ (spn rs cs)[i]? = some s ∧ (spn rs cs)[j]? = some t ∧ emI (bV s t) = true := by
            rcases HAP.out with ⟨i, j, s, t, h1, h2, h3, h4, h5, _⟩ | ⟨_, h⟩
            · exact ⟨i, j, s, t, h1, h2, h3, h4, h5⟩
            · have h9 := pairs_some HNE.out spn_good h
              rw [← HXE.out] at h9
              cases h9
          obtain ⟨i, j, s, t, rfl, hij, hsi, htj, hem⟩ := hids
          have hjn : j < n1 := by have h9 := (List.getElem?_eq_some_iff.1 htj).1; rw [HSL.out] at h9; exact h9
          obtain rfl : n2 = 2 := by rw [← IX.out.1]; rfl
          obtain ⟨bp, op, hA1, hpt⟩ := IX.out.2.2.2 (by omega)
          subst hA1
          have hc22 := IX.out.2.1
          have hc23 := IX.out.2.2.1
          have HPT := Lib.hid hpt
          have HSI := Lib.hid hsi
          have HTJ := Lib.hid htj
          have HEM := Lib.hid hem
          have g0 := hpt 0 _ rfl
          have g1 := hpt 1 _ rfl
          simp only [Nat.add_zero] at g0
          have lg := cell_lt g0
          clear hpt hsi htj hem
          have hii0 : (0 : Int) ≤ (i : Int) := by omega
          have hii1 : (i : Int) < (n1 : Int) := by omega
          have hjj0 : (0 : Int) ≤ (j : Int) := by omega
          have hjj1 : (j : Int) < (n1 : Int) := by omega
          have hd1 : decide ((i : Int) < 0) = false := decide_eq_false (by omega)
          have hd2 : decide ((j : Int) < (i : Int)) = false := decide_eq_false (by omega)
          have hd3 : decide ((n1 : Int) ≤ (j : Int)) = false := decide_eq_false (by omega)
          go_upto_region 22 with (fail)
          go_cut [142] (fun s142 wx => s142 = .bool false ∧ Kept wa wx)
          case first =>
            go_quiet (fail)
            go_wp2
            go_meet
            exact ⟨by simp; omega, by first | exact Kept.refl _ | exact (Kept.refl _).drewN _ | exact (Kept.refl _).drew⟩
          obtain ⟨rfl, k22⟩ := hcut
          obtain ⟨we, rfl⟩ : ∃ we, we = wc := ⟨_, rfl⟩
          have KE := Lib.hid (KX.out.trans k22)
          replace g0 := (k22.cells _ _ lg).trans g0
          replace g1 := (k22.cells _ _ lg).trans g1
          replace lg := cell_lt g0
          clear k22 x0 x1 x2 lx hd1 hd2 hd3
          have kw := KE.out
          obtain ⟨r, hr⟩ : ∃ r, rs[i]? = some r := ⟨rs[i]'(by rw [HR.out.1]; omega), List.getElem?_eq_getElem (by rw [HR.out.1]; omega)⟩
          obtain ⟨x, hx⟩ : ∃ x, cs[i]? = some x := ⟨cs[i]'(by rw [HC.out.1]; omega), List.getElem?_eq_getElem (by rw [HC.out.1]; omega)⟩
          have HRK := Lib.hid hr
          have HXK := Lib.hid hx
          have p0 := (kw.cells _ _ (cell_lt (HTR.out i r hr 0 _ rfl))).trans (HTR.out i r hr 0 _ rfl)
          have p1 := (kw.cells _ _ (cell_lt (HTR.out i r hr 1 _ rfl))).trans (HTR.out i r hr 1 _ rfl)
          have q0 := (kw.cells _ _ (cell_lt (HTC.out i x hx 0 _ rfl))).trans (HTC.out i x hx 0 _ rfl)
          have q1 := (kw.cells _ _ (cell_lt (HTC.out i x hx 1 _ rfl))).trans (HTC.out i x hx 1 _ rfl)
          have q2 := (kw.cells _ _ (cell_lt (HTC.out i x hx 2 _ rfl))).trans (HTC.out i x hx 2 _ rfl)
          have q3 := (kw.cells _ _ (cell_lt (HTC.out i x hx 3 _ rfl))).trans (HTC.out i x hx 3 _ rfl)
          have q4 := (kw.cells _ _ (cell_lt (HTC.out i x hx 4 _ rfl))).trans (HTC.out i x hx 4 _ rfl)
          simp only [Nat.add_zero] at p0 q0
          have lp := cell_lt p0
          have lq := cell_lt q0
          clear hr hx
          obtain ⟨⟨sl, sh, so⟩, hS⟩ : ∃ S : Iv, S = ocV r x := ⟨_, rfl⟩
          have H26 : RowKit.Hid (∀ W, Calls Try.prog 26 #[.agg #[.int .i64 r.m, .int .i64 r.d], .agg #[.int .i64 x.id, .int .i64 x.dy, .int .i64 x.sh, .int .i64 x.nu, .int .i64 x.wo]] W fun e w' => e = .returned (.tuple #[.agg #[.int .i64 sl, .int .i64 sh, .bool so], .int .i64 0]) ∧ Kept W w') := Lib.hid (fun W => by
            have := ofCount_any r.m r.d x.id x.dy x.sh x.nu x.wo W
            have hg : ocOk r.m r.d x.id x.dy x.sh x.nu x.wo = true := HALLOK.out i r x HRK.out HXK.out
            rw [hg, errI_true] at this
            unfold ocV at hS
            injection hS with h1 h2 h3
            rwa [← h1, ← h2, ← h3] at this)
          obtain ⟨r2, hrb⟩ : ∃ r2, rs[j]? = some r2 := ⟨rs[j]'(by rw [HR.out.1]; omega), List.getElem?_eq_getElem (by rw [HR.out.1]; omega)⟩
          obtain ⟨x2, hxb⟩ : ∃ x2, cs[j]? = some x2 := ⟨cs[j]'(by rw [HC.out.1]; omega), List.getElem?_eq_getElem (by rw [HC.out.1]; omega)⟩
          have HRKb := Lib.hid hrb
          have HXKb := Lib.hid hxb
          have pb0 := (kw.cells _ _ (cell_lt (HTR.out j r2 hrb 0 _ rfl))).trans (HTR.out j r2 hrb 0 _ rfl)
          have pb1 := (kw.cells _ _ (cell_lt (HTR.out j r2 hrb 1 _ rfl))).trans (HTR.out j r2 hrb 1 _ rfl)
          have qb0 := (kw.cells _ _ (cell_lt (HTC.out j x2 hxb 0 _ rfl))).trans (HTC.out j x2 hxb 0 _ rfl)
          have qb1 := (kw.cells _ _ (cell_lt (HTC.out j x2 hxb 1 _ rfl))).trans (HTC.out j x2 hxb 1 _ rfl)
          have qb2 := (kw.cells _ _ (cell_lt (HTC.out j x2 hxb 2 _ rfl))).trans (HTC.out j x2 hxb 2 _ rfl)
          have qb3 := (kw.cells _ _ (cell_lt (HTC.out j x2 hxb 3 _ rfl))).trans (HTC.out j x2 hxb 3 _ rfl)
          have qb4 := (kw.cells _ _ (cell_lt (HTC.out j x2 hxb 4 _ rfl))).trans (HTC.out j x2 hxb 4 _ rfl)
          simp only [Nat.add_zero] at pb0 qb0
          have lpb := cell_lt pb0
          have lqb := cell_lt qb0
          clear hrb hxb
          clear kw
          obtain ⟨⟨slb, shb, sob⟩, hSb⟩ : ∃ S : Iv, S = ocV r2 x2 := ⟨_, rfl⟩
          have H26b : RowKit.Hid (∀ W, Calls Try.prog 26 #[.agg #[.int .i64 r2.m, .int .i64 r2.d], .agg #[.int .i64 x2.id, .int .i64 x2.dy, .int .i64 x2.sh, .int .i64 x2.nu, .int .i64 x2.wo]] W fun e w' => e = .returned (.tuple #[.agg #[.int .i64 slb, .int .i64 shb, .bool sob], .int .i64 0]) ∧ Kept W w') := Lib.hid (fun W => by
            have := ofCount_any r2.m r2.d x2.id x2.dy x2.sh x2.nu x2.wo W
            have hg : ocOk r2.m r2.d x2.id x2.dy x2.sh x2.nu x2.wo = true := HALLOK.out j r2 x2 HRKb.out HXKb.out
            rw [hg, errI_true] at this
            unfold ocV at hSb
            injection hSb with h1 h2 h3
            rwa [← h1, ← h2, ← h3] at this)
          go_upto_region 24 with (fail)
          go_cut [16, 17] (fun sa sb wx => ∃ bx, sa = .pointer (some ⟨bx, 0, none⟩) ∧ sb = .int .i64 0 ∧ we.heap.size ≤ bx ∧ RowC wx bx [.int .i64 sl, .int .i64 sh, .bool so] ∧ Kept we wx)
          case first =>
            as_aux_lemma =>
            have SB : RowKit.Hid (∀ W, Kept we W → W.cell? ⟨bp, op, none⟩ = some (.int .i64 i) ∧ W.cell? ⟨b, off + i * 2, none⟩ = some (.int .i64 r.m) ∧ W.cell? ⟨b, off + i * 2 + 1, none⟩ = some (.int .i64 r.d) ∧ W.cell? ⟨b2, off2 + i * 5, none⟩ = some (.int .i64 x.id) ∧ W.cell? ⟨b2, off2 + i * 5 + 1, none⟩ = some (.int .i64 x.dy) ∧ W.cell? ⟨b2, off2 + i * 5 + 2, none⟩ = some (.int .i64 x.sh) ∧ W.cell? ⟨b2, off2 + i * 5 + 3, none⟩ = some (.int .i64 x.nu) ∧ W.cell? ⟨b2, off2 + i * 5 + 4, none⟩ = some (.int .i64 x.wo) ∧ Kept we W) := Lib.hid (fun W hW => ⟨(hW.cells _ _ (cell_lt g0)).trans g0, (hW.cells _ _ (cell_lt p0)).trans p0, (hW.cells _ _ (cell_lt p1)).trans p1, (hW.cells _ _ (cell_lt q0)).trans q0, (hW.cells _ _ (cell_lt q1)).trans q1, (hW.cells _ _ (cell_lt q2)).trans q2, (hW.cells _ _ (cell_lt q3)).trans q3, (hW.cells _ _ (cell_lt q4)).trans q4, hW⟩)
            have kd : Kept we we.drew := (Kept.refl we).drew
            have kda : Kept we ((we.alloc (.cells #[.int .i64 0, .int .i64 0, .bool false] 34)).drew) := ((Kept.refl we).alloc _).drew
            have SD := Lib.hid (SB.out _ kd)
            have SDA := Lib.hid (SB.out _ kda)
            go_region_held3 (fun W => W.cell? ⟨bp, op, none⟩ = some (.int .i64 i) ∧ W.cell? ⟨b, off + i * 2, none⟩ = some (.int .i64 r.m) ∧ W.cell? ⟨b, off + i * 2 + 1, none⟩ = some (.int .i64 r.d) ∧ W.cell? ⟨b2, off2 + i * 5, none⟩ = some (.int .i64 x.id) ∧ W.cell? ⟨b2, off2 + i * 5 + 1, none⟩ = some (.int .i64 x.dy) ∧ W.cell? ⟨b2, off2 + i * 5 + 2, none⟩ = some (.int .i64 x.sh) ∧ W.cell? ⟨b2, off2 + i * 5 + 3, none⟩ = some (.int .i64 x.nu) ∧ W.cell? ⟨b2, off2 + i * 5 + 4, none⟩ = some (.int .i64 x.wo) ∧ Kept we W)
              (first
                | (with_reducible exact SD.out)
                | (with_reducible exact SDA.out)
                | (with_reducible exact SB.out _ kk9)
                | (with_reducible exact SB.out _ (kk9.alloc _))
                | (with_reducible exact SB.out _ (((kk9.setCell (Nat.le_refl _) _).setCell (Nat.le_refl _) _).setCell (Nat.le_refl _) _))
                | (with_reducible exact SB.out _ ((((kk9.alloc _).setCell kk9.size _).setCell kk9.size _).setCell kk9.size _))
                | fail)
              (first
                | (go_at_call 26; refine (H26.out _).mono ?_; rintro e w9 ⟨rfl, hk9⟩; have kk9 : Kept we w9 := (by with_reducible exact kd.trans hk9))
                | (go_at_call 26; refine (H26.out _).mono ?_; rintro e w9 ⟨rfl, hk9⟩; have kk9 : Kept we w9 := (by with_reducible exact kda.trans hk9); have rz := ((RowC.new we [.int .i64 0, .int .i64 0, .bool false] 34).drew).kept hk9; have z0 := (rz 0 _ rfl).1; have z1 := (rz 1 _ rfl).1; have z2 := (rz 2 _ rfl).1; have y0 := (rz 0 _ rfl).2; have y1 := (rz 1 _ rfl).2; have y2 := (rz 2 _ rfl).2; have lz := cell_lt z0)
                | fail)
            all_goals go_wp2
            all_goals go_meet
            all_goals first
              | exact ⟨w9.heap.size, rfl, rfl, kk9.size, RowC.new w9 [.int .i64 sl, .int .i64 sh, .bool so] 34, kk9.alloc _⟩
              | exact ⟨we.heap.size, rfl, rfl, Nat.le_refl _, by simpa using ((rz.put (j := 0) (by simp) (.int .i64 sl)).put (j := 1) (by simp) (.int .i64 sh)).put (j := 2) (by simp) (.bool so), ((kk9.setCell (Nat.le_refl _) _).setCell (Nat.le_refl _) _).setCell (Nat.le_refl _) _⟩
          obtain ⟨bx, rfl, rfl, hbx, rx, kx⟩ := hcut
          obtain ⟨wf, rfl⟩ : ∃ wf, wf = wc := ⟨_, rfl⟩
          have RS := Lib.hid rx
          have KF := Lib.hid (KE.out.trans kx)
          replace g0 := (kx.cells _ _ lg).trans g0
          replace g1 := (kx.cells _ _ lg).trans g1
          replace lg := cell_lt g0
          replace pb0 := (kx.cells _ _ lpb).trans pb0
          replace pb1 := (kx.cells _ _ lpb).trans pb1
          replace qb0 := (kx.cells _ _ lqb).trans qb0
          replace qb1 := (kx.cells _ _ lqb).trans qb1
          replace qb2 := (kx.cells _ _ lqb).trans qb2
          replace qb3 := (kx.cells _ _ lqb).trans qb3
          replace qb4 := (kx.cells _ _ lqb).trans qb4
          replace lpb := cell_lt pb0
          replace lqb := cell_lt qb0
          clear rx kx p0 p1 q0 q1 q2 q3 q4 lp lq
          go_upto_region 25 with (fail)
          go_cut [18, 19] (fun sa sb wx => ∃ bx, sa = .pointer (some ⟨bx, 0, none⟩) ∧ sb = .int .i64 0 ∧ wf.heap.size ≤ bx ∧ RowC wx bx [.int .i64 slb, .int .i64 shb, .bool sob] ∧ Kept wf wx)
          case first =>
            as_aux_lemma =>
            have SB : RowKit.Hid (∀ W, Kept wf W → W.cell? ⟨bp, op + 1, none⟩ = some (.int .i64 j) ∧ W.cell? ⟨b, off + j * 2, none⟩ = some (.int .i64 r2.m) ∧ W.cell? ⟨b, off + j * 2 + 1, none⟩ = some (.int .i64 r2.d) ∧ W.cell? ⟨b2, off2 + j * 5, none⟩ = some (.int .i64 x2.id) ∧ W.cell? ⟨b2, off2 + j * 5 + 1, none⟩ = some (.int .i64 x2.dy) ∧ W.cell? ⟨b2, off2 + j * 5 + 2, none⟩ = some (.int .i64 x2.sh) ∧ W.cell? ⟨b2, off2 + j * 5 + 3, none⟩ = some (.int .i64 x2.nu) ∧ W.cell? ⟨b2, off2 + j * 5 + 4, none⟩ = some (.int .i64 x2.wo) ∧ Kept wf W) := Lib.hid (fun W hW => ⟨(hW.cells _ _ (cell_lt g1)).trans g1, (hW.cells _ _ (cell_lt pb0)).trans pb0, (hW.cells _ _ (cell_lt pb1)).trans pb1, (hW.cells _ _ (cell_lt qb0)).trans qb0, (hW.cells _ _ (cell_lt qb1)).trans qb1, (hW.cells _ _ (cell_lt qb2)).trans qb2, (hW.cells _ _ (cell_lt qb3)).trans qb3, (hW.cells _ _ (cell_lt qb4)).trans qb4, hW⟩)
            have kd : Kept wf wf.drew := (Kept.refl wf).drew
            have kda : Kept wf ((wf.alloc (.cells #[.int .i64 0, .int .i64 0, .bool false] 34)).drew) := ((Kept.refl wf).alloc _).drew
            have SD := Lib.hid (SB.out _ kd)
            have SDA := Lib.hid (SB.out _ kda)
            go_region_held3 (fun W => W.cell? ⟨bp, op + 1, none⟩ = some (.int .i64 j) ∧ W.cell? ⟨b, off + j * 2, none⟩ = some (.int .i64 r2.m) ∧ W.cell? ⟨b, off + j * 2 + 1, none⟩ = some (.int .i64 r2.d) ∧ W.cell? ⟨b2, off2 + j * 5, none⟩ = some (.int .i64 x2.id) ∧ W.cell? ⟨b2, off2 + j * 5 + 1, none⟩ = some (.int .i64 x2.dy) ∧ W.cell? ⟨b2, off2 + j * 5 + 2, none⟩ = some (.int .i64 x2.sh) ∧ W.cell? ⟨b2, off2 + j * 5 + 3, none⟩ = some (.int .i64 x2.nu) ∧ W.cell? ⟨b2, off2 + j * 5 + 4, none⟩ = some (.int .i64 x2.wo) ∧ Kept wf W)
              (first
                | (with_reducible exact SD.out)
                | (with_reducible exact SDA.out)
                | (with_reducible exact SB.out _ kk9)
                | (with_reducible exact SB.out _ (kk9.alloc _))
                | (with_reducible exact SB.out _ (((kk9.setCell (Nat.le_refl _) _).setCell (Nat.le_refl _) _).setCell (Nat.le_refl _) _))
                | (with_reducible exact SB.out _ ((((kk9.alloc _).setCell kk9.size _).setCell kk9.size _).setCell kk9.size _))
                | fail)
              (first
                | (go_at_call 26; refine (H26b.out _).mono ?_; rintro e w9 ⟨rfl, hk9⟩; have kk9 : Kept wf w9 := (by with_reducible exact kd.trans hk9))
                | (go_at_call 26; refine (H26b.out _).mono ?_; rintro e w9 ⟨rfl, hk9⟩; have kk9 : Kept wf w9 := (by with_reducible exact kda.trans hk9); have rz := ((RowC.new wf [.int .i64 0, .int .i64 0, .bool false] 34).drew).kept hk9; have z0 := (rz 0 _ rfl).1; have z1 := (rz 1 _ rfl).1; have z2 := (rz 2 _ rfl).1; have y0 := (rz 0 _ rfl).2; have y1 := (rz 1 _ rfl).2; have y2 := (rz 2 _ rfl).2; have lz := cell_lt z0)
                | fail)
            all_goals go_wp2
            all_goals go_meet
            all_goals first
              | exact ⟨w9.heap.size, rfl, rfl, kk9.size, RowC.new w9 [.int .i64 slb, .int .i64 shb, .bool sob] 34, kk9.alloc _⟩
              | exact ⟨wf.heap.size, rfl, rfl, Nat.le_refl _, by simpa using ((rz.put (j := 0) (by simp) (.int .i64 slb)).put (j := 1) (by simp) (.int .i64 shb)).put (j := 2) (by simp) (.bool sob), ((kk9.setCell (Nat.le_refl _) _).setCell (Nat.le_refl _) _).setCell (Nat.le_refl _) _⟩
          obtain ⟨by', rfl, rfl, hby, ry, ky⟩ := hcut
          obtain ⟨wg, rfl⟩ : ∃ wg, wg = wc := ⟨_, rfl⟩
          have RT := Lib.hid ry
          have RS2 := Lib.hid (RS.out.kept ky)
          have KG := Lib.hid (KF.out.trans ky)
          have hgS : goodV ⟨sl, sh, so⟩ := by rw [hS]; exact ocV_ok r x
          have hgT : goodV ⟨slb, shb, sob⟩ := by rw [hSb]; exact ocV_ok r2 x2
          have e1 : s = ⟨sl, sh, so⟩ := by
            have h9 := spn_at HRK.out HXK.out
            rw [HSI.out] at h9
            injection h9 with h9
            rw [h9, hS]
          have e2 : t = ⟨slb, shb, sob⟩ := by
            have h9 := spn_at HRKb.out HXKb.out
            rw [HTJ.out] at h9
            injection h9 with h9
            rw [h9, hSb]
          have H33 : RowKit.Hid (∀ W, Calls Try.prog 33 #[.agg #[.int .i64 sl, .int .i64 sh, .bool so], .agg #[.int .i64 slb, .int .i64 shb, .bool sob]] W fun e w' => e = .returned (.agg #[.int .i64 (bV ⟨sl, sh, so⟩ ⟨slb, shb, sob⟩).lo, .int .i64 (bV ⟨sl, sh, so⟩ ⟨slb, shb, sob⟩).hi, .bool false]) ∧ Kept W w') := Lib.hid (fun W => by
            have h9 := both_any sl sh so slb shb sob W
            have h10 : (bV ⟨sl, sh, so⟩ ⟨slb, shb, sob⟩).so = false := by
              have h11 := HEM.out
              rw [e1, e2, emp_good (bV_good hgS hgT).1] at h11
              simpa using h11
            rw [show bothX sl sh so slb shb sob = bothI sl sh so slb shb sob by unfold bothX; rw [if_pos ⟨good_valid hgS, good_valid hgT⟩]] at h9
            rw [← h10]
            exact h9)
          obtain ⟨za, hza⟩ : ∃ za, za = (bV ⟨sl, sh, so⟩ ⟨slb, shb, sob⟩).lo := ⟨_, rfl⟩
          obtain ⟨zb, hzb⟩ : ∃ zb, zb = (bV ⟨sl, sh, so⟩ ⟨slb, shb, sob⟩).hi := ⟨_, rfl⟩
          rw [← hza, ← hzb] at H33
          clear ry ky hgS hgT hS hSb pb0 pb1 qb0 qb1 qb2 qb3 qb4 lpb lqb g0 g1 lg e1 e2 hza hzb
          go_wp2_with fail
          refine (counted_any _).mono ?_
          rintro e w10 ⟨rfl, hk10⟩
          have s0 := (RS2.out.kept hk10 0 _ rfl).1
          have s1 := (RS2.out.kept hk10 1 _ rfl).1
          have s2 := (RS2.out.kept hk10 2 _ rfl).1
          have t0 := (RT.out.kept hk10 0 _ rfl).1
          have t1 := (RT.out.kept hk10 1 _ rfl).1
          have t2 := (RT.out.kept hk10 2 _ rfl).1
          have ls := cell_lt s0
          have lt := cell_lt t0
          go_wp2_with fail
          refine (H33.out _).mono ?_
          rintro e w11 ⟨rfl, hk11⟩
          go_wp2
          go_ret
          exact ⟨by simp, KG.out.trans (hk10.trans hk11)⟩
        · have hso : (foldB a100 (spn rs cs)).so = true := by rw [← HXE.out]
          obtain rfl := some_none spn_good hso HAP.out
          obtain rfl : n2 = 0 := by rw [← IX.out.1]; rfl
          clear hso
          go_wp2_with fail
          refine (counted_any _).mono ?_
          rintro e w10 ⟨rfl, hk10⟩
          go_wp2
          go_ret
          exact ⟨by simp, KX.out.trans hk10⟩
  · have herb : (er == 0) = false := by simpa using her
    obtain ⟨hx, rfl⟩ : (⟨xa, xb, xs⟩ : Iv) = iv0 ∧ ids = [] := by
      rcases hp1 with ⟨_, _, h3, h4⟩ | ⟨_, _, _, h3, h4⟩ | ⟨h, _⟩
      · exact ⟨h3, h4⟩
      · exact ⟨h3, h4⟩
      · exact absurd h her
    injection hx with e1 e2 e3
    subst e1 e2 e3
    obtain rfl : n2 = 0 := by rw [← I1.out.1]; rfl
    go_upto_region 4 with (fail)
    rw [← HW1.out]
    clear hp1 P1
    go_wp2_with fail
    refine (counted_any _).mono ?_
    rintro e w2 ⟨rfl, hk2⟩
    have x0 := (R1.out.kept hk2 0 _ rfl).1
    have x1 := (R1.out.kept hk2 1 _ rfl).1
    have x2 := (R1.out.kept hk2 2 _ rfl).1
    go_wp2
    go_ret
    exact ⟨by simp, K1.out.trans hk2⟩
end Go.Proofs.Ytjaicilnlgjdcaa
