/- a slice of records of the call's own; Sum -/
import Derived.Test.YtjaicilnlgjdcaaVp
import Derived.Test.YtjaicilnlgjdcaaUh
import Derived.Maps.AppendAt
import Derived.WalkSpells
namespace Go.Proofs.Ytjaicilnlgjdcaa
set_option linter.all false
open Go.RowKit Go.Shelf

theorem info83 : (Try.prog.info? 83).map (fun i => (i.zero, i.size, i.bytes)) = some (some (.agg #[.int .i64 0, .int .i64 0, .bool false]), 3, 24) := by kernel_rfl
theorem flatK_len {α : Type} {cl : α → List Value} {k : Nat} (hk : ∀ x, (cl x).length = k) (xs : List α) : (xs.flatMap cl).length = xs.length * k := by
  induction xs with
  | nil => simp
  | cons x xs ih => rw [List.flatMap_cons, List.length_append, ih, List.length_cons, hk, Nat.add_mul]; omega
theorem flatK_at {α : Type} {cl : α → List Value} {k : Nat} (hk : ∀ x, (cl x).length = k) : ∀ (xs : List α) (i j : Nat) (x : α), xs[i]? = some x → j < k → (xs.flatMap cl)[i * k + j]? = (cl x)[j]?
  | [], _, _, _, h, _ => by simp at h
  | y :: ys, 0, j, x, h, hj => by
    simp at h
    subst h
    rw [List.flatMap_cons, List.getElem?_append_left (by rw [hk]; omega)]
    simp
  | y :: ys, i + 1, j, x, h, hj => by
    have ih := flatK_at hk ys i j x (by simpa using h) hj
    rw [List.flatMap_cons, List.getElem?_append_right (by rw [hk, Nat.add_mul]; omega), ← ih]
    congr 1
    rw [hk, Nat.add_mul]
    omega
theorem own_sliK {α : Type} {cl : α → List Value} {k : Nat} (hk : ∀ x, (cl x).length = k) (hk0 : 0 < k) {w : World} {base n c : Nat} {e : TypeId} {A : Option Addr} {xs : List α} (h : w.ownsRow base e k (.slice A n c) n (xs.flatMap cl)) : SliK k cl w A n c xs := by
  have hlen : (xs.flatMap cl).length = n * k := h.1
  rw [flatK_len hk] at hlen
  have hn : xs.length = n := Nat.eq_of_mul_eq_mul_right hk0 hlen
  rcases h.2 with ⟨h1, h2⟩ | ⟨g, cap, cur, h1, _, hg, hnc, hc, hs, ht⟩
  · cases h1; exact ⟨hn, by omega, by omega, fun h => by omega⟩
  · cases h1
    refine ⟨hn, hnc, by unfold maxLen at hc; exact hc, fun _ => ⟨g, 0, rfl, fun i x hx j v hv => ?_⟩⟩
    have hi : i < n := by rw [← hn]; exact (List.getElem?_eq_some_iff.1 hx).1
    have hj : j < k := by rw [← hk x]; exact (List.getElem?_eq_some_iff.1 hv).1
    have hlt : i * k + j < n * k := by
      have : (i + 1) * k ≤ n * k := Nat.mul_le_mul_right k hi
      rw [Nat.add_mul] at this
      omega
    rw [show 0 + i * k + j = i * k + j by omega, h.cellAt (i * k + j) hlt, flatK_at hk xs i j x hx hj, hv]
theorem own_outK {α : Type} {cl : α → List Value} {k : Nat} (hk : ∀ x, (cl x).length = k) (hk0 : 0 < k) {w : World} {base n : Nat} {e : TypeId} {v : Value} {xs : List α} (h : w.ownsRow base e k v n (xs.flatMap cl)) : ∃ A c, v = .slice A n c ∧ SliK k cl w A n c xs := by
  rcases h.2 with ⟨h1, h2⟩ | ⟨g, cap, cur, h1, _⟩
  · subst h1; subst h2; exact ⟨_, _, rfl, own_sliK hk hk0 h⟩
  · subst h1; exact ⟨_, _, rfl, own_sliK hk hk0 h⟩
theorem own_row {w : World} {base n size : Nat} {e : TypeId} {v : Value} {xs : List Value} (h : w.ownsRow base e size v n xs) : ∀ j, v.ownBlock = some j → base ≤ j := fun j ej => by
  rcases h.2 with ⟨rfl, _⟩ | ⟨g, cap, cur, rfl, hb, _, _⟩
  · simp [Value.ownBlock] at ej
  · obtain rfl : g = j := by simpa [Value.ownBlock] using ej
    exact hb
theorem own_kept {w w' : World} {b : Nat} {e : TypeId} {s : Nat} {v : Value} {n : Nat} {ys : List Value} (h : w.ownsRow b e s v n ys) (hk : Kept w w') : w'.ownsRow b e s v n ys := by
  obtain ⟨h1, h2⟩ := h
  refine ⟨h1, ?_⟩
  rcases h2 with h | ⟨g, c, cur, k1, k2, k3, k4⟩
  · exact .inl h
  · exact .inr ⟨g, c, cur, k1, k2, (hk.block g (Array.getElem?_eq_some_iff.1 k3).1).trans k3, k4⟩
theorem iv_emp : ∀ (l : List Iv), ivOk l = true → l.any emI = !ivSo l
  | [], _ => rfl
  | x :: l, h => by
    unfold ivOk at h
    rw [List.all_cons, Bool.and_eq_true] at h
    have ih := iv_emp l h.2
    unfold ivSo at ih ⊢
    rw [List.any_cons, List.all_cons, ih]
    obtain ⟨xl, xh, xo⟩ := x
    have h1 := h.1
    unfold emI
    dsimp only at h1 ⊢
    unfold validB empB at h1
    unfold empB
    cases xo <;> simp at h1 ⊢
    rw [h1.1, h1.2]; simp
theorem iv_len (x : Iv) : (ivCells x).length = 3 := rfl

set_option maxRecDepth 100000 in
set_option maxHeartbeats 4000000 in
theorem sum_any (A : Option Addr) (n c : Nat) (xs : List Iv) (w : World) (hT : SliK 3 ivCells w A n c xs) (hlt : n ≤ 1000000) :
    Calls Try.prog 31 #[.slice A n c] w fun e w' => e = .returned (.tuple #[.agg #[.int .i64 ((sumX xs).1).1, .int .i64 ((sumX xs).1).2.1, .bool ((sumX xs).1).2.2], .int .i64 (sumX xs).2]) ∧ Kept w w' := by
  have hmf : ∀ (fn : Fn) (first cap : Array Value) (w : World), (Instr.makeFunc fn first cap).run Try.prog w = .ok (.func fn first cap) w := fun _ _ _ _ => rfl
  have HT := Lib.hid hT
  have hnc := hT.2.1
  have hcm := hT.2.2.1
  clear hT
  obtain ⟨i0, hi0, hz0, hz1, hz2⟩ := info_parts info83
  obtain ⟨W0, hW0⟩ : ∃ W0, W0 = (w.alloc (.cells #[.int .i64 0, .int .i64 0, .bool false] 34)).alloc (.cells #[.int .i64 0] 26) := ⟨_, rfl⟩
  have k0 : Kept w W0 := by rw [hW0]; exact ((Kept.refl _).alloc _).alloc _
  have r0 : RowC W0 w.heap.size [.int .i64 0, .int .i64 0, .bool false] := by rw [hW0]; exact (RowC.new w [.int .i64 0, .int .i64 0, .bool false] 34).kept ((Kept.refl _).alloc _)
  have r1 : RowC W0 (w.heap.size + 1) [.int .i64 0] := by rw [hW0]; exact RowC.atn (vs := [.int .i64 0]) (by simp)
  have HW := Lib.hid hW0
  have R0 := Lib.hid r0
  have R1 := Lib.hid r1
  have K0 := Lib.hid k0
  have z0 := cell_lt (r1 0 _ rfl).1
  have Z0 : RowKit.Hid (W0.heap.size = w.heap.size + 1 + 1) := Lib.hid (by rw [hW0]; simp)
  clear hW0 r0 r1 k0
  by_cases h200 : 200 < n
  · have HS : RowKit.Hid (sumX xs = ((0, 0, false), 2)) := Lib.hid (by rw [sumX, if_pos (by rw [HT.out.1]; exact h200)])
    rw [HS.out]
    have g0 := (R0.out 0 _ rfl).1
    have g1 := (R0.out 1 _ rfl).1
    have g2 := (R0.out 2 _ rfl).1
    have g3 := (R1.out 0 _ rfl).1
    have f0 := (R0.out 0 _ rfl).2
    have f1 := (R0.out 1 _ rfl).2
    have f2 := (R0.out 2 _ rfl).2
    have f3 := (R1.out 0 _ rfl).2
    go_enter_defers Try.func31, Try.ntmps31
    go_upto_region 1 with (fail)
    rw [← HW.out]
    go_wp2
    simp [bodyPostD, Leaves, settle, results, Try.results31, go_sem, g0, g1, g2, g3]
    exact (((K0.out.setCell (by simp; try omega) _).setCell (by simp; try omega) _).setCell (by simp; try omega) _).setCell (by simp; try omega) _
  · go_enter_defers Try.func31, Try.ntmps31
    go_upto_region 1 with (fail)
    rw [← HW.out]
    go_wp2_with fail
    go_loopw [4, 13] (fun v i wr => ∃ k : Nat, k ≤ n ∧ i = .int .i64 k ∧ Kept W0 wr ∧ wr.ownsRow W0.heap.size 83 3 v k ((xs.take k).flatMap ivCells) ∧ ivOk (xs.take k) = true) (fun _ i _ => n - (intOf i).toNat)
    case atStart => exact ⟨0, by omega, by first | rfl | go_num, Kept.refl _, World.ownsRow_nil _ _ _ _, rfl⟩
    case round =>
      obtain ⟨k, hk, rfl, hkr, hown, hok⟩ := hrel
      have HOK := Lib.hid hok
      have HOWN := Lib.hid hown
      have kw : Kept w wr := K0.out.trans hkr
      have RR0 := Lib.hid (R0.out.kept hkr)
      have RR1 := Lib.hid (R1.out.kept hkr)
      have hzr := hkr.size
      clear hok hown
      by_cases hlt2 : k < n
      · obtain ⟨b, off, hA, htab⟩ := HT.out.2.2.2 (by omega)
        subst hA
        have hxl : k < xs.length := by rw [HT.out.1]; exact hlt2
        obtain ⟨x, hx⟩ : ∃ x, xs[k]? = some x := ⟨xs[k]'hxl, List.getElem?_eq_getElem hxl⟩
        have HX := Lib.hid hx
        have q0 := (kw.cells _ _ (cell_lt (htab k x hx 0 _ rfl))).trans (htab k x hx 0 _ rfl)
        have q1 := (kw.cells _ _ (cell_lt (htab k x hx 1 _ rfl))).trans (htab k x hx 1 _ rfl)
        have q2 := (kw.cells _ _ (cell_lt (htab k x hx 2 _ rfl))).trans (htab k x hx 2 _ rfl)
        simp only [Nat.add_zero] at q0
        obtain ⟨xl, xh, xo⟩ := x
        dsimp only at q0 q1 q2
        clear htab hx
        have RB := Lib.hid (RowC.new wr [.int .i64 xl, .int .i64 xh, .bool xo] 34)
        rcases hv : validB xl xh xo with _ | _
        · have HV := Lib.hid hv
          have HS : RowKit.Hid (sumX xs = ((0, 0, false), 1)) := Lib.hid (by
            have := iv_bad HX.out HV.out
            rw [sumX, if_neg (by rw [HT.out.1]; omega), if_neg (by rw [this]; simp)])
          clear hv
          go_wp2_with fail
          refine (valid_b _ _ _ _ HV.out _).mono ?_
          rintro e w3 ⟨rfl, hk3⟩
          have kx : Kept wr w3 := ((Kept.refl wr).alloc _).trans hk3
          have rr0 := RR0.out.kept kx
          have rr1 := RR1.out.kept kx
          have g0 := (rr0 0 _ rfl).1
          have g1 := (rr0 1 _ rfl).1
          have g2 := (rr0 2 _ rfl).1
          have g3 := (rr1 0 _ rfl).1
          have f0 := (rr0 0 _ rfl).2
          have f1 := (rr0 1 _ rfl).2
          have f2 := (rr0 2 _ rfl).2
          have f3 := (rr1 0 _ rfl).2
          have KX := Lib.hid (kw.trans kx)
          clear kx rr0 rr1
          go_wp2
          simp [bodyPostD, Leaves, settle, results, Try.results31, go_sem, g0, g1, g2, g3]
          refine ⟨by rw [HS.out]; simp, ?_⟩
          exact (((KX.out.setCell (by simp; try omega) _).setCell (by simp; try omega) _).setCell (by simp; try omega) _).setCell (by simp; try omega) _
        · have HV := Lib.hid hv
          clear hv
          go_wp2_with fail
          refine (valid_b _ _ _ _ HV.out _).mono ?_
          rintro e w3 ⟨rfl, hk3⟩
          have kx : Kept wr w3 := ((Kept.refl wr).alloc _).trans hk3
          have KX := Lib.hid (kw.trans kx)
          have rb := RB.out.kept hk3
          have b0 := (rb 0 _ rfl).1
          have b1 := (rb 1 _ rfl).1
          have b2 := (rb 2 _ rfl).1
          clear rb
          have HN3 := Lib.hid (RowC.new w3 [.int .i64 xl, .int .i64 xh, .bool xo] 83)
          have HO3 := Lib.hid (own_kept (own_kept HOWN.out kx) ((Kept.refl w3).alloc (.cells #[.int .i64 xl, .int .i64 xh, .bool xo] 83)))
          have HX3 := Lib.hid kx
          have hz3 := kx.size
          have HA1 : RowKit.Hid (∀ j u, (ivCells ⟨xl, xh, xo⟩)[j]? = some u → (w3.alloc (.cells #[.int .i64 xl, .int .i64 xh, .bool xo] 83)).cell? ((⟨w3.heap.size, 0, none⟩ : Addr).add j) = some u) := Lib.hid (fun j u hu => by
            have e : (⟨w3.heap.size, 0, none⟩ : Addr).add j = ⟨w3.heap.size, j, none⟩ := by simp [Addr.add]; try omega
            rw [e]
            exact (HN3.out j u hu).1)
          have HA2 : RowKit.Hid (∀ u ∈ ivCells ⟨xl, xh, xo⟩, u.oneCell' = true) := Lib.hid (by
            intro u hu
            simp [ivCells] at hu
            rcases hu with h | h | h <;> subst h <;> rfl)
          have HA3 : RowKit.Hid (k + 1 ≤ maxLen) := Lib.hid (by unfold maxLen; omega)
          have HA4 : RowKit.Hid ((k + 1) * 24 ≤ 140737488355328) := Lib.hid (by omega)
          have HA5 : RowKit.Hid (W0.heap.size ≤ (w3.alloc (.cells #[.int .i64 xl, .int .i64 xh, .bool xo] 83)).heap.size) := Lib.hid (by simp; omega)
          clear kx
          go_wp2_with (at_builtin; refine wpList_append_own _ rfl (.tmp 21) (.tmp 23) 87 rfl W0.heap.size 83 i0 (.agg #[.int .i64 0, .int .i64 0, .bool false]) 3 24 Try.underlying87 hi0 hz0 hz1 hz2 rfl (by decide) _ k _ rfl HO3.out ⟨w3.heap.size, 0, none⟩ 1 1 (ivCells ⟨xl, xh, xo⟩) rfl rfl HA1.out HA2.out HA3.out HA4.out HA5.out ?_; intro v' w4 hown' hgrow _; obtain ⟨g', cap', rfl⟩ := ownsRow_succ hown'; have HO4 := Lib.hid hown'; have HG4 := Lib.hid hgrow; clear hown' hgrow)
          go_roundw
          case rel =>
            refine ⟨k + 1, by omega, by first | rfl | go_num, ?_, ?_, ?_⟩
            · exact ((hkr.trans HX3.out).trans ((Kept.refl w3).alloc _)).grown HG4.out (fun j ej => own_row HO3.out j ej)
            · rw [take_snoc' HX.out, List.flatMap_append]
              simpa using HO4.out
            · rw [(iv_snoc HX.out).1, HOK.out, HV.out]; rfl
          case measure => simp [intOf]; omega
      · obtain rfl : k = n := by omega
        have htk : xs.take k = xs := List.take_of_length_le (by rw [HT.out.1]; exact Nat.le_refl _)
        have hok := HOK.out
        have hown := HOWN.out
        rw [htk] at hok hown
        obtain ⟨A', c', rfl, hs'⟩ := own_outK iv_len (by decide) hown
        have HS' := Lib.hid hs'
        have HOK' := Lib.hid hok
        have HEMP : RowKit.Hid (xs.length = k) := Lib.hid HT.out.1
        have KW := Lib.hid kw
        clear hown hok htk hs'
        rcases hso : ivSo xs with _ | _
        · have HE : RowKit.Hid (∀ W, Kept wr W → Calls Try.prog 77 #[.slice A' k c', .func (.func 78) #[] #[]] W fun e w' => e = .returned (.bool true) ∧ Kept W w') := Lib.hid (fun W hW => by
            have := hasEmpty_any A' k c' xs W (HS'.out.kept hW) hlt
            rwa [iv_emp xs HOK'.out, hso] at this)
          have HS : RowKit.Hid (sumX xs = ((0, 0, false), 0)) := Lib.hid (by
            rw [sumX, if_neg (by rw [HEMP.out]; omega), if_pos HOK'.out, if_neg (by rw [hso]; simp)])
          clear hso
          go_upto_region 11 with (fail)
          go_wp2_with fail
          refine (HE.out _ (Kept.refl _)).mono ?_
          rintro e w3 ⟨rfl, kx⟩
          have rr0 := RR0.out.kept kx
          have rr1 := RR1.out.kept kx
          have g0 := (rr0 0 _ rfl).1
          have g1 := (rr0 1 _ rfl).1
          have g2 := (rr0 2 _ rfl).1
          have g3 := (rr1 0 _ rfl).1
          have f0 := (rr0 0 _ rfl).2
          have f1 := (rr0 1 _ rfl).2
          have f2 := (rr0 2 _ rfl).2
          have f3 := (rr1 0 _ rfl).2
          have KX := Lib.hid (KW.out.trans kx)
          clear kx rr0 rr1
          go_wp2
          simp [bodyPostD, Leaves, settle, results, Try.results31, go_sem, g0, g1, g2, g3]
          refine ⟨by rw [HS.out]; simp, ?_⟩
          exact (((KX.out.setCell (by simp; try omega) _).setCell (by simp; try omega) _).setCell (by simp; try omega) _).setCell (by simp; try omega) _
        · have HE : RowKit.Hid (∀ W, Kept wr W → Calls Try.prog 77 #[.slice A' k c', .func (.func 78) #[] #[]] W fun e w' => e = .returned (.bool false) ∧ Kept W w') := Lib.hid (fun W hW => by
            have := hasEmpty_any A' k c' xs W (HS'.out.kept hW) hlt
            rwa [iv_emp xs HOK'.out, hso] at this)
          have HJ : RowKit.Hid (∀ W, Kept wr W → Calls Try.prog 80 #[.agg #[.int .i64 0, .int .i64 0, .bool true], .slice A' k c', .func (.func 82) #[] #[]] W (JoinRes xs W)) := Lib.hid (fun W hW => joinedPlus_any A' k c' xs W (HS'.out.kept hW) (by omega) HOK'.out hso)
          have HSO := Lib.hid hso
          clear hso
          go_upto_region 11 with (fail)
          go_wp2_with fail
          refine (HE.out _ (Kept.refl _)).mono ?_
          rintro e w3 ⟨rfl, kx⟩
          have KX := Lib.hid kx
          clear kx
          have HTo : RowKit.Hid (∀ W, Calls Try.prog 81 #[.int .i64 0, .int .i64 0] W fun e w' => e = .returned (.agg #[.int .i64 0, .int .i64 0, .bool true]) ∧ Kept W w') := Lib.hid (fun W => by
            have := to_any 0 0 W
            rwa [show spL 0 0 = 0 by decide, show spH 0 0 = 0 by decide, show spS 0 0 = true by decide] at this)
          go_upto_region 14 with (fail)
          go_wp2_with fail
          refine (HTo.out _).mono ?_
          rintro e w4 ⟨rfl, hk4⟩
          have HK4 := Lib.hid hk4
          clear hk4
          go_wp2_with fail
          refine (HJ.out _ (KX.out.trans HK4.out)).mono ?_
          rintro e w5 ⟨hj, hk5⟩
          have k5 := (KX.out.trans HK4.out).trans hk5
          have rr0 := RR0.out.kept k5
          have rr1 := RR1.out.kept k5
          have KX5 := Lib.hid (KW.out.trans k5)
          clear k5 hk5
          obtain ⟨g0, g1, g2, g3⟩ := (⟨(rr0 0 _ rfl).1, (rr0 1 _ rfl).1, (rr0 2 _ rfl).1, (rr1 0 _ rfl).1⟩ : _ ∧ _ ∧ _ ∧ _)
          obtain ⟨f0, f1, f2, f3⟩ := (⟨(rr0 0 _ rfl).2, (rr0 1 _ rfl).2, (rr0 2 _ rfl).2, (rr1 0 _ rfl).2⟩ : _ ∧ _ ∧ _ ∧ _)
          clear rr0 rr1
          rcases hj with ⟨hle, rfl⟩ | ⟨hgt, rfl⟩
          · have HS : RowKit.Hid (sumX xs = ((ivLo xs, ivHi xs, true), 0)) := Lib.hid (by
              have hb := iv_bd xs HOK'.out
              rw [sumX, if_neg (by rw [HEMP.out]; omega), if_pos HOK'.out, if_pos HSO.out, if_neg (by omega)]
              unfold spI spL spH spS
              rw [if_pos (by omega), if_pos (by omega), decide_eq_true (by omega)])
            clear hle
            go_wp2
            refine leaves_cons (f := 79) (args := #[.pointer (some ⟨w.heap.size, 0, none⟩), .pointer (some ⟨w.heap.size + 1, 0, none⟩)]) (by simp) (by simp [go_sem]) ?_
            refine (catch_idle ⟨w.heap.size, 0, none⟩ ⟨w.heap.size + 1, 0, none⟩ _).mono ?_
            rintro e u' w'' ⟨rfl, rfl, rfl⟩
            simp [Leaves, settle, results, Try.results31, go_sem, g0, g1, g2, g3]
            refine ⟨by rw [HS.out]; simp, ?_⟩
            exact (((KX5.out.setCell (by simp; try omega) _).setCell (by simp; try omega) _).setCell (by simp; try omega) _).setCell (by simp; try omega) _
          · have HS : RowKit.Hid (sumX xs = ((0, 0, false), 2)) := Lib.hid (by
              rw [sumX, if_neg (by rw [HEMP.out]; omega), if_pos HOK'.out, if_pos HSO.out, if_pos (by omega)])
            clear hgt
            go_wp2
            refine leaves_cons (f := 79) (args := #[.pointer (some ⟨w.heap.size, 0, none⟩), .pointer (some ⟨w.heap.size + 1, 0, none⟩)]) (by simp) (by simp [go_sem]) ?_
            refine (catch_panicking w.heap.size (w.heap.size + 1) _ _ _ _ 26 (.int .i64 2) [] _ (by omega) g0 g1 g2 g3 f0 f1 f2 f3).mono ?_
            rintro e u' w'' ⟨rfl, rfl, rfl⟩
            simp [Leaves, settle, results, Try.results31, go_sem, g0, g1, g2, g3]
            refine ⟨by rw [HS.out]; simp, ?_⟩
            exact (((KX5.out.setCell (by simp; try omega) _).setCell (by simp; try omega) _).setCell (by simp; try omega) _).setCell (by simp; try omega) _
end Go.Proofs.Ytjaicilnlgjdcaa
