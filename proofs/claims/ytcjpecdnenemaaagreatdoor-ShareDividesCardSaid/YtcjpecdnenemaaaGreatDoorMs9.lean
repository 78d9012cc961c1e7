/- Whole for all that it takes -/
import Derived.Test.YtcjpecdnenemaaaGreatDoorMs8
namespace Go.Proofs.YtcjpecdnenemaaaGreatDoor
set_option linter.all false
open Go.RowKit Go.Shelf Go.Sort
attribute [local go_sem] run_store_func

set_option maxRecDepth 100000 in
theorem sortStable_any (g n c bc nn : Nat) (cf : Nat → Nat → Int) (lt : Nat → Nat → Prop) (tr : ∀ x y z, lt x y → lt y z → lt x z) (X : List Nat) (hX : X.length = n) (h0 : 0 < n) (h40 : n ≤ 40) (hnc : n ≤ c) (hc : c ≤ 1000) (H : OH nn cf lt X)
    (w : World) (hC : CmpG g bc nn cf w) (hr : RowC w g (natV X)) :
    Calls Tryz.prog 138 #[.slice (some ⟨g, 0, none⟩) n c, (.func (.func 139) #[] #[.pointer (some ⟨bc, 0, none⟩)])] w fun e w' => e = .returned (.tuple #[]) ∧ ∃ Z, Z.Pairwise lt ∧ Z.Perm X ∧ Stp g w Z w' := by
  have HI : RowKit.Hid (Calls Tryz.prog 174 #[.slice (some ⟨g, 0, none⟩) n c, .int .i64 (n : Int), (.func (.func 139) #[] #[.pointer (some ⟨bc, 0, none⟩)])] w fun e w' => e = .returned (.tuple #[]) ∧ ∃ Z, Z.Pairwise lt ∧ Z.Perm X ∧ Stp g w Z w') := Lib.hid (by
    by_cases q1 : n < 20
    · exact stable_few2 g n c bc nn cf lt tr X hX h0 q1 hnc hc H w hC hr
    by_cases q2 : n = 20
    · exact stable_20 g n c bc nn cf lt tr X hX q2 hnc hc H w hC hr
    by_cases q3 : n = 40
    · exact stable_40 g n c bc nn cf lt tr X hX q3 hnc hc H w hC hr
    exact stable_mid g n c bc nn cf lt tr X hX (by omega) (by omega) hnc hc H w hC hr)
  clear hX H hC hr
  go_enter Tryz.func138, Tryz.ntmps138
  go_wp2_with fail
  refine HI.out.mono ?_
  rintro e w1 ⟨rfl, Z, h1, h2, h3⟩
  have HS := Lib.hid h3
  clear h3
  go_wp2
  go_end0
  exact ⟨rfl, Z, h1, h2, HS.out⟩
/-- what is cut off of an heir's part -/
def cutN (total s : Int) (zs : List Int) (i : Nat) : Int := cutZ total s (zs.getD i 0)
/-- who comes first when what is left over is given -/
def ltC (total s : Int) (zs : List Int) (i j : Nat) : Prop := cutN total s zs j < cutN total s zs i ∨ (cutN total s zs i = cutN total s zs j ∧ i < j)
theorem ltC_tr (total s : Int) (zs : List Int) : ∀ x y z, ltC total s zs x y → ltC total s zs y z → ltC total s zs x z := by
  intro x y z h1 h2
  unfold ltC at *
  omega
def cfC (total s : Int) (zs : List Int) (i j : Nat) : Int := cmpZ (cutN total s zs j) (cutN total s zs i)
theorem cfC_neg (total s : Int) (zs : List Int) (i j : Nat) : cfC total s zs i j < 0 ↔ cutN total s zs j < cutN total s zs i := by
  unfold cfC cmpZ
  split
  · rename_i h; simp [h]
  · split
    · rename_i h1 h2; simp; omega
    · rename_i h1 h2; simp; omega
theorem range_OH (total s : Int) (zs : List Int) (n : Nat) : OH n (cfC total s zs) (ltC total s zs) (List.range n) := by
  refine ⟨fun x hx => List.mem_range.1 hx, fun i j u v hi hj hij => ?_⟩
  obtain ⟨h1, e1⟩ := List.getElem?_eq_some_iff.1 hi
  obtain ⟨h2, e2⟩ := List.getElem?_eq_some_iff.1 hj
  rw [List.getElem_range] at e1 e2
  subst e1; subst e2
  rw [cfC_neg]
  unfold ltC
  constructor
  · constructor
    · exact .inl
    · rintro (h | h)
      · exact h
      · omega
  · intro h
    omega
theorem cmpG_of (bc bt bp bs b off n c g : Nat) (total s : Int) (zs : List Int) (w : World) (hc : w.cell? ⟨bc, 0, none⟩ = some (.func (.func 137) #[] #[.pointer (some ⟨bt, 0, none⟩), .pointer (some ⟨bp, 0, none⟩), .pointer (some ⟨bs, 0, none⟩)])) (ht : w.cell? ⟨bt, 0, none⟩ = some (.int .i64 total)) (hp : w.cell? ⟨bp, 0, none⟩ = some (.slice (some ⟨b, off, none⟩) n c)) (hs : w.cell? ⟨bs, 0, none⟩ = some (.int .i64 s))
    (hz : ∀ j z, zs[j]? = some z → w.cell? ⟨b, off + j, none⟩ = some (.int .i64 z)) (hlen : zs.length = n) (hpart : partsB zs = true) (h0 : 0 ≤ total) (h1 : total ≤ 1000000000) (s0 : 0 < s) (s1 : s ≤ 40000)
    (n1 : bc ≠ g) (n2 : bt ≠ g) (n3 : bp ≠ g) (n4 : bs ≠ g) (n5 : b ≠ g) : CmpG g bc n (cfC total s zs) w := by
  intro W hW i j hi hj
  have gx : zs[i]? = some (zs.getD i 0) := by rw [List.getD_eq_getElem?_getD, List.getElem?_eq_getElem (by omega)]; rfl
  have gy : zs[j]? = some (zs.getD j 0) := by rw [List.getD_eq_getElem?_getD, List.getElem?_eq_getElem (by omega)]; rfl
  have px := getD_part hpart i
  have py := getD_part hpart j
  exact cmp139 bc bt bp bs b off n c i j total s _ _ _ (hW.cell hc n1) (hW.cell ht n2) (hW.cell hp n3) (hW.cell hs n4) (hW.cell (hz _ _ gx) n5) (hW.cell (hz _ _ gy) n5) hi hj h0 h1 px.1 px.2 py.1 py.2 s0 s1
/-- what Whole returns -/
def WholeAll (w : World) (total : Int) (zs : List Int) (e : Ending) (w' : World) : Prop :=
  (((sumOfS zs (inB total 0 1000000000)).2 ≠ 0 ∧ e = .returned (.tuple #[.slice none 0 0, .int .i64 (sumOfS zs (inB total 0 1000000000)).2])) ∨
   ((sumOfS zs (inB total 0 1000000000)).2 = 0 ∧ ∃ (g : Nat) (Z : List Nat), e = .returned (.tuple #[.slice (some ⟨g, 0, none⟩) zs.length zs.length, .int .i64 0]) ∧ w.heap.size ≤ g ∧ Z.Pairwise (ltC total zs.sum zs) ∧ Z.Perm (List.range zs.length) ∧ RowC w' g (intsV (bump (flS total zs.sum zs) (Z.take (total - (flS total zs.sum zs).sum).toNat))))) ∧ Kept w w'
set_option maxRecDepth 100000 in
set_option maxHeartbeats 3200000 in
theorem whole_all (A : Option Addr) (n c : Nat) (zs : List Int) (total : Int) (w : World) (h : IntsA w A n c zs) :
    Calls Tryz.prog 72 #[.int .i64 total, .slice A n c] w (WholeAll w total zs) := by
  have H := Lib.hid h
  clear h
  obtain ⟨r, hr⟩ : ∃ r, sumOfS zs (inB total 0 1000000000) = r := ⟨_, rfl⟩
  have HR := Lib.hid hr
  clear hr
  obtain ⟨W2, hW2⟩ : ∃ W2 : World, W2 = (w.alloc (.cells #[.int .i64 total] 3)).alloc (.cells #[.slice A n c] 55) := ⟨_, rfl⟩
  have K2 : Kept w W2 := by rw [hW2]; exact ((Kept.refl w).alloc _).alloc _
  have b1 : W2.cell? ⟨w.heap.size, 0, none⟩ = some (.int .i64 total) := by rw [hW2]; exact ((RowC.new w [.int .i64 total] 3).kept ((Kept.refl _).alloc _) 0 _ rfl).1
  have b2 : W2.cell? ⟨w.heap.size + 1, 0, none⟩ = some (.slice A n c) := by
    have := RowC.new (w.alloc (.cells #[.int .i64 total] 3)) [.slice A n c] 55
    rw [World.size_alloc] at this
    rw [hW2]; exact (this 0 _ rfl).1
  have HW2 := Lib.hid hW2
  have B1 := Lib.hid b1
  have B2 := Lib.hid b2
  have Z2 : W2.heap.size = w.heap.size + 1 + 1 := by rw [hW2]; simp
  have HZ2 := Lib.hid Z2
  clear hW2 b1 b2 Z2
  have HT : RowKit.Hid (∀ W : World, Kept w W → Calls Tryz.prog 134 #[.slice A n c, .bool (inB total 0 1000000000)] W fun e w' => e = .returned (i2V r) ∧ Kept W w') := Lib.hid (fun W hW => by
    have := sumOf_any A n c zs (inB total 0 1000000000) W (H.out.kept hW)
    rw [HR.out] at this
    exact this)
  have hmf : ∀ (fn : Fn) (first cap : Array Value) (w : World), (Instr.makeFunc fn first cap).run Tryz.prog w = .ok (.func fn first cap) w := fun _ _ _ _ => rfl
  go_enter Tryz.func72, Tryz.ntmps72
  go_upto_region 1 with (fail)
  rw [← HW2.out]
  go_cut [6, 7] (fun p e wx => ∃ b6, p = .pointer (some ⟨b6, 0, none⟩) ∧ e = .int .i64 r.2 ∧ w.heap.size + 1 < b6 ∧ RowC wx b6 [.int .i64 r.1] ∧ Kept W2 wx)
  case first =>
    go_region_held3 (fun w' => w'.cell? ⟨w.heap.size, 0, none⟩ = some (.int .i64 total) ∧ w'.cell? ⟨w.heap.size + 1, 0, none⟩ = some (.slice A n c) ∧ Kept W2 w')
      (first
        | exact S3_of B1.out B2.out ((Kept.refl _).drew)
        | exact S3_of B1.out B2.out (((Kept.refl _).drew).alloc _)
        | exact S3_of B1.out B2.out (((Kept.refl _).drew).trans hkk)
        | exact S3_of B1.out B2.out ((((Kept.refl _).drew).alloc _).trans hkk)
        | exact S3_of B1.out B2.out ((((Kept.refl _).drew).trans hkk).alloc _)
        | exact S3_of B1.out B2.out (((((Kept.refl _).drew).alloc _).trans hkk).setCell (Nat.le_refl _) _)
        | exact S3_of B1.out B2.out (((((Kept.refl _).drew).trans hkk).alloc _).setCell (by have := hkk.size; simp at this ⊢; omega) _)
        | fail)
      (first
        | (go_at_call 82; refine (within_any _ _ _ _).mono ?_; rintro e w' ⟨rfl, rfl⟩)
        | (go_at_call 134; refine (HT.out _ (by first | exact K2.drew | exact K2.drew.alloc _)).mono ?_; rintro e w1 ⟨rfl, hkk⟩; obtain ⟨hcc, hff, hzz⟩ := hkk.facts; unfold i2V)
        | fail)
    all_goals go_wp2
    all_goals go_meet
    all_goals
      have hzW := HZ2.out
      first
        | exact ⟨w1.heap.size, rfl, rfl, by have := hkk.size; simp at this; omega, RowC.new w1 [.int .i64 r.1] 3, (((Kept.refl W2).drew).trans hkk).alloc _⟩
        | exact ⟨W2.heap.size, rfl, rfl, by omega, ((RowC.new W2 [.int .i64 0] 3).drew.kept hkk).put (j := 0) (by simp) (.int .i64 r.1), ((((Kept.refl W2).alloc _).drew).trans hkk).setCell (Nat.le_refl _) _⟩
  case rest =>
    obtain ⟨b6, rfl, rfl, hb6, R6, K6⟩ := hcut
    have hkw := K2.trans K6
    have c1 := (K6.cells _ _ (cell_lt B1.out)).trans B1.out
    have c2 := (K6.cells _ _ (cell_lt B2.out)).trans B2.out
    have H6 := Lib.hid R6
    clear R6
    by_cases he : r.2 = 0
    · have he' : (r.2 != 0) = false := by simp [he]
      have HE := Lib.hid he
      clear he
      obtain ⟨htot, hpart, h40, hs1, hpos, hsb⟩ := sumOf_ok (zs := zs) (d := inB total 0 1000000000) (by rw [HR.out]; exact HE.out)
      obtain ⟨ht0, ht1⟩ := inB_iff.1 htot
      rw [HR.out] at hs1
      have HP := Lib.hid hpart
      have hn1 : zs ≠ [] := by intro h; rw [h] at hpos; simp at hpos
      have hn40 : n ≤ 40 := by rw [← H.out.1]; exact h40
      have hnpos : 0 < n := by rw [← H.out.1]; exact List.length_pos_iff.2 hn1
      have hlb := left_bd (total := total) hpos
      rw [hs1] at H6
      obtain ⟨s, hs⟩ : ∃ s, zs.sum = s := ⟨_, rfl⟩
      rw [hs] at H6 hpos hsb hlb
      rw [H.out.1] at hlb
      have HS := Lib.hid hs
      have HLB := Lib.hid hlb
      have hmk := make55 n (by omega)
      have hl6 := cell_lt (H6.out 0 _ rfl).1
      have H40 := Lib.hid h40
      clear htot hpart h40 hs1 hn1 hs hlb
      go_upto_region 4 with (fail)
      go_cut [8, 9] (fun p q wx => ∃ g8 g9, p = .slice (some ⟨g8, 0, none⟩) n n ∧ q = .slice (some ⟨g9, 0, none⟩) n n ∧ g8 ≠ g9 ∧ wc.heap.size ≤ g8 ∧ wc.heap.size ≤ g9 ∧ RowC wx g8 (zer n) ∧ RowC wx g9 (zer n) ∧ Kept wc wx)
      case first =>
        have hz1 := cell_lt c2
        go_region
        all_goals go_wp2
        all_goals go_meet
        all_goals
          have ra : RowC ((wc.alloc (.cells (zer n).toArray 3)).alloc (.cells (zer n).toArray 3)).drew wc.heap.size (zer n) := ((RowC.new wc (zer n) 3).kept ((Kept.refl _).alloc _)).drew
          have rb : RowC ((wc.alloc (.cells (zer n).toArray 3)).alloc (.cells (zer n).toArray 3)).drew (wc.heap.size + 1) (zer n) := by
            have := (RowC.new (wc.alloc (.cells (zer n).toArray 3)) (zer n) 3).drew
            rw [World.size_alloc] at this
            exact this
          have hk : Kept wc ((wc.alloc (.cells (zer n).toArray 3)).alloc (.cells (zer n).toArray 3)).drew := (((Kept.refl wc).alloc _).alloc _).drew
          first
            | exact ⟨wc.heap.size, wc.heap.size + 1, rfl, rfl, by omega, by omega, by omega, ra, rb, hk⟩
            | exact ⟨wc.heap.size + 1, wc.heap.size, rfl, rfl, by omega, by omega, by omega, rb, ra, hk⟩
      case rest =>
        obtain ⟨g8, g9, rfl, rfl, hg, hg8, hg9, R8, R9, K7⟩ := hcut
        have hwc := hkw.size
        have k7 := K6.trans K7
        have d1 := (k7.cells _ _ (cell_lt B1.out)).trans B1.out
        have d2 := (k7.cells _ _ (cell_lt B2.out)).trans B2.out
        have H8 := Lib.hid R8
        have H9 := Lib.hid R9
        have H6' := Lib.hid (H6.out.kept K7)
        have hkw7 := hkw.trans K7
        have hl6' := cell_lt (H6'.out 0 _ rfl).1
        have hl2 : w.heap.size + 1 < wc.heap.size := by omega
        clear c1 c2 R8 R9
        go_wp2
        go_loopw [10, 35] (fun lv i wr => ∃ k : Nat, k ≤ n ∧ i = .int .i64 k ∧ lv = .int .i64 (total - (flS total s (zs.take k)).sum) ∧ 0 ≤ (flS total s (zs.take k)).sum ∧ (flS total s (zs.take k)).sum ≤ k * 1000000000000 ∧
          RowC wr g8 (intsV (flS total s (zs.take k)) ++ zer (n - k)) ∧ RowC wr g9 (rngV k ++ zer (n - k)) ∧ RowC wr b6 [.int .i64 s] ∧ Kept W2 wr ∧ wc.heap.size ≤ wr.heap.size) (fun _ i _ => n - (intOf i).toNat)
        case atStart => exact ⟨0, by omega, by first | rfl | go_num, by simp [flS], by simp [flS], by simp [flS], by simpa [flS, intsV] using H8.out, by simpa [rngV] using H9.out, H6'.out, k7, Nat.le_refl _⟩
        case round =>
          obtain ⟨k, hk, rfl, rfl, hs0, hs1, r8, r9, r6, kr, hzr⟩ := hrel
          have q1 := (kr.cells _ _ (cell_lt B1.out)).trans B1.out
          have q2 := (kr.cells _ _ (cell_lt B2.out)).trans B2.out
          have q6 := (r6 0 _ rfl).1
          have hl6r := cell_lt q6
          have hl2r : w.heap.size + 1 < wr.heap.size := by omega
          have G8 := Lib.hid r8
          have G9 := Lib.hid r9
          have G6 := Lib.hid r6
          clear r8 r9 r6
          obtain ⟨sk, hsk⟩ : ∃ sk, (flS total s (zs.take k)).sum = sk := ⟨_, rfl⟩
          rw [hsk] at hs0 hs1
          rw [hsk]
          have HSK := Lib.hid hsk
          clear hsk
          by_cases hlt : k < n
          · obtain ⟨b, off, hA, hc⟩ := H.out.2.2.2.2 (by omega)
            subst hA
            have hxl : k < zs.length := by rw [H.out.1]; exact hlt
            obtain ⟨z, hz⟩ : ∃ z, zs[k]? = some z := ⟨zs[k]'hxl, List.getElem?_eq_getElem hxl⟩
            obtain ⟨z0, z1⟩ := part_in HP.out hz
            have hf := fl_one ht0 ht1 z0 z1 hpos
            have m1 := mul_bd (n := total) (d := z) 1000000000 1000 (by omega) ht1 z0 z1 (by omega)
            have m0 := Int.mul_nonneg ht0 z0
            obtain ⟨m11, m12⟩ := m1
            obtain ⟨f0, f1⟩ := hf
            have c0 := ((K2.trans kr).cells _ _ (cell_lt (hc k z hz))).trans (hc k z hz)
            have e8 : (intsV (flS total s (zs.take k))).length = k := by rw [intsV_len]; unfold flS; rw [List.length_map, List.length_take]; omega
            have e9 : (rngV k).length = k := rngV_len k
            obtain ⟨m, hm⟩ : ∃ m, n - k = m + 1 := ⟨n - k - 1, by omega⟩
            have r8 := G8.out
            have r9 := G9.out
            rw [hm] at r8 r9
            have l8 : (intsV (flS total s (zs.take k)) ++ zer (m + 1)).length = n := by rw [List.length_append, e8]; unfold zer; rw [List.length_replicate]; omega
            have l9 : (rngV k ++ zer (m + 1)).length = n := by rw [List.length_append, e9]; unfold zer; rw [List.length_replicate]; omega
            have t8 := r8 k _ (List.getElem?_eq_getElem (by rw [l8]; omega))
            have t9 := r9 k _ (List.getElem?_eq_getElem (by rw [l9]; omega))
            obtain ⟨v8, hv8, hw8⟩ : ∃ v8, wr.cell? ⟨g8, k, none⟩ = some v8 ∧ wr.frozen? ⟨g8, k, none⟩ = false := ⟨_, t8.1, t8.2⟩
            obtain ⟨v9, hv9, hw9⟩ : ∃ v9, wr.cell? ⟨g9, k, none⟩ = some v9 ∧ wr.frozen? ⟨g9, k, none⟩ = false := ⟨_, t9.1, t9.2⟩
            have HZ := Lib.hid hz
            have HE8 := Lib.hid e8
            have HE9 := Lib.hid e9
            have HM := Lib.hid hm
            have L8 := Lib.hid l8
            have L9 := Lib.hid l9
            have R8 := Lib.hid r8
            have R9 := Lib.hid r9
            have hl8 := cell_lt hv8
            have hl9 := cell_lt hv9
            clear hz hc e8 e9 hm l8 l9 r8 r9 t8 t9
            go_wp2
            go_roundw
            case rel =>
              have hsum : (flS total s (zs.take (k + 1))).sum = sk + total * z / s := by rw [take_snoc' HZ.out, flS_snoc, List.sum_append, HSK.out]; simp
              refine ⟨k + 1, by omega, by go_num, by rw [hsum, Int.sub_sub], by rw [hsum]; omega, by rw [hsum]; push_cast; omega, ?_, ?_, ?_, ?_, ?_⟩
              · have hx := ((R8.out.put (j := k) (by rw [L8.out]; omega) (.int .i64 (total * z / s))).far hg (.int .i64 (k : Int)) : RowC ((wr.setCell ⟨g8, k, none⟩ (.int .i64 (total * z / s))).setCell ⟨g9, k, none⟩ (.int .i64 (k : Int))) g8 _)
                rw [set1 _ m k _ HE8.out] at hx
                rw [take_snoc' HZ.out, flS_snoc, intsV_snoc, show n - (k + 1) = m by have := HM.out; omega]
                exact hx
              · have hx := ((R9.out.far (Ne.symm hg) (.int .i64 (total * z / s))).put (j := k) (by rw [L9.out]; omega) (.int .i64 (k : Int)) : RowC ((wr.setCell ⟨g8, k, none⟩ (.int .i64 (total * z / s))).setCell ⟨g9, k, none⟩ (.int .i64 (k : Int))) g9 _)
                rw [set1 _ m k _ HE9.out] at hx
                rw [rngV_succ, show n - (k + 1) = m by have := HM.out; omega]
                exact hx
              · exact (G6.out.far (by omega) _).far (by omega) _
              · have := HZ2.out
                exact (kr.setCell (by simp; omega) _).setCell (by simp; omega) _
              · simp; exact hzr
            case measure => simp [intOf]; omega
          · obtain rfl : k = n := by omega
            have ht : zs.take k = zs := List.take_of_length_le (by rw [H.out.1]; exact Nat.le_refl _)
            rw [ht] at HSK G8
            have G8' := Lib.hid (show RowC wr g8 (intsV (flS total s zs)) by have := G8.out; rw [Nat.sub_self] at this; simpa [zer] using this)
            have G9' := Lib.hid (show RowC wr g9 (rngV k) by have := G9.out; rw [Nat.sub_self] at this; simpa [zer] using this)
            have hlb := HLB.out
            rw [HSK.out] at hlb
            obtain ⟨L, hL⟩ := Int.eq_ofNat_of_zero_le hlb.1
            have hLk : L ≤ k := by have := hlb.2; omega
            have HL := Lib.hid hL
            clear G8 G9 ht hlb hL
            obtain ⟨m, hm⟩ : ∃ m, k = m + 1 := ⟨k - 1, by omega⟩
            have HMK := Lib.hid hm
            clear hm
            have h13 := RowC.new wr [.func (.func 137) #[] #[.pointer (some ⟨w.heap.size, 0, none⟩), .pointer (some ⟨w.heap.size + 1, 0, none⟩), .pointer (some ⟨b6, 0, none⟩)]] 136
            have k13 : Kept wr (wr.alloc (.cells #[.func (.func 137) #[] #[.pointer (some ⟨w.heap.size, 0, none⟩), .pointer (some ⟨w.heap.size + 1, 0, none⟩), .pointer (some ⟨b6, 0, none⟩)]] 136)) := (Kept.refl _).alloc _
            have H13 := Lib.hid h13
            have HK13 := Lib.hid k13
            clear h13 k13
            obtain ⟨b, off, hA, hc⟩ := H.out.2.2.2.2 hnpos
            subst hA
            have HC := Lib.hid hc
            clear hc
            have h40k : k ≤ 40 := by have := H40.out; have := H.out.1; omega
            have HSt : RowKit.Hid (Calls Tryz.prog 138 #[.slice (some ⟨g9, 0, none⟩) k k, .func (.func 139) #[] #[.pointer (some ⟨wr.heap.size, 0, none⟩)]] (wr.alloc (.cells #[.func (.func 137) #[] #[.pointer (some ⟨w.heap.size, 0, none⟩), .pointer (some ⟨w.heap.size + 1, 0, none⟩), .pointer (some ⟨b6, 0, none⟩)]] 136)) fun e w' => e = .returned (.tuple #[]) ∧ ∃ Z, Z.Pairwise (ltC total s zs) ∧ Z.Perm (List.range k) ∧ RowC w' g9 (natV Z) ∧ RowC w' g8 (intsV (flS total s zs)) ∧ Kept w w' ∧ wr.heap.size < w'.heap.size) := Lib.hid (by
              have hrow := G9'.out
              have hr8 := G8'.out
              have hcz : ∀ j z, zs[j]? = some z → wr.cell? ⟨b, off + j, none⟩ = some (.int .i64 z) := fun j z hj => ((K2.trans kr).cells _ _ (cell_lt (HC.out j z hj))).trans (HC.out j z hj)
              have hzl := H.out.1
              have hb9 : b ≠ g9 := by
                obtain ⟨z, hz⟩ : ∃ z, zs[0]? = some z := ⟨_, List.getElem?_eq_getElem (by omega)⟩
                have := cell_lt (HC.out 0 z hz)
                omega
              have hk1 := HK13.out
              have hz2 := HZ2.out
              have hl9 : g9 < wr.heap.size := by
                have := (hrow 0 _ (by rw [List.getElem?_eq_getElem (by rw [rngV_len]; exact hnpos)])).1
                exact cell_lt this
              have hr13 := (H13.out 0 _ rfl).1
              have hlk : ∀ (a : Addr) v, wr.cell? a = some v → (wr.alloc (.cells #[.func (.func 137) #[] #[.pointer (some ⟨w.heap.size, 0, none⟩), .pointer (some ⟨w.heap.size + 1, 0, none⟩), .pointer (some ⟨b6, 0, none⟩)]] 136)).cell? a = some v := fun a v hv => by
                rw [← hv]
                have hlt : a.block < wr.heap.size := by
                  rcases Nat.lt_or_ge a.block wr.heap.size with h | h
                  · exact h
                  · simp [World.cell?, Array.getElem?_eq_none h] at hv
                exact World.cell?_of_block (hk1.block _ hlt)
              have hrow2 : RowC (wr.alloc (.cells #[.func (.func 137) #[] #[.pointer (some ⟨w.heap.size, 0, none⟩), .pointer (some ⟨w.heap.size + 1, 0, none⟩), .pointer (some ⟨b6, 0, none⟩)]] 136)) g9 (natV (List.range k)) := hrow.kept hk1
              refine (sortStable_any g9 k k wr.heap.size k (cfC total s zs) (ltC total s zs) (ltC_tr total s zs) (List.range k) (by simp) hnpos h40k (Nat.le_refl _) (by omega) (range_OH total s zs k) _ (cmpG_of wr.heap.size w.heap.size (w.heap.size + 1) b6 b off k c g9 total s zs _ hr13 (hlk _ _ q1) (hlk _ _ q2) (hlk _ _ q6) (fun j z hj => hlk _ _ (hcz j z hj)) hzl HP.out ht0 ht1 hpos hsb (by omega) (by omega) (by omega) (by omega) hb9) hrow2).mono ?_
              rintro e w' ⟨rfl, Z, z1, z2, hst⟩
              refine ⟨rfl, Z, z1, z2, hst.2, hst.1.row (hr8.kept hk1) hg, ?_, ?_⟩
              · exact Below.grown ((K2.trans kr).trans hk1).below hst.1 ((K2.trans kr).trans hk1).size (fun r hr => by cases hr; omega)
              · have := hst.1.size; simp at this; omega)
            rw [HL.out]
            go_wp2_with fail
            refine HSt.out.mono ?_
            rintro e w1 ⟨rfl, Z, z1, z2, o9, o8, kw1, hz1⟩
            have O8 := Lib.hid o8
            have O9 := Lib.hid o9
            clear o8 o9
            have hL0 : (0 : Int) ≤ (L : Int) := by omega
            have hLi : (L : Int) ≤ (k : Int) := by omega
            have hLt : ((L : Nat) : Int).toNat = L := by omega
            have hol : Z.length = k := by rw [z2.length_eq, List.length_range]
            have HZ1 := Lib.hid z1
            have HZ2' := Lib.hid z2
            clear z1 z2
            have HOL := Lib.hid hol
            have hfb : ∀ v ∈ flS total s zs, 0 ≤ v ∧ v ≤ 1000000000000 := by
              intro v hv
              unfold flS at hv
              rw [List.mem_map] at hv
              obtain ⟨z, hz, rfl⟩ := hv
              obtain ⟨q, hq⟩ := List.getElem?_of_mem hz
              obtain ⟨z0, z1⟩ := part_in HP.out hq
              exact fl_one ht0 ht1 z0 z1 hpos
            have HFB := Lib.hid hfb
            have hfl : (flS total s zs).length = k := by unfold flS; rw [List.length_map, H.out.1]
            have HFL := Lib.hid hfl
            clear hol hfb hfl
            go_wp2_with fail
            go_loopw [67] (fun i wx => ∃ j : Nat, j ≤ L ∧ i = .int .i64 j ∧ RowC wx g8 (intsV (bump (flS total s zs) (Z.take j))) ∧ RowC wx g9 (natV Z) ∧ Kept w wx) (fun i _ => L - (intOf i).toNat)
            case atStart => exact ⟨0, by omega, by first | rfl | go_num, by simpa [bump] using O8.out, O9.out, kw1⟩
            case round =>
              obtain ⟨j, hj, rfl, x8, x9, kx⟩ := hrel
              by_cases hlt2 : j < L
              · obtain ⟨o, ho⟩ : ∃ o, Z[j]? = some o := ⟨_, List.getElem?_eq_getElem (by rw [HOL.out]; omega)⟩
                have hok : o < k := List.mem_range.1 (HZ2'.out.mem_iff.1 (List.mem_of_getElem? ho))
                have hlen : (bump (flS total s zs) (Z.take j)).length = k := by rw [bump_len, HFL.out]
                obtain ⟨v, hv⟩ : ∃ v, (bump (flS total s zs) (Z.take j))[o]? = some v := ⟨_, List.getElem?_eq_getElem (by rw [hlen]; exact hok)⟩
                have hvb := bump_bd HFB.out _ v (List.mem_of_getElem? hv)
                have htl : (Z.take j).length = j := by rw [List.length_take, HOL.out]; omega
                rw [htl] at hvb
                obtain ⟨v0, v1⟩ := hvb
                have y9 := (x9 j _ (natV_at ho)).1
                have y8 := x8 o _ (intsV_at hv)
                obtain ⟨y81, y82⟩ := y8
                have hx8 := cell_lt y81
                have ho0 : (0 : Int) ≤ (o : Int) := by omega
                have ho1 : (o : Int) < (k : Int) := by omega
                have HO := Lib.hid ho
                have HV := Lib.hid hv
                have X8 := Lib.hid x8
                have X9 := Lib.hid x9
                have HLn := Lib.hid hlen
                clear ho hv x8 x9 hlen htl
                go_wp2
                go_roundw
                case rel =>
                  refine ⟨j + 1, by omega, by go_num, ?_, X9.out.far (Ne.symm hg) _, kx.setCell (by simp; omega) _⟩
                  rw [take_snoc' HO.out, bump_snoc, intsV_modify HV.out]
                  exact X8.out.put (by rw [intsV_len, HLn.out]; exact hok) _
                case measure => simp [intOf]; omega
              · obtain rfl : j = L := by omega
                go_wp2
                go_ret2
                refine ⟨.inr ⟨by rw [HR.out]; exact HE.out, g8, Z, (by rw [H.out.1]; rfl), by omega, by rw [HS.out]; exact HZ1.out, by rw [H.out.1]; exact HZ2'.out, ?_⟩, kx⟩
                rw [HS.out, HSK.out, HL.out, hLt]
                exact x8
    · have he' : (r.2 != 0) = true := by simp [he]
      have HE := Lib.hid he
      clear he
      go_wp2
      go_ret2
      exact ⟨.inl ⟨by rw [HR.out]; exact HE.out, by rw [HR.out]; rfl⟩, hkw⟩
end Go.Proofs.YtcjpecdnenemaaaGreatDoor
