/-
  mark: whether a sight fits signs
-/
import Derived.Test.YtologmoanaccpaaGreatDoorMo
namespace Go.Proofs.YtologmoanaccpaaGreatDoor
set_option linter.all false
open Go Go.RowKit Go.Shelf Go.Proofs

def fit1 (fs : List Fd) (p : Nat) (have_ seen : Int) : Bool := (seen == 9) || (lkF fs p have_.toNat).testBit seen.toNat
def fitB (fs : List Fd) (a s : Sg) : Bool := (List.range 6).all fun p => fit1 fs p (a.l.getD p 0) (s.l.getD p 0)
theorem idx30_0 (s : Sg) (w : World) : (Instr.index 30 (.agg #[.int .u8 s.s0, .int .u8 s.s1, .int .u8 s.s2, .int .u8 s.s3, .int .u8 s.s4, .int .u8 s.s5]) (.int .i64 0)).run Tryz.prog w = .ok (.int .u8 s.s0) w := by kernel_rfl
theorem idx30_1 (s : Sg) (w : World) : (Instr.index 30 (.agg #[.int .u8 s.s0, .int .u8 s.s1, .int .u8 s.s2, .int .u8 s.s3, .int .u8 s.s4, .int .u8 s.s5]) (.int .i64 1)).run Tryz.prog w = .ok (.int .u8 s.s1) w := by kernel_rfl
theorem idx30_2 (s : Sg) (w : World) : (Instr.index 30 (.agg #[.int .u8 s.s0, .int .u8 s.s1, .int .u8 s.s2, .int .u8 s.s3, .int .u8 s.s4, .int .u8 s.s5]) (.int .i64 2)).run Tryz.prog w = .ok (.int .u8 s.s2) w := by kernel_rfl
theorem idx30_3 (s : Sg) (w : World) : (Instr.index 30 (.agg #[.int .u8 s.s0, .int .u8 s.s1, .int .u8 s.s2, .int .u8 s.s3, .int .u8 s.s4, .int .u8 s.s5]) (.int .i64 3)).run Tryz.prog w = .ok (.int .u8 s.s3) w := by kernel_rfl
theorem idx30_4 (s : Sg) (w : World) : (Instr.index 30 (.agg #[.int .u8 s.s0, .int .u8 s.s1, .int .u8 s.s2, .int .u8 s.s3, .int .u8 s.s4, .int .u8 s.s5]) (.int .i64 4)).run Tryz.prog w = .ok (.int .u8 s.s4) w := by kernel_rfl
theorem idx30_5 (s : Sg) (w : World) : (Instr.index 30 (.agg #[.int .u8 s.s0, .int .u8 s.s1, .int .u8 s.s2, .int .u8 s.s3, .int .u8 s.s4, .int .u8 s.s5]) (.int .i64 5)).run Tryz.prog w = .ok (.int .u8 s.s5) w := by kernel_rfl
theorem idx30 (s : Sg) (k : Nat) (x : Int) (h : s.l[k]? = some x) (w : World) : (Instr.index 30 (.agg #[.int .u8 s.s0, .int .u8 s.s1, .int .u8 s.s2, .int .u8 s.s3, .int .u8 s.s4, .int .u8 s.s5]) (.int .i64 (k : Int))).run Tryz.prog w = .ok (.int .u8 x) w := by
  have hk : k < 6 := (List.getElem?_eq_some_iff.1 h).1
  match k, hk with
  | 0, _ => simp [Sg.l] at h; rw [← h]; exact idx30_0 s w
  | 1, _ => simp [Sg.l] at h; rw [← h]; exact idx30_1 s w
  | 2, _ => simp [Sg.l] at h; rw [← h]; exact idx30_2 s w
  | 3, _ => simp [Sg.l] at h; rw [← h]; exact idx30_3 s w
  | 4, _ => simp [Sg.l] at h; rw [← h]; exact idx30_4 s w
  | 5, _ => simp [Sg.l] at h; rw [← h]; exact idx30_5 s w
theorem sg_at {s : Sg} {k : Nat} {x : Int} (h : s.l[k]? = some x) : s.l.getD k 0 = x := by rw [List.getD_eq_getElem?_getD, h]; rfl
theorem fit_no {fs : List Fd} {a s : Sg} {k : Nat} {x y : Int} (hx : a.l[k]? = some x) (hy : s.l[k]? = some y) (h : fit1 fs k x y = false) : fitB fs a s = false := by
  unfold fitB
  rw [List.all_eq_false]
  exact ⟨k, List.mem_range.2 (List.getElem?_eq_some_iff.1 hx).1, by rw [sg_at hx, sg_at hy, h]; simp⟩
theorem fit_yes {fs : List Fd} {a s : Sg} (h : ∀ (k : Nat) x y, k < 6 → a.l[k]? = some x → s.l[k]? = some y → fit1 fs k x y = true) : fitB fs a s = true := by
  unfold fitB
  rw [List.all_eq_true]
  intro k hk
  have hk := List.mem_range.1 hk
  obtain ⟨x, hx⟩ : ∃ x, a.l[k]? = some x := ⟨_, List.getElem?_eq_getElem (by simpa [Sg.l] using hk)⟩
  obtain ⟨y, hy⟩ : ∃ y, s.l[k]? = some y := ⟨_, List.getElem?_eq_getElem (by simpa [Sg.l] using hk)⟩
  rw [sg_at hx, sg_at hy]
  exact h k x y hk hx hy
theorem shr_bit {V n : Nat} (hV : V < 256) : (bits BinOp.and IntKind.u8 ((V : Int) / (2 : Int) ^ n) 1 == 0) = !V.testBit n := by
  have e1 : (V : Int) / (2 : Int) ^ n = ((V / 2 ^ n : Nat) : Int) := by push_cast; rfl
  have h1 : V / 2 ^ n < 256 := Nat.lt_of_le_of_lt (Nat.div_le_self _ _) hV
  have e2 : bits BinOp.and IntKind.u8 ((V / 2 ^ n : Nat) : Int) ((1 : Nat) : Int) = ((V / 2 ^ n &&& 1 : Nat) : Int) := (bits_nat .u8 8 (by decide) (fun n h0 h1 => u8_wrap_id h0 (by simpa using h1)) (V / 2 ^ n) 1 (by omega) (by omega)).1
  rw [e1, show (1 : Int) = ((1 : Nat) : Int) from rfl, e2]
  unfold Nat.testBit
  rw [Nat.shiftRight_eq_div_pow, Nat.and_comm]
  generalize (1 &&& V / 2 ^ n : Nat) = q
  rw [Bool.eq_iff_iff]
  simp
theorem lkX_lt {fs : List Fd} (h : ∀ f ∈ fs, f.seen ≤ 4) (i : Nat) : lkX fs i < 32 := by
  unfold lkX lkF
  split
  · exact pow_lt32 (by omega)
  · exact lkG_lt fs _ _ (pow_lt32 (by omega)) h
set_option maxRecDepth 100000 in
set_option maxHeartbeats 3200000 in
theorem fits_any (fs : List Fd) (a s : Sg) (hf : ∀ f ∈ fs, f.seen ≤ 4) (ha : a.ok) (hs : s.ok) (hac : clearB a = true) (hss : sightB s = true) (w : World) :
    Calls Tryz.prog 157 #[lkV fs, .agg #[.int .u8 a.s0, .int .u8 a.s1, .int .u8 a.s2, .int .u8 a.s3, .int .u8 a.s4, .int .u8 a.s5], .agg #[.int .u8 s.s0, .int .u8 s.s1, .int .u8 s.s2, .int .u8 s.s3, .int .u8 s.s4, .int .u8 s.s5]] w fun e w' => e = .returned (.bool (fitB fs a s)) ∧ Kept w w' := by
  obtain ⟨W1, hW1⟩ : ∃ W1, W1 = w.alloc (.cells (lkL (lkX fs)).toArray 120) := ⟨_, rfl⟩
  obtain ⟨W2, hW2⟩ : ∃ W2, W2 = W1.alloc (.cells #[.int .u8 a.s0, .int .u8 a.s1, .int .u8 a.s2, .int .u8 a.s3, .int .u8 a.s4, .int .u8 a.s5] 30) := ⟨_, rfl⟩
  obtain ⟨W3, hW3⟩ : ∃ W3, W3 = W2.alloc (.cells #[.int .u8 s.s0, .int .u8 s.s1, .int .u8 s.s2, .int .u8 s.s3, .int .u8 s.s4, .int .u8 s.s5] 39) := ⟨_, rfl⟩
  have z1 : W1.heap.size = w.heap.size + 1 := by rw [hW1]; simp
  have z2 : W2.heap.size = w.heap.size + 1 + 1 := by rw [hW2]; simp [z1]
  have k13 : Kept W1 W3 := by rw [hW3, hW2]; exact ((Kept.refl _).alloc _).alloc _
  have HB := Lib.hid (show BlkF W3 w.heap.size (lkX fs) by
    have h0 : BlkF W1 w.heap.size (lkX fs) := by rw [hW1]; exact heap_alloc_new w _
    exact h0.kept k13)
  have HR := Lib.hid (show RowC W3 (w.heap.size + 1 + 1) (sgV s) by rw [hW3, ← z2]; exact RowC.new W2 (sgV s) 39)
  have HK := Lib.hid (show Kept w W3 by rw [hW3, hW2, hW1]; exact (((Kept.refl _).alloc _).alloc _).alloc _)
  have HW : RowKit.Hid (W3 = ((w.alloc (.cells (lkL (lkX fs)).toArray 120)).alloc (.cells #[.int .u8 a.s0, .int .u8 a.s1, .int .u8 a.s2, .int .u8 a.s3, .int .u8 a.s4, .int .u8 a.s5] 30)).alloc (.cells #[.int .u8 s.s0, .int .u8 s.s1, .int .u8 s.s2, .int .u8 s.s3, .int .u8 s.s4, .int .u8 s.s5] 39)) := Lib.hid (by rw [hW3, hW2, hW1])
  have HA := Lib.hid (Sg.ok_l ha)
  have HSO := Lib.hid (Sg.ok_l hs)
  have HF := Lib.hid hf
  have HAC := Lib.hid (show ∀ x ∈ a.l, x ≤ 4 from fun x hx => by
    unfold clearB at hac
    have := List.all_eq_true.1 hac x hx
    simpa using this)
  have HSS := Lib.hid (show ∀ x ∈ s.l, x ≤ 4 ∨ x = 9 from fun x hx => by
    unfold sightB at hss
    simp only [Bool.not_eq_true'] at hss
    have := List.any_eq_false.1 hss x hx
    unfold badB at this
    simp at this
    omega)
  unfold lkV
  clear hW1 hW2 hW3 z1 z2 k13 ha hs hf hac hss
  go_enter Tryz.func157, Tryz.ntmps157
  go_wp2
  rw [← HW.out]
  go_loop [11] (fun i => ∃ k : Nat, k ≤ 6 ∧ i = .int .i64 k ∧ (∀ j x y, j < k → a.l[j]? = some x → s.l[j]? = some y → fit1 fs j x y = true)) (fun i => 6 - (intOf i).toNat)
  case atStart => exact ⟨0, by omega, by first | rfl | go_num, fun j x y hj => by omega⟩
  case round =>
    obtain ⟨k, hk, rfl, ho⟩ := hrel
    have Ho := Lib.hid ho
    clear ho
    by_cases hlt : k < 6
    · obtain ⟨x, hx⟩ : ∃ x, a.l[k]? = some x := ⟨_, List.getElem?_eq_getElem (by simpa [Sg.l] using hlt)⟩
      obtain ⟨y, hy⟩ : ∃ y, s.l[k]? = some y := ⟨_, List.getElem?_eq_getElem (by simpa [Sg.l] using hlt)⟩
      have hix := idx30 a k x hx
      have hcy := (HR.out k _ (sgV_at hy)).1
      have ly := cell_lt hcy
      have hxu := HA.out x (List.mem_of_getElem? hx)
      have hyu := HSO.out y (List.mem_of_getElem? hy)
      have hx4 := HAC.out x (List.mem_of_getElem? hx)
      have hy4 := HSS.out y (List.mem_of_getElem? hy)
      obtain ⟨hx0, _⟩ := hxu
      obtain ⟨hy0, _⟩ := hyu
      have hk0 : (0 : Int) ≤ (k : Int) := by omega
      have hk1 : (k : Int) < 6 := by omega
      have Hx := Lib.hid hx
      have Hy := Lib.hid hy
      clear hx hy
      by_cases h9 : y = 9
      · subst h9
        go_wp2
        go_round
        case rel =>
          refine ⟨k + 1, by omega, by go_num, fun j u v hj hu hv => ?_⟩
          rcases Nat.lt_or_eq_of_le (Nat.le_of_lt_succ hj) with h | h
          · exact Ho.out j u v h hu hv
          · subst h
            have := Hy.out
            rw [hv] at this
            cases this
            simp [fit1]
        case measure => simp [intOf]; omega
      · have hne : (y != 9) = true := by simpa using h9
        obtain ⟨xn, hxn⟩ : ∃ xn : Nat, x = (xn : Int) := ⟨x.toNat, by omega⟩
        obtain ⟨yn, hyn⟩ : ∃ yn : Nat, y = (yn : Int) := ⟨y.toNat, by omega⟩
        subst hxn
        subst hyn
        have hxn4 : xn ≤ 4 := by omega
        have hyn4 : yn ≤ 4 := by omega
        have hq := (HB.out.cell (i := k * 5 + xn) (by omega)).1
        have lb := HB.out.lt
        obtain ⟨V, hV⟩ : ∃ V, lkX fs (k * 5 + xn) = V := ⟨_, rfl⟩
        rw [hV] at hq
        have hx1 : (xn : Int) < 5 := by omega
        have hlt32 := lkX_lt HF.out (k * 5 + xn)
        rw [hV] at hlt32
        have hsb := shr_bit (n := yn) (show V < 256 by omega)
        have HF1 : RowKit.Hid (fit1 fs k (xn : Int) (yn : Int) = V.testBit yn) := Lib.hid (by
          unfold fit1
          have e1 : ((yn : Int) == 9) = false := by simpa using h9
          have e2 : lkF fs k xn = V := by
            rw [← hV]; unfold lkX
            rw [show (k * 5 + xn) / 5 = k by omega, show (k * 5 + xn) % 5 = xn by omega]
          rw [e1, Int.toNat_natCast, Int.toNat_natCast, e2]; rfl)
        clear hlt32 hV
        cases hb : V.testBit yn
        · rw [hb, Bool.not_false] at hsb
          rw [hb] at HF1
          go_wp2
          go_ret
          exact ⟨ret_bool (fit_no Hx.out Hy.out HF1.out).symm, HK.out⟩
        · rw [hb, Bool.not_true] at hsb
          rw [hb] at HF1
          go_wp2
          go_round
          case rel =>
            refine ⟨k + 1, by omega, by go_num, fun j u v hj hu hv => ?_⟩
            rcases Nat.lt_or_eq_of_le (Nat.le_of_lt_succ hj) with h | h
            · exact Ho.out j u v h hu hv
            · subst h
              have h1 := Hx.out
              have h2 := Hy.out
              rw [hu] at h1
              rw [hv] at h2
              cases h1
              cases h2
              exact HF1.out
          case measure => simp [intOf]; omega
    · obtain rfl : k = 6 := by omega
      have HY := Lib.hid (fit_yes Ho.out)
      go_wp2
      go_ret
      exact ⟨ret_bool HY.out.symm, HK.out⟩
end Go.Proofs.YtologmoanaccpaaGreatDoor
