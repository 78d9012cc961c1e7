/- joined with plus -/
import Derived.Test.YtjaicilnlgjdcaaVo
namespace Go.Proofs.Ytjaicilnlgjdcaa
set_option linter.all false
open Go.RowKit

theorem ivOk_take {xs : List Iv} (h : ivOk xs = true) (k : Nat) : ivOk (xs.take k) = true := by
  unfold ivOk at h ⊢
  rw [List.all_eq_true] at h ⊢
  exact fun x hx => h x (List.mem_of_mem_take hx)
theorem ivHi_take {xs : List Iv} (h : ivOk xs = true) (k : Nat) : ivHi (xs.take k) ≤ ivHi xs := by
  have e : xs = xs.take k ++ xs.drop k := (List.take_append_drop k xs).symm
  have h2 : ivOk (xs.drop k) = true := by
    unfold ivOk at h ⊢
    rw [List.all_eq_true] at h ⊢
    exact fun x hx => h x (List.mem_of_mem_drop hx)
  have h3 := (iv_bd _ h2).2.2.1
  have e2 : ivHi xs = ivHi (xs.take k) + ivHi (xs.drop k) := by
    conv => lhs; rw [e]
    unfold ivHi; rw [List.map_append, List.sum_append]
  omega
def JoinRes (xs : List Iv) (w : World) (e : Ending) (w' : World) : Prop :=
  ((ivHi xs ≤ 100000000 ∧ e = .returned (.agg #[.int .i64 (ivLo xs), .int .i64 (ivHi xs), .bool true])) ∨ (100000000 < ivHi xs ∧ e = .panicked limPanic)) ∧ Kept w w'

set_option maxRecDepth 100000 in
set_option maxHeartbeats 2000000 in
theorem joinedPlus_any (A : Option Addr) (n c : Nat) (xs : List Iv) (w : World) (hT : SliK 3 ivCells w A n c xs) (hlt : n ≤ 200) (hok : ivOk xs = true) (hso : ivSo xs = true) :
    Calls Try.prog 80 #[.agg #[.int .i64 0, .int .i64 0, .bool true], .slice A n c, .func (.func 82) #[] #[]] w (JoinRes xs w) := by
  have HT := Lib.hid hT
  have hnc := hT.2.1
  have hcm := hT.2.2.1
  have e82 := e82
  have HOK := Lib.hid hok
  have HSO := Lib.hid hso
  clear hT hok hso
  obtain ⟨W0, hW0⟩ : ∃ W0, W0 = (w.alloc (.cells #[.int .i64 0, .int .i64 0, .bool true] 83)).alloc (.cells #[.int .i64 0, .int .i64 0, .bool false] 83) := ⟨_, rfl⟩
  have k0 : Kept w W0 := by rw [hW0]; exact ((Kept.refl _).alloc _).alloc _
  have r0 : RowC W0 w.heap.size [.int .i64 0, .int .i64 0, .bool true] := by rw [hW0]; exact (RowC.new w [.int .i64 0, .int .i64 0, .bool true] 83).kept ((Kept.refl _).alloc _)
  have r1 : RowC W0 (w.heap.size + 1) [.int .i64 0, .int .i64 0, .bool false] := by rw [hW0]; exact RowC.atn (vs := [.int .i64 0, .int .i64 0, .bool false]) (by simp)
  have HW := Lib.hid hW0
  have R0 := Lib.hid r0
  have R1 := Lib.hid r1
  have K0 := Lib.hid k0
  clear hW0 r0 r1 k0
  go_enter Try.func80, Try.ntmps80
  go_upto_region 1 with (fail)
  rw [← HW.out]
  go_wp2_with fail
  go_loopw [11] (fun i wr => ∃ k : Nat, k ≤ n ∧ i = .int .i64 k ∧ Kept w wr ∧ RowC wr w.heap.size [.int .i64 (ivLo (xs.take k)), .int .i64 (ivHi (xs.take k)), .bool true] ∧ RowC wr (w.heap.size + 1) [.int .i64 0, .int .i64 0, .bool false] ∧ ivHi (xs.take k) ≤ 100000000) (fun i _ => n - (intOf i).toNat)
  case atStart => exact ⟨0, by omega, by first | rfl | go_num, K0.out, R0.out, R1.out, by simp [ivHi]⟩
  case round =>
    obtain ⟨k, hk, rfl, hkw, hr0, hr1, hle⟩ := hrel
    have hbd := iv_bd _ (ivOk_take HOK.out k)
    obtain ⟨sa, hsa⟩ : ∃ sa, sa = ivLo (xs.take k) := ⟨_, rfl⟩
    obtain ⟨sb, hsb⟩ : ∃ sb, sb = ivHi (xs.take k) := ⟨_, rfl⟩
    rw [← hsa, ← hsb] at hbd hr0
    rw [← hsb] at hle
    have hb2 : 0 ≤ sa ∧ 0 ≤ sb ∧ sa ≤ sb := by omega
    have HSA := Lib.hid hsa
    have HSB := Lib.hid hsb
    clear hbd hsa hsb
    obtain ⟨g0, g1, g2⟩ := (⟨(hr0 0 _ rfl).1, (hr0 1 _ rfl).1, (hr0 2 _ rfl).1⟩ : _ ∧ _ ∧ _)
    obtain ⟨f0, f1, f2⟩ := (⟨(hr0 0 _ rfl).2, (hr0 1 _ rfl).2, (hr0 2 _ rfl).2⟩ : _ ∧ _ ∧ _)
    have lg := cell_lt g0
    have RR0 := Lib.hid hr0
    have RR1 := Lib.hid hr1
    clear hr0 hr1
    by_cases hlt2 : k < n
    · obtain ⟨b, off, hA, htab⟩ := HT.out.2.2.2 (by omega)
      subst hA
      have hxl : k < xs.length := by rw [HT.out.1]; exact hlt2
      obtain ⟨x, hx⟩ : ∃ x, xs[k]? = some x := ⟨xs[k]'hxl, List.getElem?_eq_getElem hxl⟩
      have hmem := List.mem_of_getElem? hx
      have hv : validB x.lo x.hi x.so = true := by have := HOK.out; unfold ivOk at this; exact List.all_eq_true.1 this x hmem
      have hs : x.so = true := by have := HSO.out; unfold ivSo at this; exact List.all_eq_true.1 this x hmem
      have hvb := valid_bd hv
      obtain ⟨_, _, e3, e4⟩ := iv_snoc hx
      have q0 := (hkw.cells _ _ (cell_lt (htab k x hx 0 _ rfl))).trans (htab k x hx 0 _ rfl)
      have q1 := (hkw.cells _ _ (cell_lt (htab k x hx 1 _ rfl))).trans (htab k x hx 1 _ rfl)
      have q2 := (hkw.cells _ _ (cell_lt (htab k x hx 2 _ rfl))).trans (htab k x hx 2 _ rfl)
      simp only [Nat.add_zero] at q0
      rw [hs] at q2
      obtain ⟨xl, hxl0⟩ : ∃ xl, x.lo = xl := ⟨_, rfl⟩
      obtain ⟨xh, hxh0⟩ : ∃ xh, x.hi = xh := ⟨_, rfl⟩
      rw [hxl0] at q0 hvb e3
      rw [hxh0] at q1 hvb e4
      rw [← HSA.out] at e3
      rw [← HSB.out] at e4
      have E3 := Lib.hid e3
      have E4 := Lib.hid e4
      clear htab hx hmem hv hs hxl0 hxh0 e3 e4
      have hlc : w.heap.size < wr.heap.size := lg
      by_cases hbig : sb + xh ≤ 100000000
      · have HC : RowKit.Hid (∀ W, Calls Try.prog 82 #[.agg #[.int .i64 sa, .int .i64 sb, .bool true], .agg #[.int .i64 xl, .int .i64 xh, .bool true]] W fun e w' => e = .returned (.agg #[.int .i64 (sa + xl), .int .i64 (sb + xh), .bool true]) ∧ Kept W w') := Lib.hid (fun W => plus_ok sa sb true xl xh true (by omega) (by omega) (by omega) (by omega) hbig (by omega) W)
        go_wp2_with fail
        have kx : Kept wr (wr.alloc (.cells #[.int .i64 xl, .int .i64 xh, .bool true] 83)) := (Kept.refl _).alloc _
        refine (HC.out _).mono ?_
        rintro e w3 ⟨rfl, hk3⟩
        have rr0 := RR0.out.kept (kx.trans hk3)
        have rr1 := RR1.out.kept (kx.trans hk3)
        have kk := hkw.trans (kx.trans hk3)
        obtain ⟨y0, y1, y2⟩ := (⟨(rr0 0 _ rfl).1, (rr0 1 _ rfl).1, (rr0 2 _ rfl).1⟩ : _ ∧ _ ∧ _)
        obtain ⟨z0, z1, z2⟩ := (⟨(rr0 0 _ rfl).2, (rr0 1 _ rfl).2, (rr0 2 _ rfl).2⟩ : _ ∧ _ ∧ _)
        have RX0 := Lib.hid rr0
        have RX1 := Lib.hid rr1
        have KK := Lib.hid kk
        clear rr0 rr1 kk kx
        go_wp2
        go_roundw
        case rel => exact ⟨k + 1, by omega, by go_num, (((KK.out.setCell (Nat.le_refl _) _).setCell (Nat.le_refl _) _).setCell (Nat.le_refl _) _), by rw [E3.out, E4.out]; exact ((RX0.out.put (j := 0) (by simp) _).put (j := 1) (by simp) _).put (j := 2) (by simp) _, ((RX1.out.far (by omega) _).far (by omega) _).far (by omega) _, by rw [E4.out]; exact hbig⟩
        case measure => simp [intOf]; omega
      · have HC : RowKit.Hid (∀ W, Calls Try.prog 82 #[.agg #[.int .i64 sa, .int .i64 sb, .bool true], .agg #[.int .i64 xl, .int .i64 xh, .bool true]] W fun e w' => e = .panicked limPanic ∧ Kept W w') := Lib.hid (fun W => plus_lim sa sb true xl xh true (by omega) (by omega) (by omega) W)
        have HBG : RowKit.Hid (100000000 < ivHi xs) := Lib.hid (by have := ivHi_take HOK.out (k + 1); rw [E4.out] at this; omega)
        go_wp2_with fail
        refine (HC.out _).mono ?_
        rintro e w3 ⟨rfl, hk3⟩
        go_wp2
        exact ⟨rfl, .inr ⟨HBG.out, rfl⟩, (hkw.alloc _).trans hk3⟩
    · obtain rfl : k = n := by omega
      have htk : xs.take k = xs := List.take_of_length_le (by rw [HT.out.1]; exact Nat.le_refl _)
      rw [htk] at HSA HSB
      clear htk
      obtain ⟨y0, y1, y2⟩ := (⟨(RR1.out 0 _ rfl).1, (RR1.out 1 _ rfl).1, (RR1.out 2 _ rfl).1⟩ : _ ∧ _ ∧ _)
      obtain ⟨z0, z1, z2⟩ := (⟨(RR1.out 0 _ rfl).2, (RR1.out 1 _ rfl).2, (RR1.out 2 _ rfl).2⟩ : _ ∧ _ ∧ _)
      have KK := Lib.hid hkw
      go_wp2
      refine bodyPost_ret (v := .agg #[.int .i64 sa, .int .i64 sb, .bool true]) (by simp [results, Try.results80, go_sem, y0, y1, y2]) rfl ⟨.inl ⟨by rw [← HSB.out]; exact hle, by rw [HSA.out, HSB.out]⟩, ?_⟩
      exact ((KK.out.setCell (by simp; try omega) _).setCell (by simp; try omega) _).setCell (by simp; try omega) _
end Go.Proofs.Ytjaicilnlgjdcaa
