/-
  the sample of T3: told
-/
import Derived.Test.YtologmoanaccpaaDoorNc
import Derived.Test.YtologmoanaccpaaDoorTj
namespace Go.Proofs.YtologmoanaccpaaDoor
set_option linter.all false
open Go.RowKit Go.Shelf

theorem sla_row {α : Type} {enc : α → List Value} {k : Nat} {ok : α → Prop} {W : World} {b n c : Nat} {xs : List α} (hk : ∀ x, (enc x).length = k) (hn : xs.length = n) (hc : n ≤ c) (hm : c ≤ 9223372036854775807) (ho : ∀ x ∈ xs, ok x) (hr : RowC W b (xs.flatMap enc)) : SlA enc k ok W (some ⟨b, 0, none⟩) n c xs := by
  refine ⟨hn, hc, hm, ho, fun _ => ⟨b, 0, rfl, fun i x hx j v hv => ?_⟩⟩
  rw [Nat.zero_add]
  refine (hr (i * k + j) v ?_).1
  have hj : j < k := by rw [← hk x]; exact (List.getElem?_eq_some_iff.1 hv).1
  clear hn ho hr hc hm
  induction xs generalizing i with
  | nil => simp at hx
  | cons y ys ih =>
    rw [List.flatMap_cons]
    cases i with
    | zero =>
      simp at hx
      subst hx
      rw [List.getElem?_append_left (by rw [hk]; omega)]
      simpa using hv
    | succ i =>
      rw [List.getElem?_append_right (by rw [hk, Nat.succ_mul]; omega), hk, show (i + 1) * k + j - k = i * k + j by rw [Nat.succ_mul]; omega]
      exact ih i (by simpa using hx)
def tMs : List Mk := [⟨1, 0, 9, ⟨1, 0, 1, 0, 0, 0⟩⟩, ⟨2, 0, 9, ⟨1, 0, 2, 0, 0, 0⟩⟩]
def tFs : List Fd := [⟨1, 0⟩, ⟨2, 0⟩]
def tSs : List Sg := [⟨1, 0, 1, 0, 0, 0⟩, ⟨1, 0, 0, 0, 0, 0⟩]
theorem tMs_ok : ∀ x ∈ tMs, x.ok := fun x hx => by
  simp [tMs] at hx
  rcases hx with rfl | rfl <;> simp [Mk.ok, i64, Sg.ok, u8]
theorem tFs_ok : ∀ x ∈ tFs, x.ok := fun x hx => by
  simp [tFs] at hx
  rcases hx with rfl | rfl <;> simp [Fd.ok, u8]
theorem tSs_ok : ∀ x ∈ tSs, x.ok := fun x hx => by
  simp [tSs] at hx
  rcases hx with rfl | rfl <;> simp [Sg.ok, u8]
theorem t_err : rgE tMs tFs 0 tSs 1 = 0 := by decide +kernel
theorem t_sure : cntN (sureB tMs tFs 0 1) tSs = 1 := by decide +kernel
theorem t_per : cntN (perB tMs tFs 0 1) tSs = 1 := by decide +kernel
theorem t_least : Tly.leastOf 0 1 = 1 := by
  unfold Tly.leastOf
  refine Tly.firstN_eq (by omega) (fun j hj => ?_) (fun _ => by decide)
  obtain rfl : j = 0 := by omega
  decide
theorem t_below : Tly.belowOf 0 2 = 99998 := by
  unfold Tly.belowOf
  refine Tly.firstN_eq (by omega) (fun j hj => ?_) (fun _ => by decide)
  unfold Tly.loI
  simp
  omega
theorem t_oc : Tly.ocI 0 0 1 0 1 1 1 = (1, 2, true) := by
  unfold Tly.ocI
  rw [if_pos (by decide +kernel)]
  unfold Tly.spI Tly.mostOf
  rw [show (1 : Int) + 1 = 2 from rfl, t_least, t_below]
  rfl
theorem t_ok : Tly.errI (Tly.ocOk 0 0 1 0 1 1 1) = 0 := by decide +kernel
set_option maxRecDepth 100000 in
set_option maxHeartbeats 6400000 in
theorem told_any (w : World) : Calls Tryd.prog 5 #[] w fun e w' => e = .returned (.bool true) ∧ Kept w w' := by
  have HO : RowKit.Hid (∀ W, Calls Tryd.prog 9 #[.agg #[.int .i64 0, .int .i64 0], .agg #[.int .i64 1, .int .i64 0, .int .i64 1, .int .i64 1, .int .i64 1]] W fun e w' => e = .returned (.tuple #[.agg #[.int .i64 1, .int .i64 2, .bool true], .int .i64 0]) ∧ Kept W w') := Lib.hid (fun W => by
    have h := Tly.ofCount_any 0 0 1 0 1 1 1 W
    rw [t_oc, t_ok] at h
    exact h)
  go_enter Tryd.func5, Tryd.ntmps5
  go_wp2_with fail
  obtain ⟨Wa, hWa⟩ : ∃ Wa, Wa = w.alloc (.cells (tMs.flatMap mkC).toArray 58) := ⟨_, rfl⟩
  obtain ⟨Wb, hWb⟩ : ∃ Wb, Wb = Wa.alloc (.cells (tFs.flatMap fdC).toArray 60) := ⟨_, rfl⟩
  obtain ⟨Wc, hWc⟩ : ∃ Wc, Wc = Wb.alloc (.cells #[.slice (some ⟨w.heap.size, 0, none⟩) 2 2, .slice (some ⟨w.heap.size + 1, 0, none⟩) 2 2] 25) := ⟨_, rfl⟩
  obtain ⟨Wd, hWd⟩ : ∃ Wd, Wd = Wc.alloc (.cells (tSs.flatMap sgV).toArray 38) := ⟨_, rfl⟩
  have za : Wa.heap.size = w.heap.size + 1 := by rw [hWa]; simp
  have zb : Wb.heap.size = w.heap.size + 1 + 1 := by rw [hWb]; simp [za]
  have zc : Wc.heap.size = w.heap.size + 1 + 1 + 1 := by rw [hWc]; simp [zb]
  have ka : Kept w Wa := by rw [hWa]; exact (Kept.refl _).alloc _
  have kb : Kept Wa Wb := by rw [hWb]; exact (Kept.refl _).alloc _
  have kc : Kept Wb Wc := by rw [hWc]; exact (Kept.refl _).alloc _
  have kd : Kept Wc Wd := by rw [hWd]; exact (Kept.refl _).alloc _
  have ra : RowC Wa w.heap.size (tMs.flatMap mkC) := by rw [hWa]; exact RowC.new w _ 58
  have rb : RowC Wb (w.heap.size + 1) (tFs.flatMap fdC) := by rw [hWb, ← za]; exact RowC.new Wa _ 60
  have rd : RowC Wd (w.heap.size + 1 + 1 + 1) (tSs.flatMap sgV) := by rw [hWd, ← zc]; exact RowC.new Wc _ 38
  have hs : SmA Wd (some ⟨w.heap.size, 0, none⟩) 2 2 tMs (some ⟨w.heap.size + 1, 0, none⟩) 2 2 tFs := ⟨sla_row (fun _ => rfl) rfl (by omega) (by omega) tMs_ok (ra.kept (kb.trans (kc.trans kd))), sla_row (fun _ => rfl) rfl (by omega) (by omega) tFs_ok (rb.kept (kc.trans kd))⟩
  have hf : SlA sgV 6 Sg.ok Wd (some ⟨w.heap.size + 1 + 1 + 1, 0, none⟩) 2 2 tSs := sla_row (fun _ => rfl) rfl (by omega) (by omega) tSs_ok rd
  have hr := range_any _ _ _ 2 2 2 2 2 2 tMs tFs 0 1 tSs Wd hs hf
  have HK := Lib.hid (ka.trans (kb.trans (kc.trans kd)))
  rw [hWd, hWc, hWb, hWa] at hr
  refine Calls.mono (show Calls Tryd.prog 6 _ _ _ from hr) ?_
  rw [← hWa, ← hWb, ← hWc, ← hWd]
  clear hr hWa hWb hWc hWd za zb zc ka kb kc kd ra rb rd hs hf
  rintro e w1 ⟨⟨h0, _⟩ | ⟨_, rfl⟩, hk1⟩
  · exact absurd t_err h0
  rw [show (1 : Int).toNat = 1 from rfl, t_sure, t_per]
  have HK1 := Lib.hid (HK.out.trans hk1)
  clear hk1
  go_wp2_with fail
  refine (HO.out _).mono ?_
  rintro e w2 ⟨rfl, hk2⟩
  have HK2 := Lib.hid (HK1.out.trans hk2)
  clear hk2
  go_wp2
  go_ret
  refine ⟨?_, ?_⟩
  · first | rfl | (simp)
  · exact HK2.out.alloc _
end Go.Proofs.YtologmoanaccpaaDoor
