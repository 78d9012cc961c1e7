/-
  a beast more for an owner: gain
-/
import Derived.Test.YtologmoanaccpaaGreatDoorOd
namespace Go.Proofs.YtologmoanaccpaaGreatDoor
set_option linter.all false
open Go.RowKit Go.Shelf

theorem run_store_func {P : Program} {w : World} {a : Addr} {m : Mode} (fn : Fn) (first cap : Array Value) : (store a (.func fn first cap) m).run P w = stored P w a (.func fn first cap) m := run_store P w a _ m rfl
attribute [local go_sem] run_store_func
def hrL (F : Option Addr) (n c : Nat) (cl : Nat) (wt : List Int) : List Value := .slice F n c :: .int .u64 (cl : Int) :: wt.map (Value.int .i64)
structure HasR (W : World) (hA : Option Addr) (nb cb hb ho : Nat) (ow : List Int) : Prop where
  (ln : ow.length = nb) (nc : nb ≤ cb) (cm : cb ≤ 9223372036854775807)
  (ha : 0 < nb → hA = some ⟨hb, ho, none⟩) (lt : hb < W.heap.size)
  (rh : ∀ i x, ow[i]? = some x → W.cell? ⟨hb, ho + i, none⟩ = some (.int .i64 x) ∧ W.frozen? ⟨hb, ho + i, none⟩ = false)
structure FitR (W : World) (fA : Option Addr) (nb cf fb fo : Nat) (fits : List Nat) : Prop where
  (ln : fits.length = nb) (sz : nb ≤ 60) (nc : nb ≤ cf) (cm : cf ≤ 9223372036854775807) (fs : ∀ f ∈ fits, f < 2 ^ 64)
  (fa : 0 < nb → fA = some ⟨fb, fo, none⟩) (lt : fb < W.heap.size)
  (rf : ∀ i f, fits[i]? = some f → W.cell? ⟨fb, fo + i, none⟩ = some (.int .u64 (f : Nat)))
theorem FitR.kept {w w' : World} {fA : Option Addr} {nb cf fb fo : Nat} {fits : List Nat} (h : FitR w fA nb cf fb fo fits) (hk : Kept w w') : FitR w' fA nb cf fb fo fits :=
  ⟨h.ln, h.sz, h.nc, h.cm, h.fs, h.fa, Nat.lt_of_lt_of_le h.lt hk.size, fun i f hi => (hk.cells _ _ h.lt).trans (h.rf i f hi)⟩
theorem HasR.kept {w w' : World} {hA : Option Addr} {nb cb hb ho : Nat} {ow : List Int} (h : HasR w hA nb cb hb ho ow) (hk : Kept w w') : HasR w' hA nb cb hb ho ow :=
  ⟨h.ln, h.nc, h.cm, h.ha, Nat.lt_of_lt_of_le h.lt hk.size, fun i f hi => ⟨(hk.cells _ _ h.lt).trans (h.rh i f hi).1, (hk.frozens _ _ h.lt).trans (h.rh i f hi).2⟩⟩
def GnP (w0 w : World) (hA : Option Addr) (nb cb hb ho : Nat) (fits : List Nat) (o : Nat) (ow : List Int) (e : Ending) (w' : World) : Prop :=
  ∃ ow' r, e = .returned (.bool r) ∧ HasR w' hA nb cb hb ho ow' ∧ SkV fits ow' ∧ Kept w0 w' ∧ (∀ b, b < w.heap.size → b ≠ hb → w'.heap[b]? = w.heap[b]?) ∧ w.heap.size ≤ w'.heap.size ∧
    (r = true → (∀ q : Int, q ≠ 0 → q ≠ (o : Int) → ow'.count q = ow.count q) ∧ ow'.count (o : Int) = ow.count (o : Int) + 1) ∧
    (r = false → ow' = ow ∧ ∃ a : Nat, a.testBit o = true ∧ ∀ q, a.testBit q = true → SkQ fits ow a q)
set_option maxRecDepth 100000 in
set_option maxHeartbeats 3200000 in
theorem gain_any (w0 w : World) (fA hA : Option Addr) (nb cf fb fo cb hb ho cl o : Nat) (wt : List Int) (fits : List Nat) (ow : List Int) (hk : Kept w0 w) (hf : FitR w fA nb cf fb fo fits) (hh : HasR w hA nb cb hb ho ow) (hv : SkV fits ow) (hne : hb ≠ fb) (hn0 : w0.heap.size ≤ hb) (ho1 : 1 ≤ o) (ho2 : o ≤ 40) :
    Calls Tryz.prog 130 #[.agg (hrL fA nb cf cl wt).toArray, .slice hA nb cb, .int .i64 (o : Int)] w (GnP w0 w hA nb cb hb ho fits o ow) := by
  have HF := Lib.hid hf
  have HH := Lib.hid hh
  have HV := Lib.hid hv
  have HK := Lib.hid hk
  have hmf : ∀ (fn : Fn) (first cap : Array Value) (w : World), (Instr.makeFunc fn first cap).run Tryz.prog w = .ok (.func fn first cap) w := fun _ _ _ _ => rfl
  clear hf hh hv hk
  go_enter Tryz.func130, Tryz.ntmps130
  go_wp2_with fail
  obtain ⟨Wa, hWa⟩ : ∃ Wa, Wa = w.alloc (.cells (hrL fA nb cf cl wt).toArray 153) := ⟨_, rfl⟩
  obtain ⟨Wb, hWb⟩ : ∃ Wb, Wb = Wa.alloc (.cells #[.slice hA nb cb] 43) := ⟨_, rfl⟩
  obtain ⟨Wc, hWc⟩ : ∃ Wc, Wc = Wb.alloc (.cells #[.int .u64 0] 117) := ⟨_, rfl⟩
  obtain ⟨Wd, hWd⟩ : ∃ Wd, Wd = Wc.alloc (.cells #[.func (.func 183) #[] #[.pointer (some ⟨w.heap.size + 1 + 1, 0, none⟩), .pointer (some ⟨w.heap.size, 0, none⟩), .pointer (some ⟨w.heap.size + 1, 0, none⟩), .pointer (some ⟨w.heap.size + 1 + 1 + 1, 0, none⟩)]] 102) := ⟨_, rfl⟩
  have za : Wa.heap.size = w.heap.size + 1 := by rw [hWa]; simp
  have zb : Wb.heap.size = w.heap.size + 1 + 1 := by rw [hWb]; simp [za]
  have zc : Wc.heap.size = w.heap.size + 1 + 1 + 1 := by rw [hWc]; simp [zb]
  have ka : Kept w Wa := by rw [hWa]; exact (Kept.refl _).alloc _
  have kb : Kept Wa Wb := by rw [hWb]; exact (Kept.refl _).alloc _
  have kc : Kept Wb Wc := by rw [hWc]; exact (Kept.refl _).alloc _
  have kd : Kept Wc Wd := by rw [hWd]; exact (Kept.refl _).alloc _
  have kwd := ka.trans (kb.trans (kc.trans kd))
  have ra : RowC Wa w.heap.size (hrL fA nb cf cl wt) := by rw [hWa]; exact RowC.new w _ 153
  have rb : RowC Wb (w.heap.size + 1) [.slice hA nb cb] := by rw [hWb, ← za]; exact RowC.new Wa [.slice hA nb cb] 43
  have rc : RowC Wc (w.heap.size + 1 + 1) [.int .u64 0] := by rw [hWc, ← zb]; exact RowC.new Wb [.int .u64 0] 117
  have rd : RowC Wd (w.heap.size + 1 + 1 + 1) [.func (.func 183) #[] #[.pointer (some ⟨w.heap.size + 1 + 1, 0, none⟩), .pointer (some ⟨w.heap.size, 0, none⟩), .pointer (some ⟨w.heap.size + 1, 0, none⟩), .pointer (some ⟨w.heap.size + 1 + 1 + 1, 0, none⟩)]] := by
    rw [hWd, ← zc]; exact RowC.new Wc [_] 102
  have hlt := HH.out.lt
  have hfl := HF.out.lt
  have hE : SkE.ok ⟨w0, w, w.heap.size, w.heap.size + 1 + 1, w.heap.size, w.heap.size + 1, w.heap.size + 1 + 1 + 1, hb, ho, fb, fo, nb, cb, cf, fA, hA, fits⟩ := by
    refine ⟨?_, ?_, ?_, ?_, ?_, ?_, ?_, ?_, hne, ?_, ?_, hn0, HF.out.ln, HF.out.sz, HF.out.nc, HH.out.nc, HF.out.cm, HH.out.cm, HF.out.fs, HF.out.fa, HH.out.ha⟩ <;> (have := HK.out.size; dsimp only; omega)
  have hS : SkS ⟨w0, w, w.heap.size, w.heap.size + 1 + 1, w.heap.size, w.heap.size + 1, w.heap.size + 1 + 1 + 1, hb, ho, fb, fo, nb, cb, cf, fA, hA, fits⟩ Wd 0 ow := by
    have c1 := (rc.kept kd) 0 _ rfl
    have c2 := (rb.kept (kc.trans kd)) 0 _ rfl
    have c3 := (ra.kept (kb.trans (kc.trans kd))) 0 _ rfl
    refine ⟨HK.out.trans kwd, by decide, c1.1, c1.2, c3.1, c2.1, (rd 0 _ rfl).1, (HF.out.kept kwd).rf, (HH.out.kept kwd).rh, HV.out, fun b hb _ => kwd.block b hb, kwd.size⟩
  have HSK := Lib.hid (seek_any _ hE 64 o 0 ow Wd hS ho1 ho2 (Nat.zero_testBit o) (by unfold mu; exact Nat.le_trans (List.length_filter_le _ _) (by simp)))
  rw [← hWa, ← hWb, ← hWc, ← hWd]
  clear hWa hWb hWc hWd za zb zc ka kb kc kd kwd ra rb rc rd hE hS
  refine HSK.out.mono ?_
  rintro e w5 (⟨a', ow', rfl, hs, t1, t2, t3⟩ | ⟨a', rfl, hs, f1, f2, f3⟩)
  · have HS5 := Lib.hid hs
    have T1 := Lib.hid t1
    have T2 := Lib.hid t2
    clear hs t1 t2 t3
    go_wp2
    go_ret
    have h := HS5.out
    exact ⟨ow', true, rfl, ⟨h.v.1.trans HF.out.ln, HH.out.nc, HH.out.cm, HH.out.ha, Nat.lt_of_lt_of_le hlt h.sz, h.rh⟩, h.v, h.k, h.q, h.sz, (fun _ => ⟨T1.out, T2.out⟩), (fun e => by cases e)⟩
  · have HS5 := Lib.hid hs
    have F1 := Lib.hid f1
    have F3 := Lib.hid f3
    clear hs f1 f2 f3
    go_wp2
    go_ret
    have h := HS5.out
    exact ⟨ow, false, rfl, ⟨h.v.1.trans HF.out.ln, HH.out.nc, HH.out.cm, HH.out.ha, Nat.lt_of_lt_of_le hlt h.sz, h.rh⟩, h.v, h.k, h.q, h.sz, (fun e => by cases e), fun _ => ⟨rfl, a', F1.out, fun q hq => F3.out q hq (Nat.zero_testBit q)⟩⟩
end Go.Proofs.YtologmoanaccpaaGreatDoor
