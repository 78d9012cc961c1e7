/-
  ReadSight, where the line has a form
  the sample's smits
  the sample: closed facts
  the sample: what the contracts' results are
  SameInts, SamePairs
-/
import Derived.Test.YtologmoanaccpaaGreatDoorBL
import Derived.Test.YtologmoanaccpaaGreatDoorBC
import Derived.Test.YtologmoanaccpaaGreatDoorBB
import Derived.Test.YtologmoanaccpaaGreatDoorBI
import Derived.Test.YtologmoanaccpaaGreatDoorBG
import Derived.BigQuiet
import Derived.Deep.Quiet
namespace Go.Proofs.YtologmoanaccpaaGreatDoor
set_option linter.all false
open Go.RowKit Go.Shelf

def spB : ByteArray := ⟨#[32]⟩
def EnvM (w : World) : Prop := ∃ m, w.cell? ⟨2, 0, none⟩ = some (.int .i64 m)
theorem EnvM.kept {w w' : World} (h : EnvM w) (hk : Kept w w') : EnvM w' := by
  obtain ⟨m, hm⟩ := h
  exact ⟨m, (hk.cells _ _ (cell_lt hm)).trans hm⟩
/-- a line with a form: its words -/
def lineOk (s : ByteArray) (ws : List ByteArray) : Prop :=
  s.size < 4294967281 ∧ Lib.splitB spB 0 (Lib.countB s spB) s = ws ∧ Lib.countB s spB = 5 ∧ ws.length = 6 ∧ ∀ k x, ws[k]? = some x → rdPk k x
theorem catch_idle (p q : Addr) (w : World) :
    CallsD Tryz.prog 196 #[.pointer (some p), .pointer (some q)] .returning w fun e u' w' => e = .returned (.tuple #[]) ∧ u' = .returning ∧ w' = w := by
  refine callsD_of_wpS Tryz.func196 rfl fun c₀ cs hu => ?_
  apply wpS_seq
  apply wpS_region
  simp [wpOpsS, go_sem, recoverD, hu, Tryz.ntmps196, Exit.thenS]
  refine wpS_cond (t := false) (by simp [Act.eval, Array.replicate]) ?_
  simp only [Bool.false_eq_true, if_false]
  refine wpS_of_wp (wp_skip ?_)
  cases c₀
  simp_all [bodyPostS, results, Tryz.results196]
set_option maxRecDepth 100000 in
set_option maxHeartbeats 2000000 in
theorem readClosure_good (bp : Nat) (s : ByteArray) (ws : List ByteArray) (hs : lineOk s ws) (w : World) (hE : EnvM w) (hc : w.cell? ⟨bp, 0, none⟩ = some (.string s)) :
    Calls Tryz.prog 146 #[.pointer (some ⟨bp, 0, none⟩)] w fun e w' => e = .returned (rdA ws) ∧ Kept w w' := by
  obtain ⟨h1, h2, h3, h4, h5⟩ := hs
  obtain ⟨v0, v1, v2, v3, v4, v5, hv⟩ : ∃ v0 v1 v2 v3 v4 v5 : Int, rdR ws 6 = [.int .u8 v0, .int .u8 v1, .int .u8 v2, .int .u8 v3, .int .u8 v4, .int .u8 v5] := ⟨_, _, _, _, _, _, rfl⟩
  have hrd : rdA ws = .agg #[.int .u8 v0, .int .u8 v1, .int .u8 v2, .int .u8 v3, .int .u8 v4, .int .u8 v5] := by unfold rdA; rw [hv]
  rw [hrd]
  obtain ⟨W1, hW1⟩ : ∃ W1, W1 = w.alloc (.cells #[.int .u8 0, .int .u8 0, .int .u8 0, .int .u8 0, .int .u8 0, .int .u8 0] 39) := ⟨_, rfl⟩
  have k1 : Kept w W1 := by rw [hW1]; exact (Kept.refl w).alloc _
  have r1 : RowC W1 w.heap.size [.int .u8 0, .int .u8 0, .int .u8 0, .int .u8 0, .int .u8 0, .int .u8 0] := by rw [hW1]; exact RowC.new w _ 39
  have c1 : W1.cell? ⟨bp, 0, none⟩ = some (.string s) := (k1.cells _ _ (cell_lt hc)).trans hc
  obtain ⟨m, hm⟩ := hE.kept k1
  have HSP := Lib.hid (Tryz.strings_Split s spB m W1 h1 hm (by decide))
  rw [h3, show 5 + 1 = 6 from rfl] at HSP
  have h2' := h2
  rw [h3] at h2'
  rw [h2'] at HSP
  obtain ⟨W2, hW2⟩ : ∃ W2, W2 = W1.alloc (.cells (ws.map Value.string).toArray 9) := ⟨_, rfl⟩
  have k2 : Kept W1 W2 := by rw [hW2]; exact (Kept.refl W1).alloc _
  have r2 : RowC W2 W1.heap.size (ws.map Value.string) := by rw [hW2]; exact RowC.new W1 _ 9
  rw [← hW2] at HSP
  have HRS := Lib.hid (readSigns_good W1.heap.size 0 6 ws h4 h5 W2 (fun j x hj => by rw [Nat.zero_add]; exact (r2 j (.string x) (by rw [List.getElem?_map, hj]; rfl)).1))
  rw [hrd] at HRS
  have HR1 := Lib.hid (r1.kept k2)
  have HK2 := Lib.hid (k1.trans k2)
  have HW1 := Lib.hid hW1
  have lc := cell_lt c1
  clear hW1 hW2 k1 r1 k2 r2 h1 h2 h2' h3 h4 h5 hrd hv hc hE hm
  unfold spB at HSP
  go_enter Tryz.func146, Tryz.ntmps146
  go_upto_region 1 with (fail)
  rw [← HW1.out]
  go_wp2_with fail
  refine HSP.out.mono ?_
  rintro e w2 ⟨rfl, rfl⟩
  go_wp2_with fail
  refine HRS.out.mono ?_
  rintro e w3 ⟨rfl, hk3⟩
  have hb := HR1.out.kept hk3
  obtain ⟨z01, z02⟩ := hb 0 _ rfl
  obtain ⟨z11, z12⟩ := hb 1 _ rfl
  obtain ⟨z21, z22⟩ := hb 2 _ rfl
  obtain ⟨z31, z32⟩ := hb 3 _ rfl
  obtain ⟨z41, z42⟩ := hb 4 _ rfl
  obtain ⟨z51, z52⟩ := hb 5 _ rfl
  have lz := cell_lt z01
  have HKE := Lib.hid (HK2.out.trans hk3)
  clear hb hk3
  go_wp2_with fail
  refine bodyPost_ret (v := .agg #[.int .u8 v0, .int .u8 v1, .int .u8 v2, .int .u8 v3, .int .u8 v4, .int .u8 v5]) (by simp [results, Tryz.results146, go_sem, z01, z11, z21, z31, z41, z51]) rfl ⟨rfl, ?_⟩
  exact (((((HKE.out.setCell (by simp; try omega) _).setCell (by simp; try omega) _).setCell (by simp; try omega) _).setCell (by simp; try omega) _).setCell (by simp; try omega) _).setCell (by simp; try omega) _
set_option maxRecDepth 100000 in
set_option maxHeartbeats 2000000 in
theorem readAll_good (bp : Nat) (s : ByteArray) (ws : List ByteArray) (hs : lineOk s ws) (w : World) (hE : EnvM w) (hc : w.cell? ⟨bp, 0, none⟩ = some (.string s)) :
    Calls Tryz.prog 145 #[.func (.func 146) #[] #[.pointer (some ⟨bp, 0, none⟩)]] w fun e w' => e = .returned (.tuple #[rdA ws, .int .i64 0]) ∧ Kept w w' := by
  have hmf : ∀ (fn : Fn) (first cap : Array Value) (w : World), (Instr.makeFunc fn first cap).run Tryz.prog w = .ok (.func fn first cap) w := fun _ _ _ _ => rfl
  obtain ⟨v0, v1, v2, v3, v4, v5, hv⟩ : ∃ v0 v1 v2 v3 v4 v5 : Int, rdR ws 6 = [.int .u8 v0, .int .u8 v1, .int .u8 v2, .int .u8 v3, .int .u8 v4, .int .u8 v5] := ⟨_, _, _, _, _, _, rfl⟩
  have hrd : rdA ws = .agg #[.int .u8 v0, .int .u8 v1, .int .u8 v2, .int .u8 v3, .int .u8 v4, .int .u8 v5] := by unfold rdA; rw [hv]
  obtain ⟨W1, hW1⟩ : ∃ W1, W1 = (w.alloc (.cells #[.int .u8 0, .int .u8 0, .int .u8 0, .int .u8 0, .int .u8 0, .int .u8 0] 39)).alloc (.cells #[.int .i64 0] 27) := ⟨_, rfl⟩
  have k1 : Kept w W1 := by rw [hW1]; exact ((Kept.refl w).alloc _).alloc _
  have r1 : RowC W1 w.heap.size [.int .u8 0, .int .u8 0, .int .u8 0, .int .u8 0, .int .u8 0, .int .u8 0] := by rw [hW1]; exact (RowC.new w _ 39).kept ((Kept.refl _).alloc _)
  have r2 : RowC W1 (w.heap.size + 1) [.int .i64 0] := by
    rw [hW1]
    have h := RowC.new (w.alloc (.cells #[.int .u8 0, .int .u8 0, .int .u8 0, .int .u8 0, .int .u8 0, .int .u8 0] 39)) [.int .i64 0] 27
    rw [World.size_alloc] at h
    exact h
  have HCL := Lib.hid (readClosure_good bp s ws hs W1 (hE.kept k1) ((k1.cells _ _ (cell_lt hc)).trans hc))
  rw [hrd] at HCL ⊢
  have HR1 := Lib.hid r1
  have HR2 := Lib.hid r2
  have HK1 := Lib.hid k1
  have HW1 := Lib.hid hW1
  clear hW1 k1 r1 r2 hrd hv hc hE
  go_enter_defers Tryz.func145, Tryz.ntmps145
  go_upto_region 1 with (fail)
  rw [← HW1.out]
  go_wp2_with fail
  refine HCL.out.mono ?_
  rintro e w3 ⟨rfl, hk3⟩
  have hb := HR1.out.kept hk3
  have hb2 := HR2.out.kept hk3
  obtain ⟨z01, z02⟩ := hb 0 _ rfl
  obtain ⟨z11, z12⟩ := hb 1 _ rfl
  obtain ⟨z21, z22⟩ := hb 2 _ rfl
  obtain ⟨z31, z32⟩ := hb 3 _ rfl
  obtain ⟨z41, z42⟩ := hb 4 _ rfl
  obtain ⟨z51, z52⟩ := hb 5 _ rfl
  obtain ⟨y01, y02⟩ := hb2 0 _ rfl
  have lz := cell_lt z01
  have ly := cell_lt y01
  have HKE := Lib.hid (HK1.out.trans hk3)
  clear hb hb2 hk3
  go_wp2_with fail
  refine leaves_cons (f := 196) (args := #[.pointer (some ⟨w.heap.size, 0, none⟩), .pointer (some ⟨w.heap.size + 1, 0, none⟩)]) (by simp) (by simp [go_sem]) ?_
  refine (catch_idle ⟨w.heap.size, 0, none⟩ ⟨w.heap.size + 1, 0, none⟩ _).mono ?_
  rintro e u' w'' ⟨rfl, rfl, rfl⟩
  simp [Leaves, settle, results, Tryz.results145, go_sem, z01, z11, z21, z31, z41, z51, y01]
  exact ((((((HKE.out.setCell (by simp; try omega) _).setCell (by simp; try omega) _).setCell (by simp; try omega) _).setCell (by simp; try omega) _).setCell (by simp; try omega) _).setCell (by simp; try omega) _).setCell (by simp; try omega) _
set_option maxRecDepth 100000 in
set_option maxHeartbeats 2000000 in
theorem readSight_good (s : ByteArray) (ws : List ByteArray) (hs : lineOk s ws) (w : World) (hE : EnvM w) :
    Calls Tryz.prog 67 #[.string s] w fun e w' => e = .returned (.tuple #[rdA ws, .int .i64 0]) ∧ Kept w w' := by
  have hmf : ∀ (fn : Fn) (first cap : Array Value) (w : World), (Instr.makeFunc fn first cap).run Tryz.prog w = .ok (.func fn first cap) w := fun _ _ _ _ => rfl
  obtain ⟨v0, v1, v2, v3, v4, v5, hv⟩ : ∃ v0 v1 v2 v3 v4 v5 : Int, rdR ws 6 = [.int .u8 v0, .int .u8 v1, .int .u8 v2, .int .u8 v3, .int .u8 v4, .int .u8 v5] := ⟨_, _, _, _, _, _, rfl⟩
  have hrd : rdA ws = .agg #[.int .u8 v0, .int .u8 v1, .int .u8 v2, .int .u8 v3, .int .u8 v4, .int .u8 v5] := by unfold rdA; rw [hv]
  obtain ⟨W1, hW1⟩ : ∃ W1, W1 = (w.alloc (.cells #[.string s] 9)).alloc (.cells #[.int .u8 0, .int .u8 0, .int .u8 0, .int .u8 0, .int .u8 0, .int .u8 0] 39) := ⟨_, rfl⟩
  have k1 : Kept w W1 := by rw [hW1]; exact ((Kept.refl w).alloc _).alloc _
  have r1 : RowC W1 w.heap.size [.string s] := by rw [hW1]; exact (RowC.new w _ 9).kept ((Kept.refl _).alloc _)
  have r2 : RowC W1 (w.heap.size + 1) [.int .u8 0, .int .u8 0, .int .u8 0, .int .u8 0, .int .u8 0, .int .u8 0] := by
    rw [hW1]
    have h := RowC.new (w.alloc (.cells #[.string s] 9)) [.int .u8 0, .int .u8 0, .int .u8 0, .int .u8 0, .int .u8 0, .int .u8 0] 39
    rw [World.size_alloc] at h
    exact h
  have HCL := Lib.hid (readAll_good w.heap.size s ws hs W1 (hE.kept k1) (r1 0 _ rfl).1)
  rw [hrd] at HCL ⊢
  have HR2 := Lib.hid r2
  have HK1 := Lib.hid k1
  have HW1 := Lib.hid hW1
  clear hW1 k1 r1 r2 hrd hv hE
  go_enter Tryz.func67, Tryz.ntmps67
  go_upto_region 1 with (fail)
  rw [← HW1.out]
  go_wp2_with fail
  refine HCL.out.mono ?_
  rintro e w3 ⟨rfl, hk3⟩
  have hb := HR2.out.kept hk3
  obtain ⟨z01, z02⟩ := hb 0 _ rfl
  obtain ⟨z11, z12⟩ := hb 1 _ rfl
  obtain ⟨z21, z22⟩ := hb 2 _ rfl
  obtain ⟨z31, z32⟩ := hb 3 _ rfl
  obtain ⟨z41, z42⟩ := hb 4 _ rfl
  obtain ⟨z51, z52⟩ := hb 5 _ rfl
  have lz := cell_lt z01
  have HKE := Lib.hid (HK1.out.trans hk3)
  clear hb hk3
  go_wp2_with fail
  refine bodyPost_ret (v := .tuple #[.agg #[.int .u8 v0, .int .u8 v1, .int .u8 v2, .int .u8 v3, .int .u8 v4, .int .u8 v5], .int .i64 0]) (by simp [results, Tryz.results67, go_sem, z01, z11, z21, z31, z41, z51]) rfl ⟨rfl, ?_⟩
  exact (((((HKE.out.setCell (by simp; try omega) _).setCell (by simp; try omega) _).setCell (by simp; try omega) _).setCell (by simp; try omega) _).setCell (by simp; try omega) _).setCell (by simp; try omega) _
end Go.Proofs.YtologmoanaccpaaGreatDoor

namespace Go.Proofs.YtologmoanaccpaaGreatDoor
set_option linter.all false
open Go.RowKit Go.Shelf

theorem slA_row {α : Type} {enc : α → List Value} {k : Nat} {ok : α → Prop} (hk : ∀ x, (enc x).length = k) {W : World} {b : Nat} {l : List α} (h : RowC W b (l.flatMap enc)) (ho : ∀ x ∈ l, ok x) (hl : l.length ≤ 1000) : SlA enc k ok W (some ⟨b, 0, none⟩) l.length l.length l :=
  ⟨rfl, Nat.le_refl _, by omega, ho, fun _ => ⟨b, 0, rfl, fun i x hx j v hv => by
    rw [Nat.zero_add]
    exact (h (i * k + j) v (flat_at hk l i x j v hx hv)).1⟩⟩
def msS : List Mk := [⟨1, 0, 100, ⟨1, 0, 1, 0, 0, 0⟩⟩, ⟨2, 0, 100, ⟨1, 0, 2, 0, 0, 0⟩⟩, ⟨3, 10, 100, ⟨0, 2, 1, 1, 0, 0⟩⟩]
def fsS : List Fd := [⟨1, 0⟩, ⟨2, 0⟩]
set_option maxRecDepth 100000 in
set_option maxHeartbeats 3200000 in
theorem smits_any (w : World) : Calls Tryz.prog 72 #[] w fun e w' => ∃ b1 b2, e = .returned (.agg #[.slice (some ⟨b1, 0, none⟩) 3 3, .slice (some ⟨b2, 0, none⟩) 2 2]) ∧ SmA w' (some ⟨b1, 0, none⟩) 3 3 msS (some ⟨b2, 0, none⟩) 2 2 fsS ∧ Kept w w' := by
  go_enter Tryz.func72, Tryz.ntmps72
  go_wp2
  obtain ⟨W1, hW1⟩ : ∃ W1, W1 = w.alloc (.cells #[.slice (some ⟨w.heap.size + 1, 0, none⟩) 3 3, .slice (some ⟨w.heap.size + 1 + 1, 0, none⟩) 2 2] 25) := ⟨_, rfl⟩
  have z1 : W1.heap.size = w.heap.size + 1 := by rw [hW1]; simp
  have k1 : Kept w W1 := by rw [hW1]; exact (Kept.refl w).alloc _
  have r1 : RowC W1 w.heap.size [.slice (some ⟨w.heap.size + 1, 0, none⟩) 3 3, .slice (some ⟨w.heap.size + 1 + 1, 0, none⟩) 2 2] := by rw [hW1]; exact RowC.new w _ 25
  rw [← hW1]
  obtain ⟨W2, hW2⟩ : ∃ W2, W2 = W1.alloc (.cells (msS.flatMap mkC).toArray 32) := ⟨_, rfl⟩
  have z2 : W2.heap.size = w.heap.size + 1 + 1 := by rw [hW2]; simp [z1]
  have k2 : Kept W1 W2 := by rw [hW2]; exact (Kept.refl W1).alloc _
  have r2 : RowC W2 (w.heap.size + 1) (msS.flatMap mkC) := by rw [hW2, ← z1]; exact RowC.new W1 _ 32
  obtain ⟨W3, hW3⟩ : ∃ W3, W3 = W2.alloc (.cells (fsS.flatMap fdC).toArray 87) := ⟨_, rfl⟩
  have k3 : Kept W2 W3 := by rw [hW3]; exact (Kept.refl W2).alloc _
  have r3 : RowC W3 (w.heap.size + 1 + 1) (fsS.flatMap fdC) := by rw [hW3, ← z2]; exact RowC.new W2 _ 87
  have e3 : W3 = (W1.alloc (.cells #[.int .i64 1, .int .i64 0, .int .i64 100, .int .u8 1, .int .u8 0, .int .u8 1, .int .u8 0, .int .u8 0, .int .u8 0, .int .i64 2, .int .i64 0, .int .i64 100, .int .u8 1, .int .u8 0, .int .u8 2, .int .u8 0, .int .u8 0, .int .u8 0, .int .i64 3, .int .i64 10, .int .i64 100, .int .u8 0, .int .u8 2, .int .u8 1, .int .u8 1, .int .u8 0, .int .u8 0] 32)).alloc (.cells #[.int .u8 1, .int .u8 0, .int .u8 2, .int .u8 0] 87) := by rw [hW3, hW2]; rfl
  rw [← e3]
  have hr := (r1.kept k2).kept k3
  have c0 := (hr 0 _ rfl).1
  have c1 := (hr 1 _ rfl).1
  refine bodyPost_ret (v := .agg #[.slice (some ⟨w.heap.size + 1, 0, none⟩) 3 3, .slice (some ⟨w.heap.size + 1 + 1, 0, none⟩) 2 2]) (by simp [results, Tryz.results72, go_sem, c0, c1]) rfl ⟨_, _, rfl, ⟨slA_row (enc := mkC) (k := 9) (l := msS) (fun _ => rfl) (r2.kept k3) ?_ (by decide), slA_row (enc := fdC) (k := 2) (l := fsS) (fun _ => rfl) r3 ?_ (by decide)⟩, (k1.trans k2).trans k3⟩
  · intro x hx
    simp only [msS, List.mem_cons, List.not_mem_nil, or_false] at hx
    rcases hx with rfl | rfl | rfl <;> refine ⟨?_, ?_, ?_, ?_⟩ <;> simp [Sg.ok, u8, i64]
  · intro x hx
    simp only [fsS, List.mem_cons, List.not_mem_nil, or_false] at hx
    rcases hx with rfl | rfl <;> simp [Fd.ok, u8]
end Go.Proofs.YtologmoanaccpaaGreatDoor

namespace Go.Proofs.YtologmoanaccpaaGreatDoor
set_option linter.all false
open Go.RowKit Go.Shelf

def sgS : Sg := ⟨1, 0, 0, 0, 0, 0⟩
def sgT : Sg := ⟨1, 0, 1, 0, 0, 0⟩
def foS : List Sg := [sgS, sgS, sgT]
def cl1 : List Cl := [⟨1, 1⟩, ⟨2, 2⟩]
def cl2 : List Cl := [⟨1, 2⟩, ⟨2, 2⟩]
def cl3 : List Cl := [⟨1, 2⟩, ⟨2, 1⟩]
def lineS : ByteArray := ⟨#[99, 114, 111, 112, 112, 101, 100, 32, 112, 108, 97, 105, 110, 32, 98, 97, 114, 101, 32, 98, 97, 114, 101, 32, 98, 97, 114, 101, 32, 98, 97, 114, 101]⟩
def lineT : ByteArray := ⟨#[99, 114, 111, 112, 112, 101, 100, 32, 112, 108, 97, 105, 110, 32, 114, 101, 100, 32, 98, 97, 114, 101, 32, 98, 97, 114, 101, 32, 98, 97, 114, 101]⟩
def wbare : ByteArray := ⟨#[98, 97, 114, 101]⟩
def wdsS : List ByteArray := [⟨#[99, 114, 111, 112, 112, 101, 100]⟩, ⟨#[112, 108, 97, 105, 110]⟩, wbare, wbare, wbare, wbare]
def wdsT : List ByteArray := [⟨#[99, 114, 111, 112, 112, 101, 100]⟩, ⟨#[112, 108, 97, 105, 110]⟩, ⟨#[114, 101, 100]⟩, wbare, wbare, wbare]
theorem ch1 : chE msS fsS 0 foS cl1 = 0 := by kernel_rfl
theorem ch2 : chE msS fsS 0 foS cl2 = 0 := by kernel_rfl
theorem ch3 : chE msS fsS 0 foS cl3 = 0 := by kernel_rfl
theorem in0 : inE msS fsS 0 = 0 := by kernel_rfl
theorem in10 : inE msS fsS 10 = 0 := by kernel_rfl
theorem fi1 : fitsN msS fsS 0 foS cl1 = [6, 6, 2] := by kernel_rfl
theorem fi2 : fitsN msS fsS 0 foS cl2 = [6, 6, 2] := by kernel_rfl
theorem fi3 : fitsN msS fsS 0 foS cl3 = [6, 6, 2] := by kernel_rfl
theorem cn1 : clN cl1 = 6 := by kernel_rfl
theorem cn2 : clN cl2 = 6 := by kernel_rfl
theorem cn3 : clN cl3 = 6 := by kernel_rfl
theorem rg0 : rgE msS fsS 0 foS 1 = 0 := by kernel_rfl
theorem su0 : cntN (sureB msS fsS 0 1) foS = 1 := by kernel_rfl
theorem pe0 : cntN (perB msS fsS 0 1) foS = 2 := by kernel_rfl
theorem ow0 : ownD msS fsS 0 sgS = 6 := by kernel_rfl
theorem rdS : rdA wdsS = .agg (sgV sgS).toArray := by kernel_rfl
theorem rdT : rdA wdsT = .agg (sgV sgT).toArray := by kernel_rfl
theorem frc0 : frcL msS 0 = [⟨1, 0, 100, ⟨1, 0, 1, 0, 0, 0⟩⟩, ⟨2, 0, 100, ⟨1, 0, 2, 0, 0, 0⟩⟩] := by kernel_rfl
theorem frc10 : frcL msS 10 = msS := by kernel_rfl
theorem cntS : Lib.countB lineS spB = 5 := by kernel_rfl
theorem cntT : Lib.countB lineT spB = 5 := by kernel_rfl
theorem splS : Lib.splitB spB 0 5 lineS = wdsS := by kernel_rfl
theorem splT : Lib.splitB spB 0 5 lineT = wdsT := by kernel_rfl
end Go.Proofs.YtologmoanaccpaaGreatDoor

namespace Go.Proofs.YtologmoanaccpaaGreatDoor
set_option linter.all false
open Go.RowKit Go.Shelf

theorem perm_sorted : ∀ (L l : List Mk), l.Perm L → l.Pairwise (fun a b => a.own ≤ b.own) → L.Pairwise (fun a b => a.own < b.own) → l = L
  | [], l, h, _, _ => h.eq_nil
  | x :: L, [], h, _, _ => by have := h.length_eq; simp at this
  | x :: L, y :: l, h, h1, h2 => by
    have hx : x ∈ y :: l := h.mem_iff.2 (List.mem_cons_self ..)
    have hy : y ∈ x :: L := h.mem_iff.1 (List.mem_cons_self ..)
    have h1' := List.pairwise_cons.1 h1
    have h2' := List.pairwise_cons.1 h2
    have e : y = x := by
      rcases List.mem_cons.1 hy with hy | hy
      · exact hy
      · rcases List.mem_cons.1 hx with hx | hx
        · exact hx.symm
        · have a := h1'.1 x hx
          have b := h2'.1 y hy
          omega
    subst e
    rw [perm_sorted L l ((List.perm_cons y).1 h) h1'.2 h2'.2]
def cand : List Nat → List (List Int)
  | [] => [[]]
  | f :: fs => ((0 : Int) :: ((List.range 41).filter fun q => decide (1 ≤ q) && f.testBit q).map fun q : Nat => (q : Int)).flatMap fun x => (cand fs).map (x :: ·)
def metB (cl : Nat) (wt : List Int) (ow : List Int) : Bool := (List.range 41).all fun o => decide (o = 0) || decide (((ow.count (o : Int) : Nat) : Int) = wc cl wt o)
def metL (fits : List Nat) (cl : Nat) (wt : List Int) : List (List Int) := (cand fits).filter (metB cl wt)
theorem skv_cons {f : Nat} {fs : List Nat} {x : Int} {ow : List Int} : SkV (f :: fs) (x :: ow) ↔ (x ≠ 0 → 1 ≤ x ∧ x ≤ 40 ∧ f.testBit x.toNat = true) ∧ SkV fs ow := by
  constructor
  · rintro ⟨h1, h2⟩
    refine ⟨fun hx => ?_, by simpa using h1, fun b y hb hy => ?_⟩
    · obtain ⟨a, b, g, hg, ht⟩ := h2 0 x rfl hx
      cases hg
      exact ⟨a, b, ht⟩
    · exact h2 (b + 1) y (by simpa using hb) hy
  · rintro ⟨h1, h2, h3⟩
    refine ⟨by simpa using h2, fun b y hb hy => ?_⟩
    match b, hb with
    | 0, hb => cases hb; obtain ⟨a, c, d⟩ := h1 hy; exact ⟨a, c, f, rfl, d⟩
    | b + 1, hb => exact h3 b y (by simpa using hb) hy
theorem cand_iff : ∀ (fits : List Nat) (ow : List Int), SkV fits ow ↔ ow ∈ cand fits
  | [], ow => by
    constructor
    · intro h
      have := h.1
      obtain rfl : ow = [] := List.length_eq_zero_iff.1 (by simpa using this)
      simp [cand]
    · intro h
      simp [cand] at h
      subst h
      exact ⟨rfl, fun b x hb => by simp at hb⟩
  | f :: fs, [] => by
    constructor
    · intro h; have := h.1; simp at this
    · intro h; simp [cand] at h
  | f :: fs, x :: ow => by
    rw [skv_cons, cand_iff fs ow, show cand (f :: fs) = ((0 : Int) :: ((List.range 41).filter fun q => decide (1 ≤ q) && f.testBit q).map fun q : Nat => (q : Int)).flatMap fun x => (cand fs).map (x :: ·) from rfl]
    simp only [List.mem_flatMap, List.mem_map, List.mem_cons, List.mem_filter, List.mem_range, Bool.and_eq_true, decide_eq_true_eq]
    constructor
    · rintro ⟨h1, h2⟩
      refine ⟨x, ?_, ow, h2, rfl⟩
      by_cases hx : x = 0
      · exact .inl hx
      · obtain ⟨a, b, c⟩ := h1 hx
        exact .inr ⟨x.toNat, ⟨by omega, by omega, c⟩, by omega⟩
    · rintro ⟨y, hy, ow', h2, e⟩
      cases e
      refine ⟨fun hx => ?_, h2⟩
      rcases hy with hy | ⟨q, ⟨h3, h4, h5⟩, rfl⟩
      · exact absurd hy hx
      · exact ⟨by omega, by omega, by simpa using h5⟩
theorem met_iff {fits : List Nat} {cl : Nat} {wt ow : List Int} : MetA fits cl wt ow ↔ ow ∈ metL fits cl wt := by
  unfold MetA metL
  rw [List.mem_filter, cand_iff]
  refine and_congr_right fun _ => ?_
  unfold metB
  rw [List.all_eq_true]
  constructor
  · intro h o ho
    rw [List.mem_range] at ho
    rw [Bool.or_eq_true, decide_eq_true_eq, decide_eq_true_eq]
    by_cases h0 : o = 0
    · exact .inl h0
    · exact .inr (h o (by omega) (by omega))
  · intro h o h1 h2
    have := h o (List.mem_range.2 (by omega))
    rw [Bool.or_eq_true, decide_eq_true_eq, decide_eq_true_eq] at this
    rcases this with h | h
    · omega
    · exact h
theorem ml1 : metL [6, 6, 2] 6 (wtL cl1) = [[2, 2, 1]] := by kernel_rfl
theorem ml3 : metL [6, 6, 2] 6 (wtL cl3) = [[1, 2, 1], [2, 1, 1]] := by kernel_rfl
theorem ml3a : metL ([6, 6, 2].set 0 (offN 6 1)) 6 (wtL cl3) = [[2, 1, 1]] := by kernel_rfl
theorem ml3b : metL ([6, 6, 2].set 0 (offN 6 2)) 6 (wtL cl3) = [[1, 2, 1]] := by kernel_rfl
theorem ml3c : metL ([6, 6, 2].set 1 (offN 6 1)) 6 (wtL cl3) = [[1, 2, 1]] := by kernel_rfl
theorem ml3d : metL ([6, 6, 2].set 1 (offN 6 2)) 6 (wtL cl3) = [[2, 1, 1]] := by kernel_rfl
theorem ml3e : metL ([6, 6, 2].set 2 (offN 2 1)) 6 (wtL cl3) = [] := by kernel_rfl
/-- Assign -/
theorem as_first {ow : List Int} (h : FirstA (fitsN msS fsS 0 foS cl1) (clN cl1) (wtL cl1) ow) : ow = [2, 2, 1] := by
  rw [fi1, cn1] at h
  have := met_iff.1 h.1
  rw [ml1] at this
  simpa using this
theorem as_not : ¬ ShA (fitsN msS fsS 0 foS cl1) (clN cl1) (wtL cl1) := by
  rw [fi1, cn1]
  exact met_not_sh (ow := [2, 2, 1]) (met_iff.2 (by rw [ml1]; simp))
/-- Certain -/
theorem ct_not : ¬ ShA (fitsN msS fsS 0 foS cl3) (clN cl3) (wtL cl3) := by
  rw [fi3, cn3]
  exact met_not_sh (ow := [1, 2, 1]) (met_iff.2 (by rw [ml3]; simp))
theorem ctg {fits : List Nat} {cl : Nat} {wt : List Int} {i : Nat} {x y : Int} (h : CtG fits cl wt i x y) (hx : x ≠ 0) {L : List (List Int)} (hL : metL (fits.set i (offN (fits.getD i 0) x.toNat)) cl wt = L) : y = if L = [] then x else 0 := by
  rcases h with ⟨_, h1, h2⟩ | ⟨h1, h2⟩
  · cases L with
    | nil => simp [h1]
    | cons a L =>
      exact absurd h2 (met_not_sh (ow := a) (met_iff.2 (by rw [hL]; exact List.mem_cons_self ..)))
  · rcases h2 with h2 | ⟨ow', h2⟩
    · exact absurd h2 hx
    · have := met_iff.1 h2
      rw [hL] at this
      cases L with
      | nil => cases this
      | cons a L => simp [h1]
theorem ct_res {ow res : List Int} (hl : res.length = 3) (h : MetA (fitsN msS fsS 0 foS cl3) (clN cl3) (wtL cl3) ow) (hq : CtQ (fitsN msS fsS 0 foS cl3) (clN cl3) (wtL cl3) ow 3 res) : res = [0, 0, 1] := by
  rw [fi3, cn3] at h hq
  have hm := met_iff.1 h
  rw [ml3] at hm
  match res, hl with
  | [y0, y1, y2], _ =>
  simp only [List.mem_cons, List.not_mem_nil, or_false] at hm
  rcases hm with rfl | rfl
  · have e0 := ctg (by have := hq 0 1 y0 rfl rfl; rwa [if_pos (by omega)] at this) (by omega) ml3a
    have e1 := ctg (by have := hq 1 2 y1 rfl rfl; rwa [if_pos (by omega)] at this) (by omega) ml3d
    have e2 := ctg (by have := hq 2 1 y2 rfl rfl; rwa [if_pos (by omega)] at this) (by omega) ml3e
    simp at e0 e1 e2
    rw [e0, e1, e2]
  · have e0 := ctg (by have := hq 0 2 y0 rfl rfl; rwa [if_pos (by omega)] at this) (by omega) ml3b
    have e1 := ctg (by have := hq 1 1 y1 rfl rfl; rwa [if_pos (by omega)] at this) (by omega) ml3c
    have e2 := ctg (by have := hq 2 1 y2 rfl rfl; rwa [if_pos (by omega)] at this) (by omega) ml3e
    simp at e0 e1 e2
    rw [e0, e1, e2]
/-- Shortage -/
theorem ps6 (x : PS 6) : x.1 = 2 ∨ x.1 = 4 ∨ x.1 = 6 := by
  obtain ⟨x, h1, h2⟩ := x
  have h3 : x &&& 6 ≤ 6 := Nat.and_le_right
  have h4 : x ≤ 6 := by omega
  have : ∀ y : Nat, y ≤ 6 → y ≠ 0 → y &&& 6 = y → y = 2 ∨ y = 4 ∨ y = 6 := by decide
  exact this x h4 h1 h2
theorem sh6 : shB [6, 6, 2] (wtL cl2) 6 = true := by kernel_rfl
theorem sh4 : shB [6, 6, 2] (wtL cl2) 4 = false := by kernel_rfl
theorem sh2 : shB [6, 6, 2] (wtL cl2) 2 = false := by kernel_rfl
theorem st_some (h : ∀ x : PS (clN cl2), shB (fitsN msS fsS 0 foS cl2) (wtL cl2) x.1 = false) : False := by
  rw [fi2] at h
  have h6 : (6 : Nat) ≠ 0 ∧ 6 &&& clN cl2 = 6 := by rw [cn2]; decide
  have := h ⟨6, h6⟩
  rw [sh6] at this
  cases this
theorem st_six {P : PS (clN cl2)} (h : shB (fitsN msS fsS 0 foS cl2) (wtL cl2) P.1 = true) : lsI P.1 = [1, 2] := by
  rw [fi2] at h
  have hp : P.1 ≠ 0 ∧ P.1 &&& 6 = P.1 := ⟨P.2.1, (congrArg (P.1 &&& ·) cn2).symm.trans P.2.2⟩
  rcases ps6 ⟨P.1, hp⟩ with e | e | e
  · dsimp only at e; rw [e, sh2] at h; cases h
  · dsimp only at e; rw [e, sh4] at h; cases h
  · exact (congrArg lsI e).trans (by kernel_rfl)
/-- Free, Mistaken -/
theorem fre_l {l : List Mk} (h : l.Perm (frcL msS 0)) (hs : l.Pairwise (fun a b => a.own ≤ b.own)) : frB fsS l 0 = true := by
  rw [frc0] at h
  rw [perm_sorted _ l h hs (by simp)]
  kernel_rfl
theorem mis_l {l : List Mk} (h : l.Perm (frcL msS 10)) (hs : l.Pairwise (fun a b => a.own ≤ b.own)) : misL fsS l = [⟨1, 2⟩] := by
  rw [frc10] at h
  rw [perm_sorted _ l h hs (by simp [msS])]
  kernel_rfl
theorem sg0 : sgN 0 = ⟨0, 0, 0, 0, 0, 0⟩ := by kernel_rfl
theorem li6 : bitsK 6 64 = [1, 2] := by kernel_rfl
theorem owe0 : owE msS fsS 0 sgS = 0 := by kernel_rfl
end Go.Proofs.YtologmoanaccpaaGreatDoor

namespace Go.Proofs.YtologmoanaccpaaGreatDoor
set_option linter.all false
open Go.RowKit Go.Shelf

/-- a slice that holds the numbers xs -/
def IntA (w : World) (A : Option Addr) (n c : Nat) (xs : List Int) : Prop :=
  xs.length = n ∧ n ≤ 1000000 ∧ True ∧ (0 < n → ∃ b off, A = some ⟨b, off, none⟩ ∧ ∀ (i : Nat) (x : Int), xs[i]? = some x → w.cell? ⟨b, off + i, none⟩ = some (.int .i64 x))
theorem IntA.kept {w w' : World} {A : Option Addr} {n c : Nat} {xs : List Int} (h : IntA w A n c xs) (hk : Kept w w') : IntA w' A n c xs :=
  ⟨h.1, h.2.1, h.2.2.1, fun hn => by
    obtain ⟨b, off, e, ht⟩ := h.2.2.2 hn
    exact ⟨b, off, e, fun i x hx => (hk.cells _ _ (cell_lt (ht i x hx))).trans (ht i x hx)⟩⟩
theorem IntA.nil (w : World) : IntA w none 0 0 [] := ⟨rfl, by omega, trivial, fun h => by omega⟩
def sameB (xs ys : List Int) : Bool := decide (xs = ys)

set_option maxRecDepth 100000 in
theorem sameInts_any (A : Option Addr) (n c : Nat) (xs : List Int) (B : Option Addr) (m d : Nat) (ys : List Int) (w : World) (hx : IntA w A n c xs) (hy : IntA w B m d ys) :
    Calls Tryz.prog 34 #[.slice A n c, .slice B m d] w fun e w' => e = .returned (.bool (sameB xs ys)) ∧ Kept w w' := by
  have HX := Lib.hid hx
  have HY := Lib.hid hy
  have hnc := hx.2.1
  have hmc := hy.2.1
  have hc := hx.2.2.1
  have hd := hy.2.2.1
  clear hx hy
  by_cases hl : n = m
  · subst hl
    go_enter Tryz.func34, Tryz.ntmps34
    go_wp2_with fail
    go_loopw [5] (fun i w1 => ∃ k : Nat, k ≤ n ∧ i = .int .i64 k ∧ Kept w w1 ∧ xs.take k = ys.take k) (fun i _ => n - (intOf i).toNat)
    case atStart => exact ⟨0, by omega, by first | rfl | go_num, Kept.refl _, rfl⟩
    case round =>
      obtain ⟨k, hk, rfl, hkw, hs⟩ := hrel
      have HS := Lib.hid hs
      clear hs
      by_cases hlt : k < n
      · obtain ⟨b, off, hA, hcx⟩ := HX.out.2.2.2 (by omega)
        obtain ⟨b2, off2, hB, hcy⟩ := HY.out.2.2.2 (by omega)
        subst hA hB
        obtain ⟨x, hx⟩ : ∃ x, xs[k]? = some x := ⟨xs[k]'(by rw [HX.out.1]; exact hlt), List.getElem?_eq_getElem (by rw [HX.out.1]; exact hlt)⟩
        obtain ⟨y, hy⟩ : ∃ y, ys[k]? = some y := ⟨ys[k]'(by rw [HY.out.1]; exact hlt), List.getElem?_eq_getElem (by rw [HY.out.1]; exact hlt)⟩
        have q1 := (hkw.cells _ _ (cell_lt (hcx k x hx))).trans (hcx k x hx)
        have q2 := (hkw.cells _ _ (cell_lt (hcy k y hy))).trans (hcy k y hy)
        have HX1 := Lib.hid hx
        have HY1 := Lib.hid hy
        clear hcx hcy hx hy
        have hi0 : (0 : Int) ≤ (k : Int) := by omega
        have hi1 : (k : Int) < (n : Int) := by omega
        by_cases he : x = y
        · subst he
          have hT : RowKit.Hid (xs.take (k + 1) = ys.take (k + 1)) := Lib.hid (by
            obtain ⟨h1, h2⟩ := List.getElem?_eq_some_iff.1 HX1.out
            obtain ⟨h3, h4⟩ := List.getElem?_eq_some_iff.1 HY1.out
            rw [List.take_succ_eq_append_getElem h1, List.take_succ_eq_append_getElem h3, h2, h4, HS.out])
          go_wp2
          go_quiet (fail)
          go_wp2
          go_roundw
          case rel => exact ⟨k + 1, by omega, by go_num, by first | exact hkw | exact hkw.drewN _ | exact hkw.drew, hT.out⟩
          case measure => simp [intOf]; omega
        · have hne : (x == y) = false := by simpa using he
          have hT : RowKit.Hid (sameB xs ys = false) := Lib.hid (by
            unfold sameB
            rw [decide_eq_false_iff_not]
            intro h
            rw [h] at HX1
            have := HX1.out
            rw [HY1.out] at this
            cases this
            exact he rfl)
          go_wp2
          go_quiet (fail)
          go_wp2
          go_ret
          exact ⟨ret_bool hT.out.symm, by first | exact hkw | exact hkw.drewN _ | exact hkw.drew⟩
      · obtain rfl : k = n := by omega
        have hT : RowKit.Hid (sameB xs ys = true) := Lib.hid (by
          unfold sameB
          rw [decide_eq_true_iff]
          have := HS.out
          rw [List.take_of_length_le (by rw [HX.out.1]; exact Nat.le_refl _), List.take_of_length_le (by rw [HY.out.1]; exact Nat.le_refl _)] at this
          exact this)
        go_wp2
        go_ret
        exact ⟨ret_bool hT.out.symm, hkw⟩
  · have hT : RowKit.Hid (sameB xs ys = false) := Lib.hid (by
      unfold sameB
      rw [decide_eq_false_iff_not]
      intro h
      exact hl (by rw [← HX.out.1, ← HY.out.1, h]))
    go_enter Tryz.func34, Tryz.ntmps34
    go_wp2
    go_ret
    exact ⟨ret_bool hT.out.symm, Kept.refl _⟩
set_option maxHeartbeats 2000000 in
def samePB (xs ys : List Pr) : Bool := decide (xs = ys)

set_option maxRecDepth 100000 in
theorem samePairs_any (A : Option Addr) (n c : Nat) (xs : List Pr) (B : Option Addr) (m d : Nat) (ys : List Pr) (w : World) (hx : SlA prC 2 (fun _ => True) w A n c xs) (hy : SlA prC 2 (fun _ => True) w B m d ys) :
    Calls Tryz.prog 41 #[.slice A n c, .slice B m d] w fun e w' => e = .returned (.bool (samePB xs ys)) ∧ Kept w w' := by
  have HX := Lib.hid hx
  have HY := Lib.hid hy
  have hnc := hx.2.1
  have hmc := hy.2.1
  have hc := hx.2.2.1
  have hd := hy.2.2.1
  clear hx hy
  by_cases hl : n = m
  · subst hl
    go_enter Tryz.func41, Tryz.ntmps41
    go_wp2_with fail
    go_loopw [5] (fun i w1 => ∃ k : Nat, k ≤ n ∧ i = .int .i64 k ∧ Kept w w1 ∧ xs.take k = ys.take k) (fun i _ => n - (intOf i).toNat)
    case atStart => exact ⟨0, by omega, by first | rfl | go_num, Kept.refl _, rfl⟩
    case round =>
      obtain ⟨k, hk, rfl, hkw, hs⟩ := hrel
      have HS := Lib.hid hs
      clear hs
      by_cases hlt : k < n
      · obtain ⟨b, off, hA, hcx⟩ := HX.out.2.2.2.2 (by omega)
        obtain ⟨b2, off2, hB, hcy⟩ := HY.out.2.2.2.2 (by omega)
        subst hA hB
        obtain ⟨x, hx⟩ : ∃ x, xs[k]? = some x := ⟨xs[k]'(by rw [HX.out.1]; exact hlt), List.getElem?_eq_getElem (by rw [HX.out.1]; exact hlt)⟩
        obtain ⟨y, hy⟩ : ∃ y, ys[k]? = some y := ⟨ys[k]'(by rw [HY.out.1]; exact hlt), List.getElem?_eq_getElem (by rw [HY.out.1]; exact hlt)⟩
        have q1 := (hkw.cells _ _ (cell_lt (hcx k x hx 0 _ rfl))).trans (hcx k x hx 0 _ rfl)
        have q2 := (hkw.cells _ _ (cell_lt (hcy k y hy 0 _ rfl))).trans (hcy k y hy 0 _ rfl)
        have q3 := (hkw.cells _ _ (cell_lt (hcx k x hx 1 _ rfl))).trans (hcx k x hx 1 _ rfl)
        have q4 := (hkw.cells _ _ (cell_lt (hcy k y hy 1 _ rfl))).trans (hcy k y hy 1 _ rfl)
        rw [Nat.add_zero] at q1 q2
        have HX1 := Lib.hid hx
        have HY1 := Lib.hid hy
        clear hcx hcy hx hy
        have hi0 : (0 : Int) ≤ (k : Int) := by omega
        have hi1 : (k : Int) < (n : Int) := by omega
        by_cases he : x = y
        · subst he
          have hT : RowKit.Hid (xs.take (k + 1) = ys.take (k + 1)) := Lib.hid (by
            obtain ⟨h1, h2⟩ := List.getElem?_eq_some_iff.1 HX1.out
            obtain ⟨h3, h4⟩ := List.getElem?_eq_some_iff.1 HY1.out
            rw [List.take_succ_eq_append_getElem h1, List.take_succ_eq_append_getElem h3, h2, h4, HS.out])
          go_wp2
          go_quiet (fail)
          go_wp2
          go_roundw
          case rel => exact ⟨k + 1, by omega, by go_num, by first | exact hkw | exact hkw.drewN _ | exact hkw.drew, hT.out⟩
          case measure => simp [intOf]; omega
        · have hne : (x.a == y.a && x.b == y.b) = false := by
            rw [Bool.eq_false_iff]
            intro h
            rw [Bool.and_eq_true, beq_iff_eq, beq_iff_eq] at h
            exact he (by cases x; cases y; simp_all)
          have hT : RowKit.Hid (samePB xs ys = false) := Lib.hid (by
            unfold samePB
            rw [decide_eq_false_iff_not]
            intro h
            rw [h] at HX1
            have := HX1.out
            rw [HY1.out] at this
            cases this
            exact he rfl)
          obtain ⟨xa, xb⟩ := x
          obtain ⟨ya, yb⟩ := y
          dsimp only at q1 q2 q3 q4 hne
          by_cases hab : xa = ya
          · subst hab
            have hb : (xb == yb) = false := by simpa using hne
            clear hne
            go_wp2
            go_quiet (fail)
            go_wp2
            go_ret
            exact ⟨ret_bool hT.out.symm, by first | exact hkw | exact hkw.drewN _ | exact hkw.drew⟩
          · have ha : (xa == ya) = false := by simpa using hab
            clear hne
            go_wp2
            go_quiet (fail)
            go_wp2
            go_ret
            exact ⟨ret_bool hT.out.symm, by first | exact hkw | exact hkw.drewN _ | exact hkw.drew⟩
      · obtain rfl : k = n := by omega
        have hT : RowKit.Hid (samePB xs ys = true) := Lib.hid (by
          unfold samePB
          rw [decide_eq_true_iff]
          have := HS.out
          rw [List.take_of_length_le (by rw [HX.out.1]; exact Nat.le_refl _), List.take_of_length_le (by rw [HY.out.1]; exact Nat.le_refl _)] at this
          exact this)
        go_wp2
        go_ret
        exact ⟨ret_bool hT.out.symm, hkw⟩
  · have hT : RowKit.Hid (samePB xs ys = false) := Lib.hid (by
      unfold samePB
      rw [decide_eq_false_iff_not]
      intro h
      exact hl (by rw [← HX.out.1, ← HY.out.1, h]))
    go_enter Tryz.func41, Tryz.ntmps41
    go_wp2
    go_ret
    exact ⟨ret_bool hT.out.symm, Kept.refl _⟩
end Go.Proofs.YtologmoanaccpaaGreatDoor
