/-
  the first shortage: Shortage
  the shelf's contracts of strings.Split and slices.Index at this program (lay-shelf.mjs, lay-plain.mjs, prune.py)
  reading what is seen: words, read, readSigns
  reading a sight: readSigns, readAll, ReadSight, where the line has a form
-/
import Derived.Test.YtologmoanaccpaaGreatDoorBK
import Derived.Test.YtologmoanaccpaaGreatDoorProg
import Derived.Test.YtologmoanaccpaaGreatDoorBA
import Derived.Test.YtologmoanaccpaaGreatDoorBC
import Derived.Shelf.Strings.Split
import Derived.Shelf.Slices.Turned
import Derived.Ground.Names2Prog
namespace Go.Proofs.YtologmoanaccpaaGreatDoor
set_option linter.all false
open Go.RowKit Go.Shelf
attribute [local go_sem] Oper.semAt_some

theorem cmpI_lt {x y : Int} : cmpI x y < 0 ↔ x < y := by
  unfold cmpI
  split
  · simp [*]
  · split <;> simp [*]
theorem cmpI_eq {x y : Int} : cmpI x y = 0 ↔ x = y := ⟨cmpI_zero, fun h => by rw [h, cmpI_self]⟩
theorem cmpL_self : ∀ a : List Int, cmpL a a = 0
  | [] => rfl
  | x :: a => by simp [cmpL, cmpI_self, cmpL_self a]
theorem cmpL_cons {x y : Int} {a b : List Int} : cmpL (x :: a) (y :: b) < 0 ↔ x < y ∨ (x = y ∧ cmpL a b < 0) := by
  simp only [cmpL]
  by_cases h : cmpI x y = 0
  · rw [if_pos h]
    have := cmpI_zero h
    subst this
    simp
  · rw [if_neg h, cmpI_lt]
    have : x ≠ y := fun e => h (cmpI_eq.2 e)
    simp [this]
theorem cmpL_trans : ∀ a b c : List Int, cmpL a b < 0 → cmpL b c < 0 → cmpL a c < 0
  | [], [], c => fun h => absurd h (by simp [cmpL])
  | [], y :: b, [] => fun _ h => absurd h (by simp [cmpL])
  | [], y :: b, z :: c => fun _ _ => by simp [cmpL]
  | x :: a, [], c => fun h => absurd h (by simp [cmpL])
  | x :: a, y :: b, [] => fun _ h => absurd h (by simp [cmpL])
  | x :: a, y :: b, z :: c => fun h1 h2 => by
    rw [cmpL_cons] at h1 h2 ⊢
    rcases h1 with h1 | ⟨h1, h3⟩ <;> rcases h2 with h2 | ⟨h2, h4⟩
    · exact .inl (by omega)
    · exact .inl (by omega)
    · exact .inl (by omega)
    · exact .inr ⟨by omega, cmpL_trans a b c h3 h4⟩
theorem cmpLL_lt {a b : List Int} : cmpLL a b < 0 ↔ a.length < b.length ∨ (a.length = b.length ∧ cmpL a b < 0) := by
  unfold cmpLL
  simp only [fstE]
  by_cases h : cmpI (a.length : Int) (b.length : Int) = 0
  · rw [if_pos h]
    have := cmpI_zero h
    by_cases h2 : cmpL a b = 0
    · rw [if_pos h2]
      constructor
      · intro h; omega
      · rintro (h | ⟨_, h⟩) <;> omega
    · rw [if_neg h2]
      constructor
      · intro h; exact .inr ⟨by omega, h⟩
      · rintro (h | ⟨_, h⟩)
        · omega
        · exact h
  · rw [if_neg h, cmpI_lt]
    have : (a.length : Int) ≠ b.length := fun e => h (cmpI_eq.2 e)
    constructor
    · intro h; exact .inl (by omega)
    · rintro (h | ⟨h, _⟩) <;> omega
theorem cmpLL_irr (a : List Int) : ¬ cmpLL a a < 0 := by
  rw [cmpLL_lt, cmpL_self]
  omega
theorem cmpLL_trans {a b c : List Int} (h1 : cmpLL a b < 0) (h2 : cmpLL b c < 0) : cmpLL a c < 0 := by
  rw [cmpLL_lt] at h1 h2 ⊢
  rcases h1 with h1 | ⟨h1, h3⟩ <;> rcases h2 with h2 | ⟨h2, h4⟩
  · exact .inl (by omega)
  · exact .inl (by omega)
  · exact .inl (by omega)
  · exact .inr ⟨by omega, cmpL_trans _ _ _ h3 h4⟩
def lsI (p : Nat) : List Int := (bitsK p 64).map fun x : Nat => (x : Int)
theorem lsI_len (p : Nat) : (lsI p).length = (bitsK p 64).length := by simp [lsI]
theorem lsI_nC (p : Nat) : (bitsK p 64).flatMap nC = (lsI p).map (Value.int .i64) := by
  unfold lsI
  induction bitsK p 64 with
  | nil => rfl
  | cons x l ih => rw [List.flatMap_cons, ih]; rfl
def FsB (fits : List Nat) (wt : List Int) (cl b13 : Nat) (pre : List (PS cl)) (A : Option Addr) (n c : Nat) (W : World) : Prop :=
  (A = none ∧ n = 0 ∧ c = 0 ∧ ∀ x ∈ pre, shB fits wt x.1 = false) ∨
  (∃ (g : Nat) (P : PS cl), A = some ⟨g, 0, none⟩ ∧ n = (lsI P.1).length ∧ b13 < g ∧ RowC W g ((lsI P.1).map (Value.int .i64)) ∧ P ∈ pre ∧ shB fits wt P.1 = true ∧ ∀ x ∈ pre, shB fits wt x.1 = true → ¬ cmpLL (lsI x.1) (lsI P.1) < 0)
def ShI (w : World) (hL : List Value) (fits : List Nat) (wt : List Int) (cl : Nat) (pre : List (PS cl)) (W : World) : Prop :=
  RowC W w.heap.size hL ∧ Kept w W ∧ ∃ A n c, RowC W (w.heap.size + 1) [.slice A n c] ∧ FsB fits wt cl (w.heap.size + 1) pre A n c W
theorem FsB.grown {fits : List Nat} {wt : List Int} {cl b13 : Nat} {pre : List (PS cl)} {A : Option Addr} {n c : Nat} {W W' : World} {B : Nat} {row : Option Nat} (h : FsB fits wt cl b13 pre A n c W) (hg : W.grownBy W' row) (hr : ∀ r, row = some r → B ≤ r ∧ ∃ o : Obj, W.heap[r]? = some o ∧ o.isCells = false) : FsB fits wt cl b13 pre A n c W' := by
  rcases h with h | ⟨g, P, h1, h2, h3, h4, h5, h6, h7⟩
  · exact .inl h
  · exact .inr ⟨g, P, h1, h2, h3, own_rowc hg hr h4, h5, h6, h7⟩
theorem FsB.kept {fits : List Nat} {wt : List Int} {cl b13 : Nat} {pre : List (PS cl)} {A : Option Addr} {n c : Nat} {W W' : World} (h : FsB fits wt cl b13 pre A n c W) (hk : Kept W W') : FsB fits wt cl b13 pre A n c W' := by
  rcases h with h | ⟨g, P, h1, h2, h3, h4, h5, h6, h7⟩
  · exact .inl h
  · exact .inr ⟨g, P, h1, h2, h3, h4.kept hk, h5, h6, h7⟩
theorem FsB.skip {fits : List Nat} {wt : List Int} {cl b13 : Nat} {pre : List (PS cl)} {A : Option Addr} {n c : Nat} {W : World} (h : FsB fits wt cl b13 pre A n c W) {x : PS cl} (hx : shB fits wt x.1 = false) : FsB fits wt cl b13 (pre ++ [x]) A n c W := by
  rcases h with ⟨h1, h2, h3, h4⟩ | ⟨g, P, h1, h2, h3, h4, h5, h6, h7⟩
  · refine .inl ⟨h1, h2, h3, fun y hy => ?_⟩
    rcases List.mem_append.1 hy with hy | hy
    · exact h4 y hy
    · rw [List.mem_singleton.1 hy]; exact hx
  · refine .inr ⟨g, P, h1, h2, h3, h4, List.mem_append_left _ h5, h6, fun y hy hs => ?_⟩
    rcases List.mem_append.1 hy with hy | hy
    · exact h7 y hy hs
    · rw [List.mem_singleton.1 hy, hx] at hs; cases hs
theorem FsB.pass {fits : List Nat} {wt : List Int} {cl b13 : Nat} {pre : List (PS cl)} {g : Nat} {P : PS cl} {n c : Nat} {W : World} (h1 : n = (lsI P.1).length) (h3 : b13 < g) (h4 : RowC W g ((lsI P.1).map (Value.int .i64))) (h5 : P ∈ pre) (h6 : shB fits wt P.1 = true) (h7 : ∀ x ∈ pre, shB fits wt x.1 = true → ¬ cmpLL (lsI x.1) (lsI P.1) < 0) {x : PS cl} (hx : ¬ cmpLL (lsI x.1) (lsI P.1) < 0) : FsB fits wt cl b13 (pre ++ [x]) (some ⟨g, 0, none⟩) n c W := by
  refine .inr ⟨g, P, rfl, h1, h3, h4, List.mem_append_left _ h5, h6, fun y hy hs => ?_⟩
  rcases List.mem_append.1 hy with hy | hy
  · exact h7 y hy hs
  · rw [List.mem_singleton.1 hy]; exact hx
theorem FsB.take {fits : List Nat} {wt : List Int} {cl b13 : Nat} {pre : List (PS cl)} {g n c : Nat} {W : World} {x : PS cl} (h1 : n = (lsI x.1).length) (h3 : b13 < g) (h4 : RowC W g ((lsI x.1).map (Value.int .i64))) (h6 : shB fits wt x.1 = true)
    (h : (∀ y ∈ pre, shB fits wt y.1 = false) ∨ ∃ P : PS cl, (∀ y ∈ pre, shB fits wt y.1 = true → ¬ cmpLL (lsI y.1) (lsI P.1) < 0) ∧ cmpLL (lsI x.1) (lsI P.1) < 0) : FsB fits wt cl b13 (pre ++ [x]) (some ⟨g, 0, none⟩) n c W := by
  refine .inr ⟨g, x, rfl, h1, h3, h4, List.mem_append_right _ (List.mem_singleton.2 rfl), h6, fun y hy hs => ?_⟩
  rcases List.mem_append.1 hy with hy | hy
  · rcases h with h | ⟨P, h, hP⟩
    · rw [h y hy] at hs; cases hs
    · exact fun hl => h y hy hs (cmpLL_trans hl hP)
  · rw [List.mem_singleton.1 hy]; exact cmpLL_irr _
theorem ShI.own (w : World) (hL : List Value) (fits : List Nat) (wt : List Int) (cl B : Nat) (hB : w.heap.size ≤ B) : OwnFrom B (ShI w hL fits wt cl) := by
  rintro pre W W' row ⟨h1, h2, A, n, c, h3, h4⟩ hg hr
  exact ⟨own_rowc hg hr h1, h2.below.grown hg h2.size (fun k e => Nat.le_trans hB (hr k e).1), A, n, c, own_rowc hg hr h3, h4.grown hg hr⟩
theorem intR_row {W : World} {g n c : Nat} {l : List Int} (h : RowC W g (l.map (Value.int .i64))) (hn : n = l.length) (hs : n ≤ 1000) : IntR W (some ⟨g, 0, none⟩) n c l :=
  ⟨hn.symm, hs, fun _ => ⟨g, 0, rfl, fun j x hj => by rw [Nat.zero_add]; exact (h j (.int .i64 x) (by rw [List.getElem?_map, hj]; rfl)).1⟩⟩
theorem row_not_deferred {W : World} {b : Nat} {l : List Value} (h : RowC W b l) (hl : 0 < l.length) (hd : W.heap[b]? = some (.deferred (some []))) : False := by
  have h1 := (h 0 _ (List.getElem?_eq_getElem hl)).1
  unfold World.cell? at h1
  simp [hd] at h1
def StP (w : World) (ms : List Mk) (fs : List Fd) (day : Int) (found : List Sg) (cls : List Cl) (e : Ending) (w' : World) : Prop :=
  ((chE ms fs day found cls ≠ 0 ∧ e = .returned (.tuple #[.slice none 0 0, .bool false, .int .i64 (chE ms fs day found cls)])) ∨
   (chE ms fs day found cls = 0 ∧ (((∀ x : PS (clN cls), shB (fitsN ms fs day found cls) (wtL cls) x.1 = false) ∧ e = .returned (.tuple #[.slice none 0 0, .bool false, .int .i64 0])) ∨
     (∃ (g n c : Nat) (P : PS (clN cls)), e = .returned (.tuple #[.slice (some ⟨g, 0, none⟩) n c, .bool true, .int .i64 0]) ∧ n = (lsI P.1).length ∧ RowC w' g ((lsI P.1).map (Value.int .i64)) ∧ w.heap.size ≤ g ∧
       shB (fitsN ms fs day found cls) (wtL cls) P.1 = true ∧ ∀ x : PS (clN cls), shB (fitsN ms fs day found cls) (wtL cls) x.1 = true → ¬ cmpLL (lsI x.1) (lsI P.1) < 0)))) ∧ Kept w w'
set_option maxRecDepth 100000 in
set_option maxHeartbeats 6400000 in
theorem shortage_any (A B C D : Option Addr) (n c m d p q u v : Nat) (ms : List Mk) (fs : List Fd) (day : Int) (found : List Sg) (cls : List Cl) (w : World) (hs : SmA w A n c ms B m d fs) (hfo : SlA sgV 6 Sg.ok w C p q found) (hcl : SlA clC 2 Cl.ok w D u v cls) (hE : EnvT w) :
    Calls Tryz.prog 53 #[.agg #[.slice A n c, .slice B m d], .int .i64 day, .slice C p q, .slice D u v] w (StP w ms fs day found cls) := by
  have hi : (Tryz.prog.info? 153).map (·.size) = some 43 := by kernel_rfl
  obtain ⟨W0, hW0⟩ : ∃ W0, W0 = w.alloc (.cells #[.slice A n c, .slice B m d] 25) := ⟨_, rfl⟩
  have K0 : RowKit.Hid (Kept w W0) := Lib.hid (by rw [hW0]; exact (Kept.refl _).alloc _)
  have R0 : RowKit.Hid (RowC W0 w.heap.size [.slice A n c, .slice B m d]) := Lib.hid (by rw [hW0]; exact RowC.new w [.slice A n c, .slice B m d] 25)
  have HW := Lib.hid hW0
  have HS := Lib.hid (hs.kept K0.out)
  have HFO := Lib.hid (hfo.kept K0.out)
  have HCL := Lib.hid (hcl.kept K0.out)
  have HE := Lib.hid (hE.kept K0.out)
  have H30 : RowKit.Hid (Calls Tryz.prog 113 #[.agg #[.slice A n c, .slice B m d], .int .i64 day, .slice C p q, .slice D u v] W0 fun e w' => e = .returned (.int .i64 (chE ms fs day found cls)) ∧ Kept W0 w') := Lib.hid (checkHearing_any A B C D n c m d p q u v ms fs day found cls W0 HS.out HFO.out HCL.out)
  obtain ⟨E, hEe⟩ : ∃ E, chE ms fs day found cls = E := ⟨_, rfl⟩
  rw [hEe] at H30
  have HEE := Lib.hid hEe
  have a0 := (R0.out 0 _ rfl).1
  have a1 := (R0.out 1 _ rfl).1
  have la := cell_lt a0
  clear hW0 hs hfo hcl hE hEe
  refine (callsIn_wide (n := 8)).1 ?_
  refine callsIn_of_wp_marks Tryz.func53 rfl trivial ?_ rfl
  simp only [Tryz.ntmps53, List.size_toArray, List.length_cons, List.length_nil, Nat.reduceAdd, Nat.reduceSub, Array.replicate_succ, Array.replicate_zero, List.push_toArray, List.append_toArray, List.nil_append, List.cons_append]
  refine wpIn_wide.2 ?_
  go_upto_region 1 with (fail)
  rw [← HW.out]
  go_wp2_with fail
  refine H30.out.mono ?_
  rintro e w1 ⟨rfl, hk1⟩
  have K1 := Lib.hid hk1
  have R1 := Lib.hid (R0.out.kept hk1)
  have b0 := (R1.out 0 _ rfl).1
  have b1 := (R1.out 1 _ rfl).1
  have lb := cell_lt b0
  clear hk1 a0 a1 la
  by_cases h0 : E = 0
  rotate_left
  · have h1 : (E == 0) = false := by simpa using h0
    have H0 := Lib.hid h0
    clear h0
    go_wp2_with fail
    exact ⟨_, results_tmp3 rfl _ _ _, .inl ⟨by rw [HEE.out]; exact H0.out, by rw [HEE.out]; rfl⟩, K0.out.trans K1.out⟩
  subst h0
  have hch := HEE.out
  obtain ⟨e1, e2, e3, e4⟩ := fstE_four hch
  obtain ⟨c1, c2, c3⟩ := cl_ok e4
  have H31 := Lib.hid (hear_any A B C D n c m d p q u v ms fs day found cls w1 (HS.out.kept K1.out) (HFO.out.kept K1.out) (HCL.out.kept K1.out) hch)
  have C2 := Lib.hid c2
  have C3 := Lib.hid c3
  clear hch e1 e2 e3 e4 c1 c2 c3
  go_wp2_with fail
  refine H31.out.mono ?_
  rintro e w2 ⟨F, cF, fb, fo, rfl, hfit, _, hk2⟩
  have K2 := Lib.hid (K0.out.trans (K1.out.trans hk2))
  have E2 := Lib.hid (HE.out.kept (K1.out.trans hk2))
  obtain ⟨wt, hwt⟩ : ∃ x, wtL cls = x := ⟨_, rfl⟩
  obtain ⟨cl, hclx⟩ : ∃ x, clN cls = x := ⟨_, rfl⟩
  have hw := wtL_len cls
  have hwb := wtL_bd C3.out (fun x hx => (claim_bd (C2.out x hx)).1) (fun x hx => (claim_bd (C2.out x hx)).2)
  have h41 := clN_41 C2.out
  have hfit' : FitR w2 F p cF fb fo (fitsN ms fs day found cls) := hfit
  obtain ⟨fits, hfits⟩ : ∃ x, fitsN ms fs day found cls = x := ⟨_, rfl⟩
  rw [hfits] at hfit'
  rw [hwt] at hw hwb ⊢
  rw [hclx] at h41 ⊢
  have HFS := Lib.hid hfits
  have HWT := Lib.hid hwt
  have HCX := Lib.hid hclx
  have h60 := hfit'.sz
  have HFT := Lib.hid hfit'
  clear hfit hk2 hfit' hfits hwt hclx
  go_upto_region 5 with (refine wpList_store_row rfl 153 (.tmp 12) (.tmp 28) rfl w2.heap.size (hrL F p cF cl wt).toArray rfl rfl 153 zero43.toArray (heap_alloc_new w2 _) (by rw [hi]; simp [hrL, hw]) (by simp [hrL, hw, zero43]) (by simp [hrL, Value.oneCell']) ?_)
  obtain ⟨Wv, hWv⟩ : ∃ Wv, Wv = (w2.alloc (.cells zero43.toArray 153)).setRow w2.heap.size (hrL F p cF cl wt).toArray := ⟨_, rfl⟩
  have hbb : Wv.heap[w2.heap.size]? = some (.cells (hrL F p cF cl wt).toArray 153 (0, 0)) := by rw [hWv]; exact setRow_heap _ _ _ _ _ _ (heap_alloc_new w2 _)
  have rb : RowC Wv w2.heap.size (hrL F p cF cl wt) := fun j v hv => ⟨by rw [cell_of_row _ _ _ _ _ _ hbb]; simpa using hv, frozen_of_row _ _ _ _ _ hbb⟩
  have hkv : Kept w2 Wv := by rw [hWv]; exact ((Kept.refl w2).alloc _).setRow (Nat.le_refl _) _
  have hzv : Wv.heap.size = w2.heap.size + 1 := by rw [hWv, size_setRow]; simp
  have HZZ : RowKit.Hid (Wv = (w2.alloc (.cells #[.slice none 0 0, .int .u64 0, .int .i64 0, .int .i64 0, .int .i64 0, .int .i64 0, .int .i64 0, .int .i64 0, .int .i64 0, .int .i64 0, .int .i64 0, .int .i64 0, .int .i64 0, .int .i64 0, .int .i64 0, .int .i64 0, .int .i64 0, .int .i64 0, .int .i64 0, .int .i64 0, .int .i64 0, .int .i64 0, .int .i64 0, .int .i64 0, .int .i64 0, .int .i64 0, .int .i64 0, .int .i64 0, .int .i64 0, .int .i64 0, .int .i64 0, .int .i64 0, .int .i64 0, .int .i64 0, .int .i64 0, .int .i64 0, .int .i64 0, .int .i64 0, .int .i64 0, .int .i64 0, .int .i64 0, .int .i64 0, .int .i64 0] 153)).setRow w2.heap.size (hrL F p cF cl wt).toArray) := Lib.hid (by rw [hWv]; rfl)
  rw [← HZZ.out]
  obtain ⟨W4, hW4⟩ : ∃ W4, W4 = Wv.alloc (.cells #[.slice none 0 0] 43) := ⟨_, rfl⟩
  have k4 : Kept Wv W4 := by rw [hW4]; exact (Kept.refl _).alloc _
  have z4 : W4.heap.size = w2.heap.size + 1 + 1 := by rw [hW4]; simp [hzv]
  have r4 : RowC W4 (w2.heap.size + 1) [.slice none 0 0] := by rw [hW4, ← hzv]; exact RowC.new Wv _ 43
  have rb4 : RowC W4 w2.heap.size (hrL F p cF cl wt) := rb.kept k4
  have q1 := (rb4 1 _ rfl).1
  have l1 := cell_lt q1
  have HR4 := Lib.hid r4
  have HRB4 := Lib.hid rb4
  have K4 := Lib.hid (hkv.trans k4)
  have Z4 := Lib.hid z4
  have HW4 := Lib.hid hW4
  clear hWv hbb hkv b0 b1 lb rb r4 rb4 k4 hW4
  go_upto_region 6 with (fail)
  rw [← HW4.out]
  go_wp2_with fail
  refine (parts_any cl W4).mono ?_
  rintro e w6 ⟨rfl, rfl⟩
  rw [z4]
  obtain ⟨W6, hW6⟩ : ∃ W6, W6 = W4.alloc (.cells #[.int .u64 cl] 117) := ⟨_, rfl⟩
  rw [← hW6]
  have k6 : Kept W4 W6 := by rw [hW6]; exact (Kept.refl _).alloc _
  have z6 : W6.heap.size = w2.heap.size + 1 + 1 + 1 := by rw [hW6]; simp [z4]
  have c6 : W6.cell? ⟨w2.heap.size + 1 + 1, 0, none⟩ = some (.int .u64 cl) := by
    rw [hW6, ← z4]; exact (RowC.new W4 [.int .u64 cl] 117 0 _ rfl).1
  have hI0 : ShI w2 (hrL F p cF cl wt) fits wt cl [] W6 := ⟨HRB4.out.kept k6, K4.out.trans k6, none, 0, 0, HR4.out.kept k6, .inl ⟨rfl, rfl, rfl, fun x hx => by cases hx⟩⟩
  have hseq := parts_stops 7 (by omega) (w2.heap.size + 1 + 1) cl (by omega) w2.heap.size W6 c6
  have Z6 := Lib.hid z6
  have HSZ : RowKit.Hid ((Tryz.prog.info? 153).map (·.size) = some (hrL F p cF cl wt).length) := Lib.hid (by rw [hi]; simp [hrL, hw])
  clear hW6 k6 c6 q1 l1 z4 hzv
  go_wp2_with fail
  refine (wpIn_wide (n := 8)).1 ?_
  refine wpIn_rangeFunc_ownH rfl (by omega) (gf := 177) (lb := #[.pointer (some ⟨w2.heap.size + 1 + 1, 0, none⟩)]) rfl trivial (enters_of Tryz.func177 (by kernel_rfl) rfl)
    hseq KpP.trans (fun W l o o' hl h1 h2 h3 => ⟨KpB.put (by have := Z6.out; omega) W l o o' hl h1 h2 h3, fun hb => World.putObj_heap_other (by have := Z6.out; omega)⟩) (Below.refl _ _) (fun _ => rfl)
    (ShI w2 (hrL F p cF cl wt) fits wt cl) (fun _ _ _ => False) (ShI.own _ _ _ _ _ _ (by have := Z6.out; omega)) (fun c => fun _ _ _ _ h _ _ => h) hI0
    (fun x a' _ => a' = { tmps := #[.agg #[.slice A n c, .slice B m d], .int .i64 day, .slice C p q, .slice D u v, .pointer (some ⟨w.heap.size, 0, none⟩), undef, undef, undef, .slice none 0 0, .bool false, .int .i64 0, .int .i64 0, .pointer (some ⟨w2.heap.size, 0, none⟩), .pointer (some ⟨w2.heap.size + 1, 0, none⟩), .int .u64 (x.1 : Int), undef, .agg #[.slice A n c, .slice B m d], .int .i64 day, .slice C p q, .slice D u v, .int .i64 0, .int .i64 0, .bool false, undef, .agg #[.slice A n c, .slice B m d], .int .i64 day, .slice C p q, .slice D u v, .agg (hrL F p cF cl wt).toArray, .pointer (some ⟨w2.heap.size, 1, none⟩), .int .u64 (cl : Int), .func (.func 177) #[] #[.pointer (some ⟨w2.heap.size + 1 + 1, 0, none⟩)], .int .u64 (x.1 : Int), undef, undef, undef, undef, undef, undef, undef, undef, undef, undef, undef, undef, undef, undef, undef, undef, undef, undef], defers := [] }) (fun x a' => fun s W W' row h hg hr => h) ?assign ?body ?done ?stop
  case assign =>
    intro l pre x V K hi hK
    gi_wp2
    exact hK _ _ (KeepsFrom.refl _ _) ⟨Below.refl _ _, fun _ => rfl⟩ hi rfl
  case body =>
    rintro l pre x a' V hl2 - ⟨r1, k1, A5, n5, c5, r5, hfs⟩ rfl hlt2
    obtain ⟨px, hpx0, hpxs⟩ := x
    have hq0 : ∀ w : World, (binOp BinOp.eql 43 (.slice none 0 0) (.slice none 0 0)).run Tryz.prog w = .ok (.bool true) w := fun _ => rfl
    have hq1 : ∀ (g n c : Nat) (w : World), (binOp BinOp.eql 43 (.slice (some ⟨g, 0, none⟩) n c) (.slice none 0 0)).run Tryz.prog w = .ok (.bool false) w := fun _ _ _ _ => rfl
    have hpl : px < 2 ^ 41 := by
      have : px &&& cl ≤ cl := Nat.and_le_right
      omega
    have HPX0 := Lib.hid hpx0
    have HPXS := Lib.hid hpxs
    have hz6 := Z6.out
    have HR1 := Lib.hid r1
    have HK1 := Lib.hid k1
    have HR5 := Lib.hid r5
    have HFS5 := Lib.hid hfs
    have HRG : RowKit.Hid (V.rangeAt w2.heap.size 0 (hrL F p cF cl wt)) := Lib.hid (fun j v hv => by rw [Nat.zero_add]; exact (HR1.out j v hv).1)
    have HSH := Lib.hid (short_any F p cF fb fo cl wt fits V (HFT.out.kept k1) hw hwb px hpl (E2.out.kept k1))
    have hvz := k1.size
    have hl13 := cell_lt (r5 0 _ rfl).1
    obtain ⟨b, hb⟩ : ∃ b, shB fits wt px = b := ⟨_, rfl⟩
    rw [hb] at HSH
    have HB := Lib.hid hb
    dsimp only
    clear r1 k1 r5 hfs hI0 hseq hlt2 hb
    gi_wp2_with (first | (refine wpListIn_load_mid rfl 153 (.tmp 12) rfl w2.heap.size 0 rfl (hrL F p cF cl wt) _ HRG.out Tryz.underlying153 rfl HSZ.out ?_) | fail)
    refine ⟨trivial, (CallsIn.inRound l (callsIn_wide.2 HSH.out)).mono ?_⟩
    rintro e w7 ⟨rfl, hk7⟩
    have HK7 := Lib.hid hk7
    cases b with
    | false =>
      clear hk7
      gi_wp2_with fail
      have k7 := HK7.out
      exact ⟨⟨k7.size, fun kk o _ hk ho => (k7.block kk (Array.getElem?_eq_some_iff.1 hk).1).trans hk⟩, ⟨k7.below.mono (by omega), fun hb => k7.block _ hb⟩, HR1.out.kept k7, HK1.out.trans k7, A5, n5, c5, HR5.out.kept k7, (HFS5.out.kept k7).skip HB.out⟩
    | true =>
      have HL := Lib.hid (list_any px (by omega) w7 (E2.out.kept (HK1.out.trans hk7)))
      have hz7 := hk7.size
      clear hk7
      gi_wp2_with fail
      refine ⟨trivial, (CallsIn.inRound l (callsIn_wide.2 HL.out)).mono ?_⟩
      rintro e w8 ⟨v, rfl, hown, hk8⟩
      have hne : bitsK px 64 ≠ [] := fun h => HPX0.out ((bitsK_nil (by omega)).1 h)
      obtain ⟨kk, hkk⟩ : ∃ k, (bitsK px 64).length = k + 1 := ⟨(bitsK px 64).length - 1, by have := List.length_pos_iff.2 hne; omega⟩
      rw [hkk] at hown
      obtain ⟨g, cap, rfl⟩ := ownsRow_succ hown
      have hgr : RowC w8 g ((lsI px).map (Value.int .i64)) := by rw [← lsI_nC]; exact own_rowC hown
      have hgg : w7.heap.size ≤ g := own_ge hown rfl
      have hlen : kk + 1 = (lsI px).length := by rw [lsI_len, hkk]
      have hk64 : kk + 1 ≤ 64 := by rw [← hkk]; exact bitsK_len px 64
      have HGR := Lib.hid hgr
      have HLN := Lib.hid hlen
      have K8 := Lib.hid (HK7.out.trans hk8)
      have HFS8 := Lib.hid ((HFS5.out.kept HK7.out).kept hk8)
      have hr8 := (HR5.out.kept HK7.out).kept hk8
      have HR8 := Lib.hid hr8
      obtain ⟨t1, t2⟩ := hr8 0 _ rfl
      have l8 := cell_lt t1
      have hFIN : ∀ W9, Kept w8 W9 → (∀ A n c, RowC (W9.setCell ⟨w2.heap.size + 1, 0, none⟩ (.slice A n c)) (w2.heap.size + 1) [.slice A n c]) ∧
          KeepsFrom W6.heap.size V (W9.setCell ⟨w2.heap.size + 1, 0, none⟩ (.slice (some ⟨g, 0, none⟩) (kk + 1) cap)) ∧ KpP w2.heap.size (w2.heap.size + 1 + 1) V (W9.setCell ⟨w2.heap.size + 1, 0, none⟩ (.slice (some ⟨g, 0, none⟩) (kk + 1) cap)) ∧
          RowC (W9.setCell ⟨w2.heap.size + 1, 0, none⟩ (.slice (some ⟨g, 0, none⟩) (kk + 1) cap)) w2.heap.size (hrL F p cF cl wt) ∧ Kept w2 (W9.setCell ⟨w2.heap.size + 1, 0, none⟩ (.slice (some ⟨g, 0, none⟩) (kk + 1) cap)) ∧
          RowC (W9.setCell ⟨w2.heap.size + 1, 0, none⟩ (.slice (some ⟨g, 0, none⟩) (kk + 1) cap)) g ((lsI px).map (Value.int .i64)) := fun W9 h9 => by
        have k9 := K8.out.trans h9
        refine ⟨fun A n c => (HR8.out.kept h9).put (j := 0) (by simp) _, (KeepsFrom.trans ⟨k9.size, fun kk o _ hk ho => (k9.block kk (Array.getElem?_eq_some_iff.1 hk).1).trans hk⟩ ((KeepsOthers.setCell _ _ _).from _)), ⟨(k9.below.mono (by omega)).setCell (p := ⟨w2.heap.size + 1, 0, none⟩) (by dsimp only; omega) _, fun hb => (heap_set (by dsimp only; omega)).trans (k9.block _ hb)⟩, (HR1.out.kept k9).far (by omega) _, (HK1.out.trans k9).setCell (p := ⟨w2.heap.size + 1, 0, none⟩) (by dsimp only; omega) _, (HGR.out.kept h9).far (by omega) _⟩
      have HFIN := Lib.hid hFIN
      clear hown hk8 hgr hne hkk hr8 hFIN hlen
      rcases HFS8.out with ⟨rfl, rfl, rfl, hno⟩ | ⟨g5, P, rfl, hn5, hg5, hrow5, hP5, hsP5, hmin⟩
      · have HNO := Lib.hid hno
        clear hno
        gi_wp2_with fail
        refine ⟨trivial, ?_⟩
        go_at_K
        gi_wp2_with fail
        obtain ⟨f0, f1, f2, f3, f4, f5⟩ := HFIN.out w8 (Kept.refl _)
        exact ⟨f1, f2, f3, f4, _, _, _, f0 _ _ _, FsB.take HLN.out (by omega) f5 HB.out (.inl HNO.out)⟩
      · have h51 : n5 ≤ 64 := by rw [hn5, lsI_len]; exact bitsK_len _ 64
        have HCMP := Lib.hid (compareLists_any (some ⟨g, 0, none⟩) (some ⟨g5, 0, none⟩) (kk + 1) cap n5 c5 (lsI px) (lsI P.1) w8 (intR_row HGR.out HLN.out (by omega)) (intR_row hrow5 hn5 (by omega)))
        have HN5 := Lib.hid hn5
        have HROW5 := Lib.hid hrow5
        have HP5 := Lib.hid hP5
        have HSP5 := Lib.hid hsP5
        have HMIN := Lib.hid hmin
        obtain ⟨z, hz⟩ : ∃ z, cmpLL (lsI px) (lsI P.1) = z := ⟨_, rfl⟩
        rw [hz] at HCMP
        have HZ := Lib.hid hz
        clear hn5 hrow5 hP5 hsP5 hmin hz
        gi_wp2_with fail
        refine ⟨trivial, (CallsIn.inRound l (callsIn_wide.2 HCMP.out)).mono ?_⟩
        rintro e w9 ⟨rfl, hk9⟩
        have HK9 := Lib.hid hk9
        obtain ⟨t3, t4⟩ := (HR8.out.kept hk9) 0 _ rfl
        have l9 := cell_lt t3
        clear hk9 t1 t2 l8
        by_cases hz0 : z < 0
        · gi_wp2_with fail
          obtain ⟨f0, f1, f2, f3, f4, f5⟩ := HFIN.out w9 HK9.out
          exact ⟨f1, f2, f3, f4, _, _, _, f0 _ _ _, FsB.take HLN.out (by omega) f5 HB.out (.inr ⟨P, fun y hy hs => by (have := HMIN.out y hy hs; omega), by rw [HZ.out]; exact hz0⟩)⟩
        · gi_wp2_with fail
          have k9 := K8.out.trans HK9.out
          exact ⟨⟨k9.size, fun kk o _ hk ho => (k9.block kk (Array.getElem?_eq_some_iff.1 hk).1).trans hk⟩, ⟨k9.below.mono (by omega), fun hb => k9.block _ hb⟩, HR1.out.kept k9, HK1.out.trans k9, _, n5, c5, HR8.out.kept HK9.out, FsB.pass HN5.out hg5 (HROW5.out.kept HK9.out) HP5.out HSP5.out (fun y hy hs => by (have := HMIN.out y hy hs; omega)) (by rw [HZ.out]; omega)⟩
  case done =>
    rintro D2 ys V hD hys ⟨r1, k1, A5, n5, c5, r5, hfs⟩ hK
    have HYS := Lib.hid hys
    have HKD := Lib.hid hK
    have HK1 := Lib.hid k1
    have HFS5 := Lib.hid hfs
    have t1 := (r5 0 _ rfl).1
    have l5 := cell_lt t1
    have hz6 := Z6.out
    clear hys r1 k1 r5 hfs hK hI0 hseq
    rcases HFS5.out with ⟨rfl, rfl, rfl, hno⟩ | ⟨g5, P, rfl, hn5, hg5, hrow5, hP5, hsP5, hmin⟩
    · have HNO := Lib.hid hno
      clear hno
      go_upto_region 12 with (fail)
      go_region
      all_goals go_wp2_with fail
      all_goals
        refine ⟨by simp, .inl ⟨_, _, rfl, run_takeDeferred (show V.drew.heap[D2]? = _ from HKD.out), ?_⟩⟩
        have e1 := HFS.out
        have e2 := HWT.out
        have e3 := HCX.out
        subst e1
        subst e2
        subst e3
        refine ⟨_, results_tmp3 rfl _ _ _, .inr ⟨HEE.out, .inl ⟨fun x => HNO.out x (HYS.out x), rfl⟩⟩, ((K2.out.trans HK1.out).drew).putDeferred (by have := K2.out.size; omega) HKD.out rfl rfl⟩
    · have HN5 := Lib.hid hn5
      have HROW5 := Lib.hid hrow5
      have HSP5 := Lib.hid hsP5
      have HMIN := Lib.hid hmin
      clear hn5 hrow5 hP5 hsP5 hmin
      go_upto_region 12 with (fail)
      go_region
      all_goals go_wp2_with fail
      all_goals
        refine ⟨by simp, .inl ⟨_, _, rfl, run_takeDeferred (show V.drew.heap[D2]? = _ from HKD.out), ?_⟩⟩
        have hpb : ∀ b, b ≠ D2 → (V.drew.putObj D2 (.deferred none)).heap[b]? = V.drew.heap[b]? := fun b hb => World.putObj_heap_other (by omega)
        have hgD : g5 ≠ D2 := by
          rintro rfl
          exact row_not_deferred HROW5.out (by rw [List.length_map, lsI_len]; exact List.length_pos_iff.2 (fun h => P.2.1 ((bitsK_nil (by have h1 := P.2.2; have h2 : P.1 &&& cl ≤ cl := Nat.and_le_right; omega)).1 h))) HKD.out
        have e1 := HFS.out
        have e2 := HWT.out
        have e3 := HCX.out
        subst e1
        subst e2
        subst e3
        refine ⟨_, results_tmp3 rfl _ _ _, .inr ⟨HEE.out, .inr ⟨g5, _, _, P, rfl, HN5.out, rowc_heap (hpb g5 hgD) (HROW5.out.kept (Kept.refl V).drew), by have := K2.out.size; omega, HSP5.out, fun x hx => by have := HMIN.out x (HYS.out x) hx; omega⟩⟩, ((K2.out.trans HK1.out).drew).putDeferred (by have := K2.out.size; omega) HKD.out rfl rfl⟩
  case stop =>
    rintro D2 c pre V hD hp9 hX hK
    exact absurd hX (by simp)
end Go.Proofs.YtologmoanaccpaaGreatDoor

namespace Go.Proofs
def Tryz.lays146_ren : Go.Shelf.Ren := ⟨fun | 146 => 138 | 221 => 193 | 268 => 216 | 138 => 217 | 143 => 218 | 195 => 241 | 197 => 242 | 218 => 243 | 219 => 244 | 260 => 258 | 217 => 259 | 225 => 260 | 224 => 261 | 267 => 262 | 266 => 268 | 314 => 269 | n => n, fun | 9 => 9 | 31 => 172 | 3 => 3 | 4 => 4 | 0 => 0 | 105 => 274 | 21 => 21 | 5 => 5 | 46 => 212 | 119 => 298 | 139 => 301 | 138 => 300 | 146 => 302 | 51 => 247 | n => n, fun | 1 => 2 | 3 => 5 | 4 => 6 | n => n⟩
theorem Tryz.lays146 : Go.Proofs.Lays.n146 Tryz.prog Tryz.lays146_ren := {
  mixed := by kernel_rfl
  f138 := Tryz.func217.trans (congrArg some (by kernel_rfl))
  f143 := Tryz.func218.trans (congrArg some (by kernel_rfl))
  f146 := Tryz.func138.trans (congrArg some (by kernel_rfl))
  f195 := Tryz.func241.trans (congrArg some (by kernel_rfl))
  f197 := Tryz.func242.trans (congrArg some (by kernel_rfl))
  f217 := Tryz.func259.trans (congrArg some (by kernel_rfl))
  f218 := Tryz.func243.trans (congrArg some (by kernel_rfl))
  f219 := Tryz.func244.trans (congrArg some (by kernel_rfl))
  f221 := Tryz.func193.trans (congrArg some (by kernel_rfl))
  f224 := Tryz.func261.trans (congrArg some (by kernel_rfl))
  f225 := Tryz.func260.trans (congrArg some (by kernel_rfl))
  f260 := Tryz.func258.trans (congrArg some (by kernel_rfl))
  f266 := Tryz.func268.trans (congrArg some (by kernel_rfl))
  f267 := Tryz.func262.trans (congrArg some (by kernel_rfl))
  f268 := Tryz.func216.trans (congrArg some (by kernel_rfl))
  f314 := Tryz.func269.trans (congrArg some (by kernel_rfl))
  t0 := Tryz.underlying0
  a0 := Tryz.isAgg0
  z0 := Tryz.sizeOf0
  v0 := Tryz.zeroValue0
  t3 := Tryz.underlying3
  a3 := Tryz.isAgg3
  z3 := Tryz.sizeOf3
  v3 := Tryz.zeroValue3
  t4 := Tryz.underlying4
  a4 := Tryz.isAgg4
  z4 := Tryz.sizeOf4
  v4 := Tryz.zeroValue4
  t5 := Tryz.underlying5
  a5 := Tryz.isAgg5
  z5 := Tryz.sizeOf5
  v5 := Tryz.zeroValue5
  t9 := Tryz.underlying9
  a9 := Tryz.isAgg9
  z9 := Tryz.sizeOf9
  v9 := Tryz.zeroValue9
  t21 := Tryz.underlying21
  a21 := Tryz.isAgg21
  z21 := Tryz.sizeOf21
  v21 := Tryz.zeroValue21
  t31 := Tryz.underlying172
  a31 := Tryz.isAgg172
  z31 := Tryz.sizeOf172
  v31 := Tryz.zeroValue172
  t46 := Tryz.underlying212
  a46 := Tryz.isAgg212
  z46 := Tryz.sizeOf212
  v46 := Tryz.zeroValue212
  t51 := Tryz.underlying247
  a51 := Tryz.isAgg247
  z51 := Tryz.sizeOf247
  v51 := Tryz.zeroValue247
  t105 := Tryz.underlying274
  a105 := Tryz.isAgg274
  z105 := Tryz.sizeOf274
  v105 := Tryz.zeroValue274
  t119 := Tryz.underlying298
  a119 := Tryz.isAgg298
  z119 := Tryz.sizeOf298
  t138 := Tryz.underlying300
  a138 := Tryz.isAgg300
  z138 := Tryz.sizeOf300
  v138 := Tryz.zeroValue300
  t139 := Tryz.underlying301
  a139 := Tryz.isAgg301
  z139 := Tryz.sizeOf301
  v139 := Tryz.zeroValue301
  t146 := Tryz.underlying302
  a146 := Tryz.isAgg302
  z146 := Tryz.sizeOf302
  v146 := Tryz.zeroValue302
  g1 := by kernel_rfl
  g3 := by kernel_rfl
  g4 := by kernel_rfl }
open Go.RowKit Go.Lib in
/-- strings.Split. (LAID: no walk: one application.) -/
theorem Tryz.strings_Split (s sep : ByteArray) (m : Int) (w : World) (hs : s.size < 4294967281) (hm : w.cell? ⟨2, 0, none⟩ = some (.int .i64 m)) (h1 : 1 ≤ sep.size) :
    Calls Tryz.prog 138 #[.string s, .string sep] w fun e w' =>
      e = .returned (.slice (some ⟨w.heap.size, 0, none⟩) (Lib.countB s sep + 1) (Lib.countB s sep + 1)) ∧ w' = w.alloc (.cells ((Lib.splitB sep 0 (Lib.countB s sep) s).map Value.string).toArray 9) := Any.strings_Split Tryz.lays146 (by kernel_rfl) s sep m w hs hm h1
def Tryz.lays109_ren : Go.Shelf.Ren := ⟨fun | 109 => 221 | n => n, fun | 31 => 172 | 9 => 9 | 3 => 3 | 0 => 0 | 4 => 4 | n => n, fun | n => n⟩
theorem Tryz.lays109 : Go.Proofs.Lays.n109 Tryz.prog Tryz.lays109_ren := {
  mixed := by kernel_rfl
  f109 := Tryz.func221.trans (congrArg some (by kernel_rfl))
  t0 := Tryz.underlying0
  a0 := Tryz.isAgg0
  z0 := Tryz.sizeOf0
  v0 := Tryz.zeroValue0
  t3 := Tryz.underlying3
  a3 := Tryz.isAgg3
  z3 := Tryz.sizeOf3
  v3 := Tryz.zeroValue3
  t4 := Tryz.underlying4
  a4 := Tryz.isAgg4
  z4 := Tryz.sizeOf4
  v4 := Tryz.zeroValue4
  t9 := Tryz.underlying9
  a9 := Tryz.isAgg9
  z9 := Tryz.sizeOf9
  v9 := Tryz.zeroValue9
  t31 := Tryz.underlying172
  a31 := Tryz.isAgg172
  z31 := Tryz.sizeOf172
  v31 := Tryz.zeroValue172 }
open Go.Lib in
/-- slices.Index at []string: "Index returns the index of the first occurrence of v in s, or -1 if not present.": IT RETURNS 'Lib.idxOfS (the elements) v'; the world is as it was. 'zs': what the cells behind the slice's address hold (its spare capacity too, if you have it); 'zs.take n': its elements. (LAID: no walk: one application.) -/
theorem Tryz.slices_Index_string (b off n c : Nat) (zs : List ByteArray) (x : ByteArray) (w : World) (hz : n ≤ zs.length) (hbig : n ≤ 9223372036854775807) (hc : ∀ j, j < zs.length → w.cell? ⟨b, off + j, none⟩ = some (.string (zs.getD j ByteArray.empty))) :
    Calls Tryz.prog 221 #[.slice (some ⟨b, off, none⟩) n c, .string x] w fun e w' => e = .returned (.int .i64 (Lib.idxOfS (zs.take n) x)) ∧ w' = w := Any.slices_Index_string Tryz.lays109 b off n c zs x w hz hbig hc
end Go.Proofs

namespace Go.Proofs.YtologmoanaccpaaGreatDoor
set_option linter.all false
open Go.RowKit Go.Shelf

def earW : List ByteArray := [⟨#[112, 108, 97, 105, 110]⟩, ⟨#[99, 114, 111, 112, 112, 101, 100]⟩, ⟨#[102, 111, 114, 107, 101, 100]⟩, ⟨#[114, 105, 116, 116, 101, 100]⟩, ⟨#[104, 111, 108, 101, 100]⟩]
def smitW : List ByteArray := [⟨#[98, 97, 114, 101]⟩, ⟨#[114, 101, 100]⟩, ⟨#[98, 108, 117, 101]⟩, ⟨#[103, 114, 101, 101, 110]⟩, ⟨#[98, 108, 97, 99, 107]⟩]
def wornB : ByteArray := ⟨#[119, 111, 114, 110]⟩
def wrdV (ws : List ByteArray) : Value := .agg (ws.map Value.string).toArray
def zeroW : List Value := [.string ByteArray.empty, .string ByteArray.empty, .string ByteArray.empty, .string ByteArray.empty, .string ByteArray.empty]
set_option maxHeartbeats 2000000 in
theorem earWords_any (w : World) : Calls Tryz.prog 188 #[] w fun e w' => e = .returned (wrdV earW) ∧ Kept w w' := by
  have hi : (Tryz.prog.info? 230).map (·.size) = some 5 := by kernel_rfl
  go_enter Tryz.func188, Tryz.ntmps188
  go_upto_region 1 with (fail)
  go_wp2_with (refine wpList_store_row rfl 230 (.tmp 0) (.tmp 1) rfl w.heap.size (earW.map Value.string).toArray rfl rfl 230 zeroW.toArray (heap_alloc_new w _) (by rw [hi]; rfl) rfl rfl ?_)
  refine bodyPost_ret (v := wrdV earW) (results_cell_row (fn := Tryz.f188) (p := 0) (ty := 230) rfl _ _ w.heap.size 230 (earW.map Value.string).toArray (0, 0) _ rfl (heap_alloc_new w _) Tryz.underlying230 rfl (by rw [hi]; rfl)) rfl ⟨rfl, (Kept.refl w).alloc _⟩
set_option maxHeartbeats 2000000 in
theorem smitWords_any (w : World) : Calls Tryz.prog 190 #[] w fun e w' => e = .returned (wrdV smitW) ∧ Kept w w' := by
  have hi : (Tryz.prog.info? 230).map (·.size) = some 5 := by kernel_rfl
  go_enter Tryz.func190, Tryz.ntmps190
  go_upto_region 1 with (fail)
  go_wp2_with (refine wpList_store_row rfl 230 (.tmp 0) (.tmp 1) rfl w.heap.size (smitW.map Value.string).toArray rfl rfl 230 zeroW.toArray (heap_alloc_new w _) (by rw [hi]; rfl) rfl rfl ?_)
  refine bodyPost_ret (v := wrdV smitW) (results_cell_row (fn := Tryz.f190) (p := 0) (ty := 230) rfl _ _ w.heap.size 230 (smitW.map Value.string).toArray (0, 0) _ rfl (heap_alloc_new w _) Tryz.underlying230 rfl (by rw [hi]; rfl)) rfl ⟨rfl, (Kept.refl w).alloc _⟩
theorem need_true (w : World) : Calls Tryz.prog 139 #[.bool true] w fun e w' => e = .returned (.tuple #[]) ∧ w = w' := by
  go_enter Tryz.func139, Tryz.ntmps139
  go_wp2
  go_end0
  exact ⟨rfl, rfl⟩
/-- what is seen by a word, if it is one -/
def rdW (ws : List ByteArray) (x : ByteArray) : Int := if x = wornB then 9 else Lib.idxOfS ws x
def rdOk (ws : List ByteArray) (x : ByteArray) : Prop := x = wornB ∨ (0 ≤ Lib.idxOfS ws x ∧ Lib.idxOfS ws x < 5)
set_option maxRecDepth 100000 in
set_option maxHeartbeats 2000000 in
theorem read_good (ws : List ByteArray) (x : ByteArray) (h5 : ws.length = 5) (hg : rdOk ws x) (w : World) :
    Calls Tryz.prog 195 #[wrdV ws, .string x] w fun e w' => e = .returned (.int .u8 (rdW ws x)) ∧ Kept w w' := by
  match ws, h5 with
  | [a0, a1, a2, a3, a4], _ =>
  obtain ⟨W1, hW1⟩ : ∃ W1, W1 = w.alloc (.cells #[.string a0, .string a1, .string a2, .string a3, .string a4] 230) := ⟨_, rfl⟩
  have k1 : Kept w W1 := by rw [hW1]; exact (Kept.refl w).alloc _
  have r1 : RowC W1 w.heap.size [.string a0, .string a1, .string a2, .string a3, .string a4] := by rw [hW1]; exact RowC.new w _ 230
  have HIX := Lib.hid (Tryz.slices_Index_string w.heap.size 0 5 5 [a0, a1, a2, a3, a4] x W1 (by simp) (by omega) (fun j hj => by
    rw [Nat.zero_add]
    match j, hj with
    | 0, _ => exact (r1 0 _ rfl).1
    | 1, _ => exact (r1 1 _ rfl).1
    | 2, _ => exact (r1 2 _ rfl).1
    | 3, _ => exact (r1 3 _ rfl).1
    | 4, _ => exact (r1 4 _ rfl).1
    | j + 5, h => simp at h; omega))
  have HW1 := Lib.hid hW1
  have HK1 := Lib.hid k1
  have a0' := (r1 0 _ rfl).1
  have la := cell_lt a0'
  clear hW1 k1 r1
  by_cases hx : x = wornB
  · subst hx
    have h1 : rdW [a0, a1, a2, a3, a4] wornB = 9 := by unfold rdW; rw [if_pos rfl]
    have H1 := Lib.hid h1
    clear h1 hg
    unfold wornB wrdV
    go_enter Tryz.func195, Tryz.ntmps195
    go_wp2_with fail
    go_ret
    exact ⟨by rw [show (⟨#[119, 111, 114, 110]⟩ : ByteArray) = wornB from rfl, H1.out]; rfl, (Kept.refl _).alloc _⟩
  · obtain ⟨g1, g2⟩ := hg.resolve_left hx
    obtain ⟨z, hz⟩ : ∃ z, Lib.idxOfS [a0, a1, a2, a3, a4] x = z := ⟨_, rfl⟩
    have ht : List.take 5 [a0, a1, a2, a3, a4] = [a0, a1, a2, a3, a4] := rfl
    rw [ht] at HIX
    rw [hz] at g1 g2 HIX
    have h1 : rdW [a0, a1, a2, a3, a4] x = z := by unfold rdW; rw [if_neg hx, hz]
    have H1 := Lib.hid h1
    have hxw : (x.toList == [119, 111, 114, 110]) = false := by
      have h := (Lib.bytes_beq_false_iff x wornB).2 hx
      rw [show wornB.toList = [119, 111, 114, 110] by rw [ByteArray.toList_eq]; rfl] at h
      exact h
    have hge : decide (0 ≤ z) = true := by simp; omega
    have hcv : IntKind.u8.wrap z = z := by rw [IntKind.wrap_u8]; omega
    have HN : RowKit.Hid (∀ W, Calls Tryz.prog 139 #[.bool true] W fun e w' => e = .returned (.tuple #[]) ∧ W = w') := Lib.hid (fun W => need_true W)
    clear h1 hz hx ht hg
    unfold wrdV
    go_enter Tryz.func195, Tryz.ntmps195
    go_upto_region 1 with (fail)
    rw [← HW1.out]
    go_wp2_with fail
    refine HIX.out.mono ?_
    rintro e w2 ⟨rfl, rfl⟩
    go_wp2_with fail
    refine (HN.out _).mono ?_
    rintro e w2 ⟨rfl, rfl⟩
    go_wp2_with fail
    go_ret
    exact ⟨by rw [H1.out]; rfl, HK1.out⟩
end Go.Proofs.YtologmoanaccpaaGreatDoor

namespace Go.Proofs.YtologmoanaccpaaGreatDoor
set_option linter.all false
open Go.RowKit Go.Shelf

def rdP (k : Nat) (x : ByteArray) : Int := if k < 2 then rdW earW x else rdW smitW x
def rdPk (k : Nat) (x : ByteArray) : Prop := if k < 2 then rdOk earW x else rdOk smitW x
def rdR (ws : List ByteArray) (k : Nat) : List Value := (List.range 6).map fun i => .int .u8 (if i < k then rdP i (ws.getD i ByteArray.empty) else 0)
theorem rdR_len (ws : List ByteArray) (k : Nat) : (rdR ws k).length = 6 := by simp [rdR]
theorem rdR_set (ws : List ByteArray) {k : Nat} {x : ByteArray} (hx : ws[k]? = some x) : (rdR ws k).set k (.int .u8 (rdP k x)) = rdR ws (k + 1) := by
  unfold rdR
  apply List.ext_getElem?
  intro i
  rw [List.getElem?_set, List.length_map, List.length_range, List.getElem?_map, List.getElem?_map]
  by_cases hi : i < 6
  · rw [List.getElem?_range hi]
    by_cases h : k = i
    · subst h
      rw [if_pos rfl, if_pos hi]
      simp [hx]
    · rw [if_neg h]
      by_cases h2 : i < k
      · simp [h2, show i < k + 1 by omega]
      · simp [h2, show ¬ i < k + 1 by omega]
  · rw [List.getElem?_eq_none (by simp; omega)]
    by_cases h : k = i
    · rw [if_pos h, if_neg (by omega)]; rfl
    · rw [if_neg h]; rfl
def rdA (ws : List ByteArray) : Value := .agg (rdR ws 6).toArray
set_option maxRecDepth 100000 in
set_option maxHeartbeats 2000000 in
theorem readSigns_good (b off c : Nat) (ws : List ByteArray) (hl : ws.length = 6) (hg : ∀ k x, ws[k]? = some x → rdPk k x) (w : World) (hc : ∀ j x, ws[j]? = some x → w.cell? ⟨b, off + j, none⟩ = some (.string x)) :
    Calls Tryz.prog 141 #[.slice (some ⟨b, off, none⟩) 6 c] w fun e w' => e = .returned (rdA ws) ∧ Kept w w' := by
  have hmf : ∀ (fn : Fn) (first cap : Array Value) (w : World), (Instr.makeFunc fn first cap).run Tryz.prog w = .ok (.func fn first cap) w := fun _ _ _ _ => rfl
  obtain ⟨EW, hEW⟩ : ∃ E, wrdV earW = E := ⟨_, rfl⟩
  obtain ⟨SW, hSW⟩ : ∃ E, wrdV smitW = E := ⟨_, rfl⟩
  have H188 : RowKit.Hid (∀ W, Calls Tryz.prog 188 #[] W fun e w' => e = .returned EW ∧ Kept W w') := Lib.hid (fun W => by rw [← hEW]; exact earWords_any W)
  have H190 : RowKit.Hid (∀ W, Calls Tryz.prog 190 #[] W fun e w' => e = .returned SW ∧ Kept W w') := Lib.hid (fun W => by rw [← hSW]; exact smitWords_any W)
  have HRE : RowKit.Hid (∀ x W, rdOk earW x → Calls Tryz.prog 195 #[EW, .string x] W fun e w' => e = .returned (.int .u8 (rdW earW x)) ∧ Kept W w') := Lib.hid (fun x W h => by rw [← hEW]; exact read_good earW x rfl h W)
  have HRS : RowKit.Hid (∀ x W, rdOk smitW x → Calls Tryz.prog 195 #[SW, .string x] W fun e w' => e = .returned (.int .u8 (rdW smitW x)) ∧ Kept W w') := Lib.hid (fun x W h => by rw [← hSW]; exact read_good smitW x rfl h W)
  have HN : RowKit.Hid (∀ W, Calls Tryz.prog 139 #[.bool true] W fun e w' => e = .returned (.tuple #[]) ∧ W = w') := Lib.hid (fun W => need_true W)
  have HEA : RowKit.Hid (∀ (k : Nat) W, Calls Tryz.prog 165 #[.int .i64 (k : Int)] W fun e w' => e = .returned (.bool (decide ((k : Int) < 2))) ∧ W = w') := Lib.hid (fun k W => isEar_any k W)
  obtain ⟨W1, hW1⟩ : ∃ W1, W1 = w.alloc (.cells #[.int .u8 0, .int .u8 0, .int .u8 0, .int .u8 0, .int .u8 0, .int .u8 0] 30) := ⟨_, rfl⟩
  have k1 : Kept w W1 := by rw [hW1]; exact (Kept.refl w).alloc _
  have r1 : RowC W1 w.heap.size (rdR [] 0) := by rw [hW1]; exact RowC.new w (rdR [] 0) 30
  have HG := Lib.hid hg
  have HC := Lib.hid hc
  have HL := Lib.hid hl
  have HW1 := Lib.hid hW1
  have HK1 := Lib.hid k1
  have HR1 := Lib.hid r1
  clear hW1 k1 r1 hEW hSW hg hc hl
  go_enter Tryz.func141, Tryz.ntmps141
  go_upto_region 1 with (fail)
  rw [← HW1.out]
  go_wp2_with fail
  refine (HN.out _).mono ?_
  rintro e w2 ⟨rfl, rfl⟩
  go_wp2_with fail
  refine (H188.out _).mono ?_
  rintro e w2 ⟨rfl, hk2⟩
  have HK2 := Lib.hid hk2
  clear hk2
  go_wp2_with fail
  refine (H190.out _).mono ?_
  rintro e w3 ⟨rfl, hk3⟩
  have HK3 := Lib.hid (HK2.out.trans hk3)
  clear hk3
  go_upto_region 4 with (fail)
  obtain ⟨W4, hW4⟩ : ∃ W4, W4 = w3.alloc (.cells #[.int .u8 0, .int .u8 0, .int .u8 0, .int .u8 0, .int .u8 0, .int .u8 0] 30) := ⟨_, rfl⟩
  have k4 : Kept w3 W4 := by rw [hW4]; exact (Kept.refl _).alloc _
  have r4 : RowC W4 w3.heap.size (rdR ws 0) := by rw [hW4]; exact RowC.new w3 (rdR ws 0) 30
  have HR4 := Lib.hid r4
  have HK4 := Lib.hid k4
  rw [← hW4]
  clear hW4 k4 r4
  go_wp2_with fail
  go_loopw [19] (fun i wr => ∃ k : Nat, k ≤ 6 ∧ i = .int .i64 k ∧ RowC wr w3.heap.size (rdR ws k) ∧ Kept w3 wr) (fun i _ => 6 - (intOf i).toNat)
  case atStart => exact ⟨0, by omega, by first | rfl | go_num, HR4.out, HK4.out⟩
  case round =>
    obtain ⟨k, hk, rfl, hr, hkr⟩ := hrel
    have HR := Lib.hid hr
    have HKR := Lib.hid hkr
    have hsz := hkr.size
    clear hr hkr
    by_cases hlt : k < 6
    · obtain ⟨x, hx⟩ : ∃ x, ws[k]? = some x := ⟨_, List.getElem?_eq_getElem (by rw [HL.out]; exact hlt)⟩
      have c0 := (((HK1.out.trans HK3.out).trans HKR.out).cells _ _ (cell_lt (HC.out k x hx))).trans (HC.out k x hx)
      have lc := cell_lt c0
      have HX := Lib.hid hx
      have hgk := HG.out k x hx
      clear hx
      go_wp2_with fail
      refine (HEA.out k _).mono ?_
      rintro e w5 ⟨rfl, rfl⟩
      by_cases h2 : k < 2
      · have hd : decide ((k : Int) < 2) = true := by simp; omega
        have hgk2 : rdOk earW x := by unfold rdPk at hgk; rwa [if_pos h2] at hgk
        have HRX := Lib.hid (HRE.out x wr hgk2)
        have HPV : RowKit.Hid (rdP k x = rdW earW x) := Lib.hid (by unfold rdP; rw [if_pos h2])
        rw [hd]
        clear hgk hgk2
        go_wp2_with fail
        refine HRX.out.mono ?_
        rintro e w6 ⟨rfl, hk6⟩
        have HK6 := Lib.hid (HKR.out.trans hk6)
        have hr6 := HR.out.kept hk6
        obtain ⟨g1, g2⟩ := hr6 k _ (List.getElem?_eq_getElem (by rw [rdR_len]; exact hlt))
        have l6 := cell_lt g1
        have HR6 := Lib.hid hr6
        clear hk6 hr6 c0 lc
        go_wp2_with fail
        go_roundw
        case rel =>
          refine ⟨k + 1, by omega, by go_num, ?_, HK6.out.setCell (p := ⟨w3.heap.size, k, none⟩) (Nat.le_refl _) _⟩
          rw [← rdR_set ws HX.out, HPV.out]
          exact HR6.out.put (by rw [rdR_len]; exact hlt) _
        case measure => simp [intOf]; omega
      · have hd : decide ((k : Int) < 2) = false := by simp; omega
        have hgk2 : rdOk smitW x := by unfold rdPk at hgk; rwa [if_neg h2] at hgk
        have HRX := Lib.hid (HRS.out x wr hgk2)
        have HPV : RowKit.Hid (rdP k x = rdW smitW x) := Lib.hid (by unfold rdP; rw [if_neg h2])
        rw [hd]
        clear hgk hgk2
        go_wp2_with fail
        refine HRX.out.mono ?_
        rintro e w6 ⟨rfl, hk6⟩
        have HK6 := Lib.hid (HKR.out.trans hk6)
        have hr6 := HR.out.kept hk6
        obtain ⟨g1, g2⟩ := hr6 k _ (List.getElem?_eq_getElem (by rw [rdR_len]; exact hlt))
        have l6 := cell_lt g1
        have HR6 := Lib.hid hr6
        clear hk6 hr6 c0 lc
        go_wp2_with fail
        go_roundw
        case rel =>
          refine ⟨k + 1, by omega, by go_num, ?_, HK6.out.setCell (p := ⟨w3.heap.size, k, none⟩) (Nat.le_refl _) _⟩
          rw [← rdR_set ws HX.out, HPV.out]
          exact HR6.out.put (by rw [rdR_len]; exact hlt) _
        case measure => simp [intOf]; omega
    · obtain rfl : k = 6 := by omega
      obtain ⟨v0, v1, v2, v3, v4, v5, hv⟩ : ∃ v0 v1 v2 v3 v4 v5 : Int, rdR ws 6 = [.int .u8 v0, .int .u8 v1, .int .u8 v2, .int .u8 v3, .int .u8 v4, .int .u8 v5] := ⟨_, _, _, _, _, _, rfl⟩
      have hr := HR.out
      rw [hv] at hr
      have d0 := (hr 0 _ rfl).1
      have d1 := (hr 1 _ rfl).1
      have d2 := (hr 2 _ rfl).1
      have d3 := (hr 3 _ rfl).1
      have d4 := (hr 4 _ rfl).1
      have d5 := (hr 5 _ rfl).1
      have ld := cell_lt d0
      have hb := (HR1.out.kept HK3.out).kept HKR.out
      obtain ⟨z01, z02⟩ := hb 0 _ rfl
      obtain ⟨z11, z12⟩ := hb 1 _ rfl
      obtain ⟨z21, z22⟩ := hb 2 _ rfl
      obtain ⟨z31, z32⟩ := hb 3 _ rfl
      obtain ⟨z41, z42⟩ := hb 4 _ rfl
      obtain ⟨z51, z52⟩ := hb 5 _ rfl
      have lz := cell_lt z01
      have HV := Lib.hid hv
      have HKE := Lib.hid ((HK1.out.trans HK3.out).trans HKR.out)
      clear hr hb hv
      go_wp2_with fail
      refine bodyPost_ret (v := .agg #[.int .u8 v0, .int .u8 v1, .int .u8 v2, .int .u8 v3, .int .u8 v4, .int .u8 v5]) (by simp [results, Tryz.results141, go_sem, z01, z11, z21, z31, z41, z51]) rfl ⟨?_, ?_⟩
      · unfold rdA
        rw [HV.out]
      · exact (((((HKE.out.setCell (by simp; try omega) _).setCell (by simp; try omega) _).setCell (by simp; try omega) _).setCell (by simp; try omega) _).setCell (by simp; try omega) _).setCell (by simp; try omega) _
end Go.Proofs.YtologmoanaccpaaGreatDoor
