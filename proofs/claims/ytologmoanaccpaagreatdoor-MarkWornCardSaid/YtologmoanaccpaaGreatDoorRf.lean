/-
  the first shortage: Shortage
-/
import Derived.Test.YtologmoanaccpaaGreatDoorRA
import Derived.Test.YtologmoanaccpaaGreatDoorRC
import Derived.Test.YtologmoanaccpaaGreatDoorRe
namespace Go.Proofs.YtologmoanaccpaaGreatDoor
set_option linter.all false
open Go.RowKit Go.Shelf
attribute [local go_sem] Oper.semAt_some

theorem cmpI_lt {x y : Int} : cmpI x y < 0 ↔ x < y := by
  unfold cmpI
  split
  · simp [*]
  · split <;> simp [*]
theorem cmpI_eq {x y : Int} : cmpI x y = 0 ↔ x = y := ⟨cmpI_zero, fun h => by rw [h, cmpI_self]⟩
theorem cmpL_self : ∀ a : List Int, cmpL a a = 0
  | [] => rfl
  | x :: a => by simp [cmpL, cmpI_self, cmpL_self a]
theorem cmpL_cons {x y : Int} {a b : List Int} : cmpL (x :: a) (y :: b) < 0 ↔ x < y ∨ (x = y ∧ cmpL a b < 0) := by
  simp only [cmpL]
  by_cases h : cmpI x y = 0
  · rw [if_pos h]
    have := cmpI_zero h
    subst this
    simp
  · rw [if_neg h, cmpI_lt]
    have : x ≠ y := fun e => h (cmpI_eq.2 e)
    simp [this]
theorem cmpL_trans : ∀ a b c : List Int, cmpL a b < 0 → cmpL b c < 0 → cmpL a c < 0
  | [], [], c => fun h => absurd h (by simp [cmpL])
  | [], y :: b, [] => fun _ h => absurd h (by simp [cmpL])
  | [], y :: b, z :: c => fun _ _ => by simp [cmpL]
  | x :: a, [], c => fun h => absurd h (by simp [cmpL])
  | x :: a, y :: b, [] => fun _ h => absurd h (by simp [cmpL])
  | x :: a, y :: b, z :: c => fun h1 h2 => by
    rw [cmpL_cons] at h1 h2 ⊢
    rcases h1 with h1 | ⟨h1, h3⟩ <;> rcases h2 with h2 | ⟨h2, h4⟩
    · exact .inl (by omega)
    · exact .inl (by omega)
    · exact .inl (by omega)
    · exact .inr ⟨by omega, cmpL_trans a b c h3 h4⟩
theorem cmpLL_lt {a b : List Int} : cmpLL a b < 0 ↔ a.length < b.length ∨ (a.length = b.length ∧ cmpL a b < 0) := by
  unfold cmpLL
  simp only [fstE]
  by_cases h : cmpI (a.length : Int) (b.length : Int) = 0
  · rw [if_pos h]
    have := cmpI_zero h
    by_cases h2 : cmpL a b = 0
    · rw [if_pos h2]
      constructor
      · intro h; omega
      · rintro (h | ⟨_, h⟩) <;> omega
    · rw [if_neg h2]
      constructor
      · intro h; exact .inr ⟨by omega, h⟩
      · rintro (h | ⟨_, h⟩)
        · omega
        · exact h
  · rw [if_neg h, cmpI_lt]
    have : (a.length : Int) ≠ b.length := fun e => h (cmpI_eq.2 e)
    constructor
    · intro h; exact .inl (by omega)
    · rintro (h | ⟨h, _⟩) <;> omega
theorem cmpLL_irr (a : List Int) : ¬ cmpLL a a < 0 := by
  rw [cmpLL_lt, cmpL_self]
  omega
theorem cmpLL_trans {a b c : List Int} (h1 : cmpLL a b < 0) (h2 : cmpLL b c < 0) : cmpLL a c < 0 := by
  rw [cmpLL_lt] at h1 h2 ⊢
  rcases h1 with h1 | ⟨h1, h3⟩ <;> rcases h2 with h2 | ⟨h2, h4⟩
  · exact .inl (by omega)
  · exact .inl (by omega)
  · exact .inl (by omega)
  · exact .inr ⟨by omega, cmpL_trans _ _ _ h3 h4⟩
def lsI (p : Nat) : List Int := (bitsK p 64).map fun x : Nat => (x : Int)
theorem lsI_len (p : Nat) : (lsI p).length = (bitsK p 64).length := by simp [lsI]
theorem lsI_nC (p : Nat) : (bitsK p 64).flatMap nC = (lsI p).map (Value.int .i64) := by
  unfold lsI
  induction bitsK p 64 with
  | nil => rfl
  | cons x l ih => rw [List.flatMap_cons, ih]; rfl
def FsB (fits : List Nat) (wt : List Int) (cl b13 : Nat) (pre : List (PS cl)) (A : Option Addr) (n c : Nat) (W : World) : Prop :=
  (A = none ∧ n = 0 ∧ c = 0 ∧ ∀ x ∈ pre, shB fits wt x.1 = false) ∨
  (∃ (g : Nat) (P : PS cl), A = some ⟨g, 0, none⟩ ∧ n = (lsI P.1).length ∧ b13 < g ∧ RowC W g ((lsI P.1).map (Value.int .i64)) ∧ P ∈ pre ∧ shB fits wt P.1 = true ∧ ∀ x ∈ pre, shB fits wt x.1 = true → ¬ cmpLL (lsI x.1) (lsI P.1) < 0)
def ShI (w : World) (hL : List Value) (fits : List Nat) (wt : List Int) (cl : Nat) (pre : List (PS cl)) (W : World) : Prop :=
  RowC W w.heap.size hL ∧ Kept w W ∧ ∃ A n c, RowC W (w.heap.size + 1) [.slice A n c] ∧ FsB fits wt cl (w.heap.size + 1) pre A n c W
theorem FsB.grown {fits : List Nat} {wt : List Int} {cl b13 : Nat} {pre : List (PS cl)} {A : Option Addr} {n c : Nat} {W W' : World} {B : Nat} {row : Option Nat} (h : FsB fits wt cl b13 pre A n c W) (hg : W.grownBy W' row) (hr : ∀ r, row = some r → B ≤ r ∧ ∃ o : Obj, W.heap[r]? = some o ∧ o.isCells = false) : FsB fits wt cl b13 pre A n c W' := by
  rcases h with h | ⟨g, P, h1, h2, h3, h4, h5, h6, h7⟩
  · exact .inl h
  · exact .inr ⟨g, P, h1, h2, h3, own_rowc hg hr h4, h5, h6, h7⟩
theorem FsB.kept {fits : List Nat} {wt : List Int} {cl b13 : Nat} {pre : List (PS cl)} {A : Option Addr} {n c : Nat} {W W' : World} (h : FsB fits wt cl b13 pre A n c W) (hk : Kept W W') : FsB fits wt cl b13 pre A n c W' := by
  rcases h with h | ⟨g, P, h1, h2, h3, h4, h5, h6, h7⟩
  · exact .inl h
  · exact .inr ⟨g, P, h1, h2, h3, h4.kept hk, h5, h6, h7⟩
theorem FsB.skip {fits : List Nat} {wt : List Int} {cl b13 : Nat} {pre : List (PS cl)} {A : Option Addr} {n c : Nat} {W : World} (h : FsB fits wt cl b13 pre A n c W) {x : PS cl} (hx : shB fits wt x.1 = false) : FsB fits wt cl b13 (pre ++ [x]) A n c W := by
  rcases h with ⟨h1, h2, h3, h4⟩ | ⟨g, P, h1, h2, h3, h4, h5, h6, h7⟩
  · refine .inl ⟨h1, h2, h3, fun y hy => ?_⟩
    rcases List.mem_append.1 hy with hy | hy
    · exact h4 y hy
    · rw [List.mem_singleton.1 hy]; exact hx
  · refine .inr ⟨g, P, h1, h2, h3, h4, List.mem_append_left _ h5, h6, fun y hy hs => ?_⟩
    rcases List.mem_append.1 hy with hy | hy
    · exact h7 y hy hs
    · rw [List.mem_singleton.1 hy, hx] at hs; cases hs
theorem FsB.pass {fits : List Nat} {wt : List Int} {cl b13 : Nat} {pre : List (PS cl)} {g : Nat} {P : PS cl} {n c : Nat} {W : World} (h1 : n = (lsI P.1).length) (h3 : b13 < g) (h4 : RowC W g ((lsI P.1).map (Value.int .i64))) (h5 : P ∈ pre) (h6 : shB fits wt P.1 = true) (h7 : ∀ x ∈ pre, shB fits wt x.1 = true → ¬ cmpLL (lsI x.1) (lsI P.1) < 0) {x : PS cl} (hx : ¬ cmpLL (lsI x.1) (lsI P.1) < 0) : FsB fits wt cl b13 (pre ++ [x]) (some ⟨g, 0, none⟩) n c W := by
  refine .inr ⟨g, P, rfl, h1, h3, h4, List.mem_append_left _ h5, h6, fun y hy hs => ?_⟩
  rcases List.mem_append.1 hy with hy | hy
  · exact h7 y hy hs
  · rw [List.mem_singleton.1 hy]; exact hx
theorem FsB.take {fits : List Nat} {wt : List Int} {cl b13 : Nat} {pre : List (PS cl)} {g n c : Nat} {W : World} {x : PS cl} (h1 : n = (lsI x.1).length) (h3 : b13 < g) (h4 : RowC W g ((lsI x.1).map (Value.int .i64))) (h6 : shB fits wt x.1 = true)
    (h : (∀ y ∈ pre, shB fits wt y.1 = false) ∨ ∃ P : PS cl, (∀ y ∈ pre, shB fits wt y.1 = true → ¬ cmpLL (lsI y.1) (lsI P.1) < 0) ∧ cmpLL (lsI x.1) (lsI P.1) < 0) : FsB fits wt cl b13 (pre ++ [x]) (some ⟨g, 0, none⟩) n c W := by
  refine .inr ⟨g, x, rfl, h1, h3, h4, List.mem_append_right _ (List.mem_singleton.2 rfl), h6, fun y hy hs => ?_⟩
  rcases List.mem_append.1 hy with hy | hy
  · rcases h with h | ⟨P, h, hP⟩
    · rw [h y hy] at hs; cases hs
    · exact fun hl => h y hy hs (cmpLL_trans hl hP)
  · rw [List.mem_singleton.1 hy]; exact cmpLL_irr _
theorem ShI.own (w : World) (hL : List Value) (fits : List Nat) (wt : List Int) (cl B : Nat) (hB : w.heap.size ≤ B) : OwnFrom B (ShI w hL fits wt cl) := by
  rintro pre W W' row ⟨h1, h2, A, n, c, h3, h4⟩ hg hr
  exact ⟨own_rowc hg hr h1, h2.below.grown hg h2.size (fun k e => Nat.le_trans hB (hr k e).1), A, n, c, own_rowc hg hr h3, h4.grown hg hr⟩
theorem intR_row {W : World} {g n c : Nat} {l : List Int} (h : RowC W g (l.map (Value.int .i64))) (hn : n = l.length) (hs : n ≤ 1000) : IntR W (some ⟨g, 0, none⟩) n c l :=
  ⟨hn.symm, hs, fun _ => ⟨g, 0, rfl, fun j x hj => by rw [Nat.zero_add]; exact (h j (.int .i64 x) (by rw [List.getElem?_map, hj]; rfl)).1⟩⟩
theorem row_not_deferred {W : World} {b : Nat} {l : List Value} (h : RowC W b l) (hl : 0 < l.length) (hd : W.heap[b]? = some (.deferred (some []))) : False := by
  have h1 := (h 0 _ (List.getElem?_eq_getElem hl)).1
  unfold World.cell? at h1
  simp [hd] at h1
def StP (w : World) (ms : List Mk) (fs : List Fd) (day : Int) (found : List Sg) (cls : List Cl) (e : Ending) (w' : World) : Prop :=
  ((chE ms fs day found cls ≠ 0 ∧ e = .returned (.tuple #[.slice none 0 0, .bool false, .int .i64 (chE ms fs day found cls)])) ∨
   (chE ms fs day found cls = 0 ∧ (((∀ x : PS (clN cls), shB (fitsN ms fs day found cls) (wtL cls) x.1 = false) ∧ e = .returned (.tuple #[.slice none 0 0, .bool false, .int .i64 0])) ∨
     (∃ (g n c : Nat) (P : PS (clN cls)), e = .returned (.tuple #[.slice (some ⟨g, 0, none⟩) n c, .bool true, .int .i64 0]) ∧ n = (lsI P.1).length ∧ RowC w' g ((lsI P.1).map (Value.int .i64)) ∧ w.heap.size ≤ g ∧
       shB (fitsN ms fs day found cls) (wtL cls) P.1 = true ∧ ∀ x : PS (clN cls), shB (fitsN ms fs day found cls) (wtL cls) x.1 = true → ¬ cmpLL (lsI x.1) (lsI P.1) < 0)))) ∧ Kept w w'
set_option maxRecDepth 100000 in
set_option maxHeartbeats 6400000 in
theorem shortage_any (A B C D : Option Addr) (n c m d p q u v : Nat) (ms : List Mk) (fs : List Fd) (day : Int) (found : List Sg) (cls : List Cl) (w : World) (hs : SmA w A n c ms B m d fs) (hfo : SlA sgV 6 Sg.ok w C p q found) (hcl : SlA clC 2 Cl.ok w D u v cls) (hE : EnvT w) :
    Calls Tryz.prog 53 #[.agg #[.slice A n c, .slice B m d], .int .i64 day, .slice C p q, .slice D u v] w (StP w ms fs day found cls) := by
  have hi : (Tryz.prog.info? 153).map (·.size) = some 43 := by kernel_rfl
  obtain ⟨W0, hW0⟩ : ∃ W0, W0 = w.alloc (.cells #[.slice A n c, .slice B m d] 25) := ⟨_, rfl⟩
  have K0 : RowKit.Hid (Kept w W0) := Lib.hid (by rw [hW0]; exact (Kept.refl _).alloc _)
  have R0 : RowKit.Hid (RowC W0 w.heap.size [.slice A n c, .slice B m d]) := Lib.hid (by rw [hW0]; exact RowC.new w [.slice A n c, .slice B m d] 25)
  have HW := Lib.hid hW0
  have HS := Lib.hid (hs.kept K0.out)
  have HFO := Lib.hid (hfo.kept K0.out)
  have HCL := Lib.hid (hcl.kept K0.out)
  have HE := Lib.hid (hE.kept K0.out)
  have H30 : RowKit.Hid (Calls Tryz.prog 113 #[.agg #[.slice A n c, .slice B m d], .int .i64 day, .slice C p q, .slice D u v] W0 fun e w' => e = .returned (.int .i64 (chE ms fs day found cls)) ∧ Kept W0 w') := Lib.hid (checkHearing_any A B C D n c m d p q u v ms fs day found cls W0 HS.out HFO.out HCL.out)
  obtain ⟨E, hEe⟩ : ∃ E, chE ms fs day found cls = E := ⟨_, rfl⟩
  rw [hEe] at H30
  have HEE := Lib.hid hEe
  have a0 := (R0.out 0 _ rfl).1
  have a1 := (R0.out 1 _ rfl).1
  have la := cell_lt a0
  clear hW0 hs hfo hcl hE hEe
  refine (callsIn_wide (n := 8)).1 ?_
  refine callsIn_of_wp_marks Tryz.func53 rfl trivial ?_ rfl
  simp only [Tryz.ntmps53, List.size_toArray, List.length_cons, List.length_nil, Nat.reduceAdd, Nat.reduceSub, Array.replicate_succ, Array.replicate_zero, List.push_toArray, List.append_toArray, List.nil_append, List.cons_append]
  refine wpIn_wide.2 ?_
  go_upto_region 1 with (fail)
  rw [← HW.out]
  go_wp2_with fail
  refine H30.out.mono ?_
  rintro e w1 ⟨rfl, hk1⟩
  have K1 := Lib.hid hk1
  have R1 := Lib.hid (R0.out.kept hk1)
  have b0 := (R1.out 0 _ rfl).1
  have b1 := (R1.out 1 _ rfl).1
  have lb := cell_lt b0
  clear hk1 a0 a1 la
  by_cases h0 : E = 0
  rotate_left
  · have h1 : (E == 0) = false := by simpa using h0
    have H0 := Lib.hid h0
    clear h0
    go_wp2_with fail
    exact ⟨_, results_tmp3 rfl _ _ _, .inl ⟨by rw [HEE.out]; exact H0.out, by rw [HEE.out]; rfl⟩, K0.out.trans K1.out⟩
  subst h0
  have hch := HEE.out
  obtain ⟨e1, e2, e3, e4⟩ := fstE_four hch
  obtain ⟨c1, c2, c3⟩ := cl_ok e4
  have H31 := Lib.hid (hear_any A B C D n c m d p q u v ms fs day found cls w1 (HS.out.kept K1.out) (HFO.out.kept K1.out) (HCL.out.kept K1.out) hch)
  have C2 := Lib.hid c2
  have C3 := Lib.hid c3
  clear hch e1 e2 e3 e4 c1 c2 c3
  go_wp2_with fail
  refine H31.out.mono ?_
  rintro e w2 ⟨F, cF, fb, fo, rfl, hfit, _, hk2⟩
  have K2 := Lib.hid (K0.out.trans (K1.out.trans hk2))
  have E2 := Lib.hid (HE.out.kept (K1.out.trans hk2))
  obtain ⟨wt, hwt⟩ : ∃ x, wtL cls = x := ⟨_, rfl⟩
  obtain ⟨cl, hclx⟩ : ∃ x, clN cls = x := ⟨_, rfl⟩
  have hw := wtL_len cls
  have hwb := wtL_bd C3.out (fun x hx => (claim_bd (C2.out x hx)).1) (fun x hx => (claim_bd (C2.out x hx)).2)
  have h41 := clN_41 C2.out
  have hfit' : FitR w2 F p cF fb fo (fitsN ms fs day found cls) := hfit
  obtain ⟨fits, hfits⟩ : ∃ x, fitsN ms fs day found cls = x := ⟨_, rfl⟩
  rw [hfits] at hfit'
  rw [hwt] at hw hwb ⊢
  rw [hclx] at h41 ⊢
  have HFS := Lib.hid hfits
  have HWT := Lib.hid hwt
  have HCX := Lib.hid hclx
  have h60 := hfit'.sz
  have HFT := Lib.hid hfit'
  clear hfit hk2 hfit' hfits hwt hclx
  go_upto_region 5 with (refine wpList_store_row rfl 153 (.tmp 12) (.tmp 28) rfl w2.heap.size (hrL F p cF cl wt).toArray rfl rfl 153 zero43.toArray (heap_alloc_new w2 _) (by rw [hi]; simp [hrL, hw]) (by simp [hrL, hw, zero43]) (by simp [hrL, Value.oneCell']) ?_)
  obtain ⟨Wv, hWv⟩ : ∃ Wv, Wv = (w2.alloc (.cells zero43.toArray 153)).setRow w2.heap.size (hrL F p cF cl wt).toArray := ⟨_, rfl⟩
  have hbb : Wv.heap[w2.heap.size]? = some (.cells (hrL F p cF cl wt).toArray 153 (0, 0)) := by rw [hWv]; exact setRow_heap _ _ _ _ _ _ (heap_alloc_new w2 _)
  have rb : RowC Wv w2.heap.size (hrL F p cF cl wt) := fun j v hv => ⟨by rw [cell_of_row _ _ _ _ _ _ hbb]; simpa using hv, frozen_of_row _ _ _ _ _ hbb⟩
  have hkv : Kept w2 Wv := by rw [hWv]; exact ((Kept.refl w2).alloc _).setRow (Nat.le_refl _) _
  have hzv : Wv.heap.size = w2.heap.size + 1 := by rw [hWv, size_setRow]; simp
  have HZZ : RowKit.Hid (Wv = (w2.alloc (.cells #[.slice none 0 0, .int .u64 0, .int .i64 0, .int .i64 0, .int .i64 0, .int .i64 0, .int .i64 0, .int .i64 0, .int .i64 0, .int .i64 0, .int .i64 0, .int .i64 0, .int .i64 0, .int .i64 0, .int .i64 0, .int .i64 0, .int .i64 0, .int .i64 0, .int .i64 0, .int .i64 0, .int .i64 0, .int .i64 0, .int .i64 0, .int .i64 0, .int .i64 0, .int .i64 0, .int .i64 0, .int .i64 0, .int .i64 0, .int .i64 0, .int .i64 0, .int .i64 0, .int .i64 0, .int .i64 0, .int .i64 0, .int .i64 0, .int .i64 0, .int .i64 0, .int .i64 0, .int .i64 0, .int .i64 0, .int .i64 0, .int .i64 0] 153)).setRow w2.heap.size (hrL F p cF cl wt).toArray) := Lib.hid (by rw [hWv]; rfl)
  rw [← HZZ.out]
  obtain ⟨W4, hW4⟩ : ∃ W4, W4 = Wv.alloc (.cells #[.slice none 0 0] 43) := ⟨_, rfl⟩
  have k4 : Kept Wv W4 := by rw [hW4]; exact (Kept.refl _).alloc _
  have z4 : W4.heap.size = w2.heap.size + 1 + 1 := by rw [hW4]; simp [hzv]
  have r4 : RowC W4 (w2.heap.size + 1) [.slice none 0 0] := by rw [hW4, ← hzv]; exact RowC.new Wv _ 43
  have rb4 : RowC W4 w2.heap.size (hrL F p cF cl wt) := rb.kept k4
  have q1 := (rb4 1 _ rfl).1
  have l1 := cell_lt q1
  have HR4 := Lib.hid r4
  have HRB4 := Lib.hid rb4
  have K4 := Lib.hid (hkv.trans k4)
  have Z4 := Lib.hid z4
  have HW4 := Lib.hid hW4
  clear hWv hbb hkv b0 b1 lb rb r4 rb4 k4 hW4
  go_upto_region 6 with (fail)
  rw [← HW4.out]
  go_wp2_with fail
  refine (parts_any cl W4).mono ?_
  rintro e w6 ⟨rfl, rfl⟩
  rw [z4]
  obtain ⟨W6, hW6⟩ : ∃ W6, W6 = W4.alloc (.cells #[.int .u64 cl] 117) := ⟨_, rfl⟩
  rw [← hW6]
  have k6 : Kept W4 W6 := by rw [hW6]; exact (Kept.refl _).alloc _
  have z6 : W6.heap.size = w2.heap.size + 1 + 1 + 1 := by rw [hW6]; simp [z4]
  have c6 : W6.cell? ⟨w2.heap.size + 1 + 1, 0, none⟩ = some (.int .u64 cl) := by
    rw [hW6, ← z4]; exact (RowC.new W4 [.int .u64 cl] 117 0 _ rfl).1
  have hI0 : ShI w2 (hrL F p cF cl wt) fits wt cl [] W6 := ⟨HRB4.out.kept k6, K4.out.trans k6, none, 0, 0, HR4.out.kept k6, .inl ⟨rfl, rfl, rfl, fun x hx => by cases hx⟩⟩
  have hseq := parts_stops 7 (by omega) (w2.heap.size + 1 + 1) cl (by omega) w2.heap.size W6 c6
  have Z6 := Lib.hid z6
  have HSZ : RowKit.Hid ((Tryz.prog.info? 153).map (·.size) = some (hrL F p cF cl wt).length) := Lib.hid (by rw [hi]; simp [hrL, hw])
  clear hW6 k6 c6 q1 l1 z4 hzv
  go_wp2_with fail
  refine (wpIn_wide (n := 8)).1 ?_
  refine wpIn_rangeFunc_ownH rfl (by omega) (gf := 177) (lb := #[.pointer (some ⟨w2.heap.size + 1 + 1, 0, none⟩)]) rfl trivial (enters_of Tryz.func177 (by kernel_rfl) rfl)
    hseq KpP.trans (fun W l o o' hl h1 h2 h3 => ⟨KpB.put (by have := Z6.out; omega) W l o o' hl h1 h2 h3, fun hb => World.putObj_heap_other (by have := Z6.out; omega)⟩) (Below.refl _ _) (fun _ => rfl)
    (ShI w2 (hrL F p cF cl wt) fits wt cl) (fun _ _ _ => False) (ShI.own _ _ _ _ _ _ (by have := Z6.out; omega)) (fun c => fun _ _ _ _ h _ _ => h) hI0
    (fun x a' _ => a' = { tmps := #[.agg #[.slice A n c, .slice B m d], .int .i64 day, .slice C p q, .slice D u v, .pointer (some ⟨w.heap.size, 0, none⟩), undef, undef, undef, .slice none 0 0, .bool false, .int .i64 0, .int .i64 0, .pointer (some ⟨w2.heap.size, 0, none⟩), .pointer (some ⟨w2.heap.size + 1, 0, none⟩), .int .u64 (x.1 : Int), undef, .agg #[.slice A n c, .slice B m d], .int .i64 day, .slice C p q, .slice D u v, .int .i64 0, .int .i64 0, .bool false, undef, .agg #[.slice A n c, .slice B m d], .int .i64 day, .slice C p q, .slice D u v, .agg (hrL F p cF cl wt).toArray, .pointer (some ⟨w2.heap.size, 1, none⟩), .int .u64 (cl : Int), .func (.func 177) #[] #[.pointer (some ⟨w2.heap.size + 1 + 1, 0, none⟩)], .int .u64 (x.1 : Int), undef, undef, undef, undef, undef, undef, undef, undef, undef, undef, undef, undef, undef, undef, undef, undef, undef, undef], defers := [] }) (fun x a' => fun s W W' row h hg hr => h) ?assign ?body ?done ?stop
  case assign =>
    intro l pre x V K hi hK
    gi_wp2
    exact hK _ _ (KeepsFrom.refl _ _) ⟨Below.refl _ _, fun _ => rfl⟩ hi rfl
  case body =>
    rintro l pre x a' V hl2 - ⟨r1, k1, A5, n5, c5, r5, hfs⟩ rfl hlt2
    obtain ⟨px, hpx0, hpxs⟩ := x
    have hq0 : ∀ w : World, (binOp BinOp.eql 43 (.slice none 0 0) (.slice none 0 0)).run Tryz.prog w = .ok (.bool true) w := fun _ => rfl
    have hq1 : ∀ (g n c : Nat) (w : World), (binOp BinOp.eql 43 (.slice (some ⟨g, 0, none⟩) n c) (.slice none 0 0)).run Tryz.prog w = .ok (.bool false) w := fun _ _ _ _ => rfl
    have hpl : px < 2 ^ 41 := by
      have : px &&& cl ≤ cl := Nat.and_le_right
      omega
    have HPX0 := Lib.hid hpx0
    have HPXS := Lib.hid hpxs
    have hz6 := Z6.out
    have HR1 := Lib.hid r1
    have HK1 := Lib.hid k1
    have HR5 := Lib.hid r5
    have HFS5 := Lib.hid hfs
    have HRG : RowKit.Hid (V.rangeAt w2.heap.size 0 (hrL F p cF cl wt)) := Lib.hid (fun j v hv => by rw [Nat.zero_add]; exact (HR1.out j v hv).1)
    have HSH := Lib.hid (short_any F p cF fb fo cl wt fits V (HFT.out.kept k1) hw hwb px hpl (E2.out.kept k1))
    have hvz := k1.size
    have hl13 := cell_lt (r5 0 _ rfl).1
    obtain ⟨b, hb⟩ : ∃ b, shB fits wt px = b := ⟨_, rfl⟩
    rw [hb] at HSH
    have HB := Lib.hid hb
    dsimp only
    clear r1 k1 r5 hfs hI0 hseq hlt2 hb
    gi_wp2_with (first | (refine wpListIn_load_mid rfl 153 (.tmp 12) rfl w2.heap.size 0 rfl (hrL F p cF cl wt) _ HRG.out Tryz.underlying153 rfl HSZ.out ?_) | fail)
    refine ⟨trivial, (CallsIn.inRound l (callsIn_wide.2 HSH.out)).mono ?_⟩
    rintro e w7 ⟨rfl, hk7⟩
    have HK7 := Lib.hid hk7
    cases b with
    | false =>
      clear hk7
      gi_wp2_with fail
      have k7 := HK7.out
      exact ⟨⟨k7.size, fun kk o _ hk ho => (k7.block kk (Array.getElem?_eq_some_iff.1 hk).1).trans hk⟩, ⟨k7.below.mono (by omega), fun hb => k7.block _ hb⟩, HR1.out.kept k7, HK1.out.trans k7, A5, n5, c5, HR5.out.kept k7, (HFS5.out.kept k7).skip HB.out⟩
    | true =>
      have HL := Lib.hid (list_any px (by omega) w7 (E2.out.kept (HK1.out.trans hk7)))
      have hz7 := hk7.size
      clear hk7
      gi_wp2_with fail
      refine ⟨trivial, (CallsIn.inRound l (callsIn_wide.2 HL.out)).mono ?_⟩
      rintro e w8 ⟨v, rfl, hown, hk8⟩
      have hne : bitsK px 64 ≠ [] := fun h => HPX0.out ((bitsK_nil (by omega)).1 h)
      obtain ⟨kk, hkk⟩ : ∃ k, (bitsK px 64).length = k + 1 := ⟨(bitsK px 64).length - 1, by have := List.length_pos_iff.2 hne; omega⟩
      rw [hkk] at hown
      obtain ⟨g, cap, rfl⟩ := ownsRow_succ hown
      have hgr : RowC w8 g ((lsI px).map (Value.int .i64)) := by rw [← lsI_nC]; exact own_rowC hown
      have hgg : w7.heap.size ≤ g := own_ge hown rfl
      have hlen : kk + 1 = (lsI px).length := by rw [lsI_len, hkk]
      have hk64 : kk + 1 ≤ 64 := by rw [← hkk]; exact bitsK_len px 64
      have HGR := Lib.hid hgr
      have HLN := Lib.hid hlen
      have K8 := Lib.hid (HK7.out.trans hk8)
      have HFS8 := Lib.hid ((HFS5.out.kept HK7.out).kept hk8)
      have hr8 := (HR5.out.kept HK7.out).kept hk8
      have HR8 := Lib.hid hr8
      obtain ⟨t1, t2⟩ := hr8 0 _ rfl
      have l8 := cell_lt t1
      have hFIN : ∀ W9, Kept w8 W9 → (∀ A n c, RowC (W9.setCell ⟨w2.heap.size + 1, 0, none⟩ (.slice A n c)) (w2.heap.size + 1) [.slice A n c]) ∧
          KeepsFrom W6.heap.size V (W9.setCell ⟨w2.heap.size + 1, 0, none⟩ (.slice (some ⟨g, 0, none⟩) (kk + 1) cap)) ∧ KpP w2.heap.size (w2.heap.size + 1 + 1) V (W9.setCell ⟨w2.heap.size + 1, 0, none⟩ (.slice (some ⟨g, 0, none⟩) (kk + 1) cap)) ∧
          RowC (W9.setCell ⟨w2.heap.size + 1, 0, none⟩ (.slice (some ⟨g, 0, none⟩) (kk + 1) cap)) w2.heap.size (hrL F p cF cl wt) ∧ Kept w2 (W9.setCell ⟨w2.heap.size + 1, 0, none⟩ (.slice (some ⟨g, 0, none⟩) (kk + 1) cap)) ∧
          RowC (W9.setCell ⟨w2.heap.size + 1, 0, none⟩ (.slice (some ⟨g, 0, none⟩) (kk + 1) cap)) g ((lsI px).map (Value.int .i64)) := fun W9 h9 => by
        have k9 := K8.out.trans h9
        refine ⟨fun A n c => (HR8.out.kept h9).put (j := 0) (by simp) _, (KeepsFrom.trans ⟨k9.size, fun kk o _ hk ho => (k9.block kk (Array.getElem?_eq_some_iff.1 hk).1).trans hk⟩ ((KeepsOthers.setCell _ _ _).from _)), ⟨(k9.below.mono (by omega)).setCell (p := ⟨w2.heap.size + 1, 0, none⟩) (by dsimp only; omega) _, fun hb => (heap_set (by dsimp only; omega)).trans (k9.block _ hb)⟩, (HR1.out.kept k9).far (by omega) _, (HK1.out.trans k9).setCell (p := ⟨w2.heap.size + 1, 0, none⟩) (by dsimp only; omega) _, (HGR.out.kept h9).far (by omega) _⟩
      have HFIN := Lib.hid hFIN
      clear hown hk8 hgr hne hkk hr8 hFIN hlen
      rcases HFS8.out with ⟨rfl, rfl, rfl, hno⟩ | ⟨g5, P, rfl, hn5, hg5, hrow5, hP5, hsP5, hmin⟩
      · have HNO := Lib.hid hno
        clear hno
        gi_wp2_with fail
        refine ⟨trivial, ?_⟩
        go_at_K
        gi_wp2_with fail
        obtain ⟨f0, f1, f2, f3, f4, f5⟩ := HFIN.out w8 (Kept.refl _)
        exact ⟨f1, f2, f3, f4, _, _, _, f0 _ _ _, FsB.take HLN.out (by omega) f5 HB.out (.inl HNO.out)⟩
      · have h51 : n5 ≤ 64 := by rw [hn5, lsI_len]; exact bitsK_len _ 64
        have HCMP := Lib.hid (compareLists_any (some ⟨g, 0, none⟩) (some ⟨g5, 0, none⟩) (kk + 1) cap n5 c5 (lsI px) (lsI P.1) w8 (intR_row HGR.out HLN.out (by omega)) (intR_row hrow5 hn5 (by omega)))
        have HN5 := Lib.hid hn5
        have HROW5 := Lib.hid hrow5
        have HP5 := Lib.hid hP5
        have HSP5 := Lib.hid hsP5
        have HMIN := Lib.hid hmin
        obtain ⟨z, hz⟩ : ∃ z, cmpLL (lsI px) (lsI P.1) = z := ⟨_, rfl⟩
        rw [hz] at HCMP
        have HZ := Lib.hid hz
        clear hn5 hrow5 hP5 hsP5 hmin hz
        gi_wp2_with fail
        refine ⟨trivial, (CallsIn.inRound l (callsIn_wide.2 HCMP.out)).mono ?_⟩
        rintro e w9 ⟨rfl, hk9⟩
        have HK9 := Lib.hid hk9
        obtain ⟨t3, t4⟩ := (HR8.out.kept hk9) 0 _ rfl
        have l9 := cell_lt t3
        clear hk9 t1 t2 l8
        by_cases hz0 : z < 0
        · gi_wp2_with fail
          obtain ⟨f0, f1, f2, f3, f4, f5⟩ := HFIN.out w9 HK9.out
          exact ⟨f1, f2, f3, f4, _, _, _, f0 _ _ _, FsB.take HLN.out (by omega) f5 HB.out (.inr ⟨P, fun y hy hs => by (have := HMIN.out y hy hs; omega), by rw [HZ.out]; exact hz0⟩)⟩
        · gi_wp2_with fail
          have k9 := K8.out.trans HK9.out
          exact ⟨⟨k9.size, fun kk o _ hk ho => (k9.block kk (Array.getElem?_eq_some_iff.1 hk).1).trans hk⟩, ⟨k9.below.mono (by omega), fun hb => k9.block _ hb⟩, HR1.out.kept k9, HK1.out.trans k9, _, n5, c5, HR8.out.kept HK9.out, FsB.pass HN5.out hg5 (HROW5.out.kept HK9.out) HP5.out HSP5.out (fun y hy hs => by (have := HMIN.out y hy hs; omega)) (by rw [HZ.out]; omega)⟩
  case done =>
    rintro D2 ys V hD hys ⟨r1, k1, A5, n5, c5, r5, hfs⟩ hK
    have HYS := Lib.hid hys
    have HKD := Lib.hid hK
    have HK1 := Lib.hid k1
    have HFS5 := Lib.hid hfs
    have t1 := (r5 0 _ rfl).1
    have l5 := cell_lt t1
    have hz6 := Z6.out
    clear hys r1 k1 r5 hfs hK hI0 hseq
    rcases HFS5.out with ⟨rfl, rfl, rfl, hno⟩ | ⟨g5, P, rfl, hn5, hg5, hrow5, hP5, hsP5, hmin⟩
    · have HNO := Lib.hid hno
      clear hno
      go_upto_region 12 with (fail)
      go_region
      all_goals go_wp2_with fail
      all_goals
        refine ⟨by simp, .inl ⟨_, _, rfl, run_takeDeferred (show V.drew.heap[D2]? = _ from HKD.out), ?_⟩⟩
        have e1 := HFS.out
        have e2 := HWT.out
        have e3 := HCX.out
        subst e1
        subst e2
        subst e3
        refine ⟨_, results_tmp3 rfl _ _ _, .inr ⟨HEE.out, .inl ⟨fun x => HNO.out x (HYS.out x), rfl⟩⟩, ((K2.out.trans HK1.out).drew).putDeferred (by have := K2.out.size; omega) HKD.out rfl rfl⟩
    · have HN5 := Lib.hid hn5
      have HROW5 := Lib.hid hrow5
      have HSP5 := Lib.hid hsP5
      have HMIN := Lib.hid hmin
      clear hn5 hrow5 hP5 hsP5 hmin
      go_upto_region 12 with (fail)
      go_region
      all_goals go_wp2_with fail
      all_goals
        refine ⟨by simp, .inl ⟨_, _, rfl, run_takeDeferred (show V.drew.heap[D2]? = _ from HKD.out), ?_⟩⟩
        have hpb : ∀ b, b ≠ D2 → (V.drew.putObj D2 (.deferred none)).heap[b]? = V.drew.heap[b]? := fun b hb => World.putObj_heap_other (by omega)
        have hgD : g5 ≠ D2 := by
          rintro rfl
          exact row_not_deferred HROW5.out (by rw [List.length_map, lsI_len]; exact List.length_pos_iff.2 (fun h => P.2.1 ((bitsK_nil (by have h1 := P.2.2; have h2 : P.1 &&& cl ≤ cl := Nat.and_le_right; omega)).1 h))) HKD.out
        have e1 := HFS.out
        have e2 := HWT.out
        have e3 := HCX.out
        subst e1
        subst e2
        subst e3
        refine ⟨_, results_tmp3 rfl _ _ _, .inr ⟨HEE.out, .inr ⟨g5, _, _, P, rfl, HN5.out, rowc_heap (hpb g5 hgD) (HROW5.out.kept (Kept.refl V).drew), by have := K2.out.size; omega, HSP5.out, fun x hx => by have := HMIN.out x (HYS.out x) hx; omega⟩⟩, ((K2.out.trans HK1.out).drew).putDeferred (by have := K2.out.size; omega) HKD.out rfl rfl⟩
  case stop =>
    rintro D2 c pre V hD hp9 hX hK
    exact absurd hX (by simp)
end Go.Proofs.YtologmoanaccpaaGreatDoor
