/-
  the sample's smits
  the sample: closed facts
  the sample: what the contracts' results are
-/
import Derived.Test.YtologmoanaccpaaGreatDoorMk
import Derived.Test.YtologmoanaccpaaGreatDoorMi
import Derived.Test.YtologmoanaccpaaGreatDoorQe
import Derived.Test.YtologmoanaccpaaGreatDoorRf
import Derived.Test.YtologmoanaccpaaGreatDoorSI
namespace Go.Proofs.YtologmoanaccpaaGreatDoor
set_option linter.all false
open Go.RowKit Go.Shelf

theorem slA_row {α : Type} {enc : α → List Value} {k : Nat} {ok : α → Prop} (hk : ∀ x, (enc x).length = k) {W : World} {b : Nat} {l : List α} (h : RowC W b (l.flatMap enc)) (ho : ∀ x ∈ l, ok x) (hl : l.length ≤ 1000) : SlA enc k ok W (some ⟨b, 0, none⟩) l.length l.length l :=
  ⟨rfl, Nat.le_refl _, by omega, ho, fun _ => ⟨b, 0, rfl, fun i x hx j v hv => by
    rw [Nat.zero_add]
    exact (h (i * k + j) v (flat_at hk l i x j v hx hv)).1⟩⟩
def msS : List Mk := [⟨1, 0, 100, ⟨1, 0, 1, 0, 0, 0⟩⟩, ⟨2, 0, 100, ⟨1, 0, 2, 0, 0, 0⟩⟩, ⟨3, 10, 100, ⟨0, 2, 1, 1, 0, 0⟩⟩]
def fsS : List Fd := [⟨1, 0⟩, ⟨2, 0⟩]
set_option maxRecDepth 100000 in
set_option maxHeartbeats 3200000 in
theorem smits_any (w : World) : Calls Tryz.prog 72 #[] w fun e w' => ∃ b1 b2, e = .returned (.agg #[.slice (some ⟨b1, 0, none⟩) 3 3, .slice (some ⟨b2, 0, none⟩) 2 2]) ∧ SmA w' (some ⟨b1, 0, none⟩) 3 3 msS (some ⟨b2, 0, none⟩) 2 2 fsS ∧ Kept w w' := by
  go_enter Tryz.func72, Tryz.ntmps72
  go_wp2
  obtain ⟨W1, hW1⟩ : ∃ W1, W1 = w.alloc (.cells #[.slice (some ⟨w.heap.size + 1, 0, none⟩) 3 3, .slice (some ⟨w.heap.size + 1 + 1, 0, none⟩) 2 2] 25) := ⟨_, rfl⟩
  have z1 : W1.heap.size = w.heap.size + 1 := by rw [hW1]; simp
  have k1 : Kept w W1 := by rw [hW1]; exact (Kept.refl w).alloc _
  have r1 : RowC W1 w.heap.size [.slice (some ⟨w.heap.size + 1, 0, none⟩) 3 3, .slice (some ⟨w.heap.size + 1 + 1, 0, none⟩) 2 2] := by rw [hW1]; exact RowC.new w _ 25
  rw [← hW1]
  obtain ⟨W2, hW2⟩ : ∃ W2, W2 = W1.alloc (.cells (msS.flatMap mkC).toArray 32) := ⟨_, rfl⟩
  have z2 : W2.heap.size = w.heap.size + 1 + 1 := by rw [hW2]; simp [z1]
  have k2 : Kept W1 W2 := by rw [hW2]; exact (Kept.refl W1).alloc _
  have r2 : RowC W2 (w.heap.size + 1) (msS.flatMap mkC) := by rw [hW2, ← z1]; exact RowC.new W1 _ 32
  obtain ⟨W3, hW3⟩ : ∃ W3, W3 = W2.alloc (.cells (fsS.flatMap fdC).toArray 87) := ⟨_, rfl⟩
  have k3 : Kept W2 W3 := by rw [hW3]; exact (Kept.refl W2).alloc _
  have r3 : RowC W3 (w.heap.size + 1 + 1) (fsS.flatMap fdC) := by rw [hW3, ← z2]; exact RowC.new W2 _ 87
  have e3 : W3 = (W1.alloc (.cells #[.int .i64 1, .int .i64 0, .int .i64 100, .int .u8 1, .int .u8 0, .int .u8 1, .int .u8 0, .int .u8 0, .int .u8 0, .int .i64 2, .int .i64 0, .int .i64 100, .int .u8 1, .int .u8 0, .int .u8 2, .int .u8 0, .int .u8 0, .int .u8 0, .int .i64 3, .int .i64 10, .int .i64 100, .int .u8 0, .int .u8 2, .int .u8 1, .int .u8 1, .int .u8 0, .int .u8 0] 32)).alloc (.cells #[.int .u8 1, .int .u8 0, .int .u8 2, .int .u8 0] 87) := by rw [hW3, hW2]; rfl
  rw [← e3]
  have hr := (r1.kept k2).kept k3
  have c0 := (hr 0 _ rfl).1
  have c1 := (hr 1 _ rfl).1
  refine bodyPost_ret (v := .agg #[.slice (some ⟨w.heap.size + 1, 0, none⟩) 3 3, .slice (some ⟨w.heap.size + 1 + 1, 0, none⟩) 2 2]) (by simp [results, Tryz.results72, go_sem, c0, c1]) rfl ⟨_, _, rfl, ⟨slA_row (enc := mkC) (k := 9) (l := msS) (fun _ => rfl) (r2.kept k3) ?_ (by decide), slA_row (enc := fdC) (k := 2) (l := fsS) (fun _ => rfl) r3 ?_ (by decide)⟩, (k1.trans k2).trans k3⟩
  · intro x hx
    simp only [msS, List.mem_cons, List.not_mem_nil, or_false] at hx
    rcases hx with rfl | rfl | rfl <;> refine ⟨?_, ?_, ?_, ?_⟩ <;> simp [Sg.ok, u8, i64]
  · intro x hx
    simp only [fsS, List.mem_cons, List.not_mem_nil, or_false] at hx
    rcases hx with rfl | rfl <;> simp [Fd.ok, u8]
end Go.Proofs.YtologmoanaccpaaGreatDoor

namespace Go.Proofs.YtologmoanaccpaaGreatDoor
set_option linter.all false
open Go.RowKit Go.Shelf

def sgS : Sg := ⟨1, 0, 0, 0, 0, 0⟩
def sgT : Sg := ⟨1, 0, 1, 0, 0, 0⟩
def foS : List Sg := [sgS, sgS, sgT]
def cl1 : List Cl := [⟨1, 1⟩, ⟨2, 2⟩]
def cl2 : List Cl := [⟨1, 2⟩, ⟨2, 2⟩]
def cl3 : List Cl := [⟨1, 2⟩, ⟨2, 1⟩]
def lineS : ByteArray := ⟨#[99, 114, 111, 112, 112, 101, 100, 32, 112, 108, 97, 105, 110, 32, 98, 97, 114, 101, 32, 98, 97, 114, 101, 32, 98, 97, 114, 101, 32, 98, 97, 114, 101]⟩
def lineT : ByteArray := ⟨#[99, 114, 111, 112, 112, 101, 100, 32, 112, 108, 97, 105, 110, 32, 114, 101, 100, 32, 98, 97, 114, 101, 32, 98, 97, 114, 101, 32, 98, 97, 114, 101]⟩
def wbare : ByteArray := ⟨#[98, 97, 114, 101]⟩
def wdsS : List ByteArray := [⟨#[99, 114, 111, 112, 112, 101, 100]⟩, ⟨#[112, 108, 97, 105, 110]⟩, wbare, wbare, wbare, wbare]
def wdsT : List ByteArray := [⟨#[99, 114, 111, 112, 112, 101, 100]⟩, ⟨#[112, 108, 97, 105, 110]⟩, ⟨#[114, 101, 100]⟩, wbare, wbare, wbare]
theorem ch1 : chE msS fsS 0 foS cl1 = 0 := by kernel_rfl
theorem ch2 : chE msS fsS 0 foS cl2 = 0 := by kernel_rfl
theorem ch3 : chE msS fsS 0 foS cl3 = 0 := by kernel_rfl
theorem in0 : inE msS fsS 0 = 0 := by kernel_rfl
theorem in10 : inE msS fsS 10 = 0 := by kernel_rfl
theorem fi1 : fitsN msS fsS 0 foS cl1 = [6, 6, 2] := by kernel_rfl
theorem fi2 : fitsN msS fsS 0 foS cl2 = [6, 6, 2] := by kernel_rfl
theorem fi3 : fitsN msS fsS 0 foS cl3 = [6, 6, 2] := by kernel_rfl
theorem cn1 : clN cl1 = 6 := by kernel_rfl
theorem cn2 : clN cl2 = 6 := by kernel_rfl
theorem cn3 : clN cl3 = 6 := by kernel_rfl
theorem rg0 : rgE msS fsS 0 foS 1 = 0 := by kernel_rfl
theorem su0 : cntN (sureB msS fsS 0 1) foS = 1 := by kernel_rfl
theorem pe0 : cntN (perB msS fsS 0 1) foS = 2 := by kernel_rfl
theorem ow0 : ownD msS fsS 0 sgS = 6 := by kernel_rfl
theorem rdS : rdA wdsS = .agg (sgV sgS).toArray := by kernel_rfl
theorem rdT : rdA wdsT = .agg (sgV sgT).toArray := by kernel_rfl
theorem frc0 : frcL msS 0 = [⟨1, 0, 100, ⟨1, 0, 1, 0, 0, 0⟩⟩, ⟨2, 0, 100, ⟨1, 0, 2, 0, 0, 0⟩⟩] := by kernel_rfl
theorem frc10 : frcL msS 10 = msS := by kernel_rfl
theorem cntS : Lib.countB lineS spB = 5 := by kernel_rfl
theorem cntT : Lib.countB lineT spB = 5 := by kernel_rfl
theorem splS : Lib.splitB spB 0 5 lineS = wdsS := by kernel_rfl
theorem splT : Lib.splitB spB 0 5 lineT = wdsT := by kernel_rfl
end Go.Proofs.YtologmoanaccpaaGreatDoor

namespace Go.Proofs.YtologmoanaccpaaGreatDoor
set_option linter.all false
open Go.RowKit Go.Shelf

theorem perm_sorted : ∀ (L l : List Mk), l.Perm L → l.Pairwise (fun a b => a.own ≤ b.own) → L.Pairwise (fun a b => a.own < b.own) → l = L
  | [], l, h, _, _ => h.eq_nil
  | x :: L, [], h, _, _ => by have := h.length_eq; simp at this
  | x :: L, y :: l, h, h1, h2 => by
    have hx : x ∈ y :: l := h.mem_iff.2 (List.mem_cons_self ..)
    have hy : y ∈ x :: L := h.mem_iff.1 (List.mem_cons_self ..)
    have h1' := List.pairwise_cons.1 h1
    have h2' := List.pairwise_cons.1 h2
    have e : y = x := by
      rcases List.mem_cons.1 hy with hy | hy
      · exact hy
      · rcases List.mem_cons.1 hx with hx | hx
        · exact hx.symm
        · have a := h1'.1 x hx
          have b := h2'.1 y hy
          omega
    subst e
    rw [perm_sorted L l ((List.perm_cons y).1 h) h1'.2 h2'.2]
def cand : List Nat → List (List Int)
  | [] => [[]]
  | f :: fs => ((0 : Int) :: ((List.range 41).filter fun q => decide (1 ≤ q) && f.testBit q).map fun q : Nat => (q : Int)).flatMap fun x => (cand fs).map (x :: ·)
def metB (cl : Nat) (wt : List Int) (ow : List Int) : Bool := (List.range 41).all fun o => decide (o = 0) || decide (((ow.count (o : Int) : Nat) : Int) = wc cl wt o)
def metL (fits : List Nat) (cl : Nat) (wt : List Int) : List (List Int) := (cand fits).filter (metB cl wt)
theorem skv_cons {f : Nat} {fs : List Nat} {x : Int} {ow : List Int} : SkV (f :: fs) (x :: ow) ↔ (x ≠ 0 → 1 ≤ x ∧ x ≤ 40 ∧ f.testBit x.toNat = true) ∧ SkV fs ow := by
  constructor
  · rintro ⟨h1, h2⟩
    refine ⟨fun hx => ?_, by simpa using h1, fun b y hb hy => ?_⟩
    · obtain ⟨a, b, g, hg, ht⟩ := h2 0 x rfl hx
      cases hg
      exact ⟨a, b, ht⟩
    · exact h2 (b + 1) y (by simpa using hb) hy
  · rintro ⟨h1, h2, h3⟩
    refine ⟨by simpa using h2, fun b y hb hy => ?_⟩
    match b, hb with
    | 0, hb => cases hb; obtain ⟨a, c, d⟩ := h1 hy; exact ⟨a, c, f, rfl, d⟩
    | b + 1, hb => exact h3 b y (by simpa using hb) hy
theorem cand_iff : ∀ (fits : List Nat) (ow : List Int), SkV fits ow ↔ ow ∈ cand fits
  | [], ow => by
    constructor
    · intro h
      have := h.1
      obtain rfl : ow = [] := List.length_eq_zero_iff.1 (by simpa using this)
      simp [cand]
    · intro h
      simp [cand] at h
      subst h
      exact ⟨rfl, fun b x hb => by simp at hb⟩
  | f :: fs, [] => by
    constructor
    · intro h; have := h.1; simp at this
    · intro h; simp [cand] at h
  | f :: fs, x :: ow => by
    rw [skv_cons, cand_iff fs ow, show cand (f :: fs) = ((0 : Int) :: ((List.range 41).filter fun q => decide (1 ≤ q) && f.testBit q).map fun q : Nat => (q : Int)).flatMap fun x => (cand fs).map (x :: ·) from rfl]
    simp only [List.mem_flatMap, List.mem_map, List.mem_cons, List.mem_filter, List.mem_range, Bool.and_eq_true, decide_eq_true_eq]
    constructor
    · rintro ⟨h1, h2⟩
      refine ⟨x, ?_, ow, h2, rfl⟩
      by_cases hx : x = 0
      · exact .inl hx
      · obtain ⟨a, b, c⟩ := h1 hx
        exact .inr ⟨x.toNat, ⟨by omega, by omega, c⟩, by omega⟩
    · rintro ⟨y, hy, ow', h2, e⟩
      cases e
      refine ⟨fun hx => ?_, h2⟩
      rcases hy with hy | ⟨q, ⟨h3, h4, h5⟩, rfl⟩
      · exact absurd hy hx
      · exact ⟨by omega, by omega, by simpa using h5⟩
theorem met_iff {fits : List Nat} {cl : Nat} {wt ow : List Int} : MetA fits cl wt ow ↔ ow ∈ metL fits cl wt := by
  unfold MetA metL
  rw [List.mem_filter, cand_iff]
  refine and_congr_right fun _ => ?_
  unfold metB
  rw [List.all_eq_true]
  constructor
  · intro h o ho
    rw [List.mem_range] at ho
    rw [Bool.or_eq_true, decide_eq_true_eq, decide_eq_true_eq]
    by_cases h0 : o = 0
    · exact .inl h0
    · exact .inr (h o (by omega) (by omega))
  · intro h o h1 h2
    have := h o (List.mem_range.2 (by omega))
    rw [Bool.or_eq_true, decide_eq_true_eq, decide_eq_true_eq] at this
    rcases this with h | h
    · omega
    · exact h
theorem ml1 : metL [6, 6, 2] 6 (wtL cl1) = [[2, 2, 1]] := by kernel_rfl
theorem ml3 : metL [6, 6, 2] 6 (wtL cl3) = [[1, 2, 1], [2, 1, 1]] := by kernel_rfl
theorem ml3a : metL ([6, 6, 2].set 0 (offN 6 1)) 6 (wtL cl3) = [[2, 1, 1]] := by kernel_rfl
theorem ml3b : metL ([6, 6, 2].set 0 (offN 6 2)) 6 (wtL cl3) = [[1, 2, 1]] := by kernel_rfl
theorem ml3c : metL ([6, 6, 2].set 1 (offN 6 1)) 6 (wtL cl3) = [[1, 2, 1]] := by kernel_rfl
theorem ml3d : metL ([6, 6, 2].set 1 (offN 6 2)) 6 (wtL cl3) = [[2, 1, 1]] := by kernel_rfl
theorem ml3e : metL ([6, 6, 2].set 2 (offN 2 1)) 6 (wtL cl3) = [] := by kernel_rfl
/-- Assign -/
theorem as_first {ow : List Int} (h : FirstA (fitsN msS fsS 0 foS cl1) (clN cl1) (wtL cl1) ow) : ow = [2, 2, 1] := by
  rw [fi1, cn1] at h
  have := met_iff.1 h.1
  rw [ml1] at this
  simpa using this
theorem as_not : ¬ ShA (fitsN msS fsS 0 foS cl1) (clN cl1) (wtL cl1) := by
  rw [fi1, cn1]
  exact met_not_sh (ow := [2, 2, 1]) (met_iff.2 (by rw [ml1]; simp))
/-- Certain -/
theorem ct_not : ¬ ShA (fitsN msS fsS 0 foS cl3) (clN cl3) (wtL cl3) := by
  rw [fi3, cn3]
  exact met_not_sh (ow := [1, 2, 1]) (met_iff.2 (by rw [ml3]; simp))
theorem ctg {fits : List Nat} {cl : Nat} {wt : List Int} {i : Nat} {x y : Int} (h : CtG fits cl wt i x y) (hx : x ≠ 0) {L : List (List Int)} (hL : metL (fits.set i (offN (fits.getD i 0) x.toNat)) cl wt = L) : y = if L = [] then x else 0 := by
  rcases h with ⟨_, h1, h2⟩ | ⟨h1, h2⟩
  · cases L with
    | nil => simp [h1]
    | cons a L =>
      exact absurd h2 (met_not_sh (ow := a) (met_iff.2 (by rw [hL]; exact List.mem_cons_self ..)))
  · rcases h2 with h2 | ⟨ow', h2⟩
    · exact absurd h2 hx
    · have := met_iff.1 h2
      rw [hL] at this
      cases L with
      | nil => cases this
      | cons a L => simp [h1]
theorem ct_res {ow res : List Int} (hl : res.length = 3) (h : MetA (fitsN msS fsS 0 foS cl3) (clN cl3) (wtL cl3) ow) (hq : CtQ (fitsN msS fsS 0 foS cl3) (clN cl3) (wtL cl3) ow 3 res) : res = [0, 0, 1] := by
  rw [fi3, cn3] at h hq
  have hm := met_iff.1 h
  rw [ml3] at hm
  match res, hl with
  | [y0, y1, y2], _ =>
  simp only [List.mem_cons, List.not_mem_nil, or_false] at hm
  rcases hm with rfl | rfl
  · have e0 := ctg (by have := hq 0 1 y0 rfl rfl; rwa [if_pos (by omega)] at this) (by omega) ml3a
    have e1 := ctg (by have := hq 1 2 y1 rfl rfl; rwa [if_pos (by omega)] at this) (by omega) ml3d
    have e2 := ctg (by have := hq 2 1 y2 rfl rfl; rwa [if_pos (by omega)] at this) (by omega) ml3e
    simp at e0 e1 e2
    rw [e0, e1, e2]
  · have e0 := ctg (by have := hq 0 2 y0 rfl rfl; rwa [if_pos (by omega)] at this) (by omega) ml3b
    have e1 := ctg (by have := hq 1 1 y1 rfl rfl; rwa [if_pos (by omega)] at this) (by omega) ml3c
    have e2 := ctg (by have := hq 2 1 y2 rfl rfl; rwa [if_pos (by omega)] at this) (by omega) ml3e
    simp at e0 e1 e2
    rw [e0, e1, e2]
/-- Shortage -/
theorem ps6 (x : PS 6) : x.1 = 2 ∨ x.1 = 4 ∨ x.1 = 6 := by
  obtain ⟨x, h1, h2⟩ := x
  have h3 : x &&& 6 ≤ 6 := Nat.and_le_right
  have h4 : x ≤ 6 := by omega
  have : ∀ y : Nat, y ≤ 6 → y ≠ 0 → y &&& 6 = y → y = 2 ∨ y = 4 ∨ y = 6 := by decide
  exact this x h4 h1 h2
theorem sh6 : shB [6, 6, 2] (wtL cl2) 6 = true := by kernel_rfl
theorem sh4 : shB [6, 6, 2] (wtL cl2) 4 = false := by kernel_rfl
theorem sh2 : shB [6, 6, 2] (wtL cl2) 2 = false := by kernel_rfl
theorem st_some (h : ∀ x : PS (clN cl2), shB (fitsN msS fsS 0 foS cl2) (wtL cl2) x.1 = false) : False := by
  rw [fi2] at h
  have h6 : (6 : Nat) ≠ 0 ∧ 6 &&& clN cl2 = 6 := by rw [cn2]; decide
  have := h ⟨6, h6⟩
  rw [sh6] at this
  cases this
theorem st_six {P : PS (clN cl2)} (h : shB (fitsN msS fsS 0 foS cl2) (wtL cl2) P.1 = true) : lsI P.1 = [1, 2] := by
  rw [fi2] at h
  have hp : P.1 ≠ 0 ∧ P.1 &&& 6 = P.1 := ⟨P.2.1, (congrArg (P.1 &&& ·) cn2).symm.trans P.2.2⟩
  rcases ps6 ⟨P.1, hp⟩ with e | e | e
  · dsimp only at e; rw [e, sh2] at h; cases h
  · dsimp only at e; rw [e, sh4] at h; cases h
  · exact (congrArg lsI e).trans (by kernel_rfl)
/-- Free, Mistaken -/
theorem fre_l {l : List Mk} (h : l.Perm (frcL msS 0)) (hs : l.Pairwise (fun a b => a.own ≤ b.own)) : frB fsS l 0 = true := by
  rw [frc0] at h
  rw [perm_sorted _ l h hs (by simp)]
  kernel_rfl
theorem mis_l {l : List Mk} (h : l.Perm (frcL msS 10)) (hs : l.Pairwise (fun a b => a.own ≤ b.own)) : misL fsS l = [⟨1, 2⟩] := by
  rw [frc10] at h
  rw [perm_sorted _ l h hs (by simp [msS])]
  kernel_rfl
theorem sg0 : sgN 0 = ⟨0, 0, 0, 0, 0, 0⟩ := by kernel_rfl
theorem li6 : bitsK 6 64 = [1, 2] := by kernel_rfl
theorem owe0 : owE msS fsS 0 sgS = 0 := by kernel_rfl
end Go.Proofs.YtologmoanaccpaaGreatDoor
