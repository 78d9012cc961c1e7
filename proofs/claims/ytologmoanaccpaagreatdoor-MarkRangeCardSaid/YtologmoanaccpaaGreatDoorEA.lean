/-
  shortages as sets of owners: claims can be met or there is such a set, never both
  what an assignment leaves of the wants: all 0 exactly if it meets them
  whether a list is an assignment that meets claims: Meets
  whether a list is a shortage of claims: CheckShortage
-/
import Derived.Test.YtologmoanaccpaaGreatDoorBL
import Derived.Test.YtologmoanaccpaaGreatDoorBK
import Derived.Test.YtologmoanaccpaaGreatDoorBM
namespace Go.Proofs.YtologmoanaccpaaGreatDoor
set_option linter.all false

theorem sum_filter (c : Nat → Bool) (f : Nat → Int) : ∀ l : List Nat, (l.map fun q => if c q = true then f q else 0).sum = ((l.filter c).map f).sum
  | [] => rfl
  | x :: l => by
    rw [List.map_cons, List.sum_cons, sum_filter c f l, List.filter_cons]
    by_cases h : c x = true
    · rw [if_pos h, if_pos h, List.map_cons, List.sum_cons]
    · rw [if_neg h, if_neg h]; omega
theorem bit_hi {p q : Nat} (hp : p < 2 ^ 41) (h : 41 ≤ q) : p.testBit q = false :=
  Nat.testBit_lt_two_pow (Nat.lt_of_lt_of_le hp (Nat.pow_le_pow_right (by omega) h))
theorem bits41 {p : Nat} (hp : p < 2 ^ 41) : bitsK p 64 = bitsK p 41 := bitsK_same (by omega) fun i h _ => bit_hi hp h
theorem sq_sum {p : Nat} (hp : p < 2 ^ 41) (h0 : p.testBit 0 = false) (f : Nat → Int) : sq p f = ((bitsK p 64).map f).sum := by
  rw [bits41 hp]
  unfold sq bitsK
  rw [← sum_filter]
  congr 1
  apply List.map_congr_left
  intro q _
  by_cases h : p.testBit q = true
  · have h1 : 1 ≤ q := by
      rcases Nat.eq_zero_or_pos q with rfl | h1
      · rw [h0] at h; cases h
      · exact h1
    rw [if_pos ⟨h1, h⟩, if_pos h]
  · rw [if_neg (fun hh => h hh.2), if_neg h]
theorem sq_congr {a : Nat} {f g : Nat → Int} (h : ∀ q, 1 ≤ q → q ≤ 40 → a.testBit q = true → f q = g q) : sq a f = sq a g := by
  have h1 := sq_le a f g fun q h1 h2 h3 => Int.le_of_eq (h q h1 h2 h3)
  have h2 := sq_le a g f fun q h1 h2 h3 => Int.le_of_eq (h q h1 h2 h3).symm
  omega
theorem sub_bit {p cl : Nat} (h : p &&& cl = p) {q : Nat} (hq : p.testBit q = true) : cl.testBit q = true := by
  rw [← h, Nat.testBit_and] at hq
  simp at hq
  exact hq.2
theorem sub_lt {p cl : Nat} (h : p &&& cl = p) (hc : cl < 2 ^ 41) : p < 2 ^ 41 := by
  have : p &&& cl ≤ cl := Nat.and_le_right
  omega
theorem sub_0 {p cl : Nat} (h : p &&& cl = p) (hc : cl.testBit 0 = false) : p.testBit 0 = false := by
  cases e : p.testBit 0
  · rfl
  · rw [sub_bit h e] at hc; cases hc
theorem shB_sq {fits : List Nat} {wt : List Int} {p cl : Nat} (h : p &&& cl = p) (hc : cl < 2 ^ 41) (hc0 : cl.testBit 0 = false) : shB fits wt p = true ↔ (((fits.filter (fitA p)).length : Nat) : Int) < sq p (wc cl wt) := by
  have e1 : sq p (wc cl wt) = wsum wt (bitsK p 64) := by
    unfold wsum
    rw [← sq_sum (sub_lt h hc) (sub_0 h hc0)]
    refine sq_congr fun q _ _ hq => ?_
    unfold wc
    rw [if_pos (sub_bit h hq)]
  have e2 : cntF fits p fits.length = (fits.filter (fitA p)).length := by
    unfold cntF
    rw [List.take_length, List.countP_eq_length_filter]
    rfl
  unfold shB
  rw [decide_eq_true_eq, e1, e2]
  omega
theorem met_shB {fits : List Nat} {cl : Nat} {wt ow : List Int} (hm : MetA fits cl wt ow) (hc : cl < 2 ^ 41) (hc0 : cl.testBit 0 = false) {p : Nat} (h : p &&& cl = p) : shB fits wt p = false := by
  cases e : shB fits wt p
  · rfl
  · have h1 := (shB_sq h hc hc0).1 e
    have h2 := met_le hm p
    omega
theorem sh_some {fits : List Nat} {cl : Nat} {wt : List Int} (hs : ShA fits cl wt) (hc : cl < 2 ^ 41) (hc0 : cl.testBit 0 = false) (hf : ∀ f ∈ fits, ∀ q, f.testBit q = true → cl.testBit q = true) : ∃ x : PS cl, shB fits wt x.1 = true := by
  obtain ⟨a, _, h1⟩ := sh_gt hs
  have hp : (a &&& cl) &&& cl = a &&& cl := by rw [Nat.and_assoc, Nat.and_self]
  have e1 : sq (a &&& cl) (wc cl wt) = sq a (wc cl wt) := by
    unfold sq
    congr 1
    apply List.map_congr_left
    intro q _
    rw [Nat.testBit_and]
    by_cases hq : cl.testBit q = true
    · rw [hq, Bool.and_true]
    · have : cl.testBit q = false := by simpa using hq
      rw [this, Bool.and_false, if_neg (by simp)]
      split
      · unfold wc; rw [this]; simp
      · rfl
  have e2 : fits.filter (fitA (a &&& cl)) = fits.filter (fitA a) := by
    apply List.filter_congr
    intro f hm
    rw [Bool.eq_iff_iff, fitA_iff, fitA_iff]
    constructor
    · rintro ⟨q, h2, h3⟩
      rw [Nat.testBit_and, Bool.and_eq_true] at h3
      exact ⟨q, h2, h3.1⟩
    · rintro ⟨q, h2, h3⟩
      exact ⟨q, h2, by rw [Nat.testBit_and, h3, hf f hm q h2]; rfl⟩
  have hb : shB fits wt (a &&& cl) = true := (shB_sq hp hc hc0).2 (by rw [e1, e2]; exact h1)
  refine ⟨⟨a &&& cl, ?_, hp⟩, hb⟩
  intro h0
  have h2 := (shB_sq hp hc hc0).1 hb
  rw [h0] at h2
  have : sq 0 (wc cl wt) = 0 := by
    rw [sq_sum (by omega) (Nat.zero_testBit 0)]
    rw [(bitsK_nil (by omega)).2 rfl]
    rfl
  omega
/-- a list of owners as a set -/
def setL (l : List Int) : Nat := l.foldl (fun a x => a ||| 2 ^ x.toNat) 0
theorem setL_snoc (l : List Int) (x : Int) : setL (l ++ [x]) = setL l ||| 2 ^ x.toNat := by simp [setL]
theorem setL_bits (k : Nat) : ∀ (l : List Int) (a : Nat), (l.foldl (fun a x => a ||| 2 ^ x.toNat) a).testBit k = (a.testBit k || l.any fun x => decide (x.toNat = k))
  | [], a => by simp
  | x :: l, a => by
    rw [List.foldl_cons, setL_bits k l, Nat.testBit_or, Nat.testBit_two_pow, List.any_cons, Bool.or_assoc]
theorem setL_bit (l : List Int) (k : Nat) : (setL l).testBit k = l.any fun x => decide (x.toNat = k) := by
  unfold setL
  rw [setL_bits, Nat.zero_testBit, Bool.false_or]
/-- the owners of a list so far: each one of a set, each greater than the one before -/
def hsB (cl : Nat) (x : Int) : Bool := inB x 1 40 && cl.testBit x.toNat
def okK (cl : Nat) (l : List Int) (k : Nat) : Bool := (List.range k).all fun i => hsB cl (l.getD i 0) && (decide (i = 0) || decide (l.getD (i - 1) 0 < l.getD i 0))
theorem okK_succ (cl : Nat) (l : List Int) (k : Nat) : okK cl l (k + 1) = (okK cl l k && (hsB cl (l.getD k 0) && (decide (k = 0) || decide (l.getD (k - 1) 0 < l.getD k 0)))) := by
  unfold okK
  rw [List.range_succ, List.all_append]
  simp
theorem okK_no {cl : Nat} {l : List Int} {k : Nat} (hk : k < l.length) (h : (hsB cl (l.getD k 0) && (decide (k = 0) || decide (l.getD (k - 1) 0 < l.getD k 0))) = false) : okK cl l l.length = false := by
  cases e : okK cl l l.length
  · rfl
  · unfold okK at e
    rw [List.all_eq_true] at e
    have := e k (List.mem_range.2 hk)
    rw [h] at this
    cases this
theorem setL_lt (cl : Nat) : ∀ (l : List Int), (∀ x ∈ l, hsB cl x = true) → setL l &&& cl = setL l := by
  intro l h
  apply Nat.eq_of_testBit_eq
  intro i
  rw [Nat.testBit_and]
  cases e : (setL l).testBit i
  · rfl
  · rw [setL_bit, List.any_eq_true] at e
    obtain ⟨x, hx, e⟩ := e
    have e : x.toNat = i := by simpa using e
    have := h x hx
    unfold hsB at this
    rw [Bool.and_eq_true, e] at this
    rw [this.2]; rfl
theorem okK_all {cl : Nat} {l : List Int} {k : Nat} (h : okK cl l k = true) (hk : k ≤ l.length) : ∀ x ∈ l.take k, hsB cl x = true := by
  intro x hx
  obtain ⟨i, hi⟩ := List.getElem?_of_mem hx
  rw [List.getElem?_take] at hi
  split at hi
  · rename_i h1
    unfold okK at h
    rw [List.all_eq_true] at h
    have := h i (List.mem_range.2 h1)
    rw [Bool.and_eq_true] at this
    rw [List.getD_eq_getElem?_getD, hi] at this
    exact this.1
  · cases hi
theorem ls_ok {cl p : Nat} (h : p &&& cl = p) (hc : cl < 2 ^ 41) (hc0 : cl.testBit 0 = false) : okK cl (lsI p) (lsI p).length = true := by
  unfold okK
  rw [List.all_eq_true]
  intro i hi
  rw [List.mem_range, lsI_len] at hi
  have hm : ∀ j, j < (bitsK p 64).length → ∃ q, (bitsK p 64)[j]? = some q ∧ (lsI p).getD j 0 = (q : Int) ∧ p.testBit q = true := fun j hj => by
    refine ⟨(bitsK p 64)[j], List.getElem?_eq_getElem hj, ?_, ?_⟩
    · unfold lsI
      rw [List.getD_eq_getElem?_getD, List.getElem?_map, List.getElem?_eq_getElem hj]
      rfl
    · exact (bitsK_mem (sub_lt h hc)).1 (List.getElem_mem hj)
  obtain ⟨q, hq, e, hb⟩ := hm i hi
  have h1 : 1 ≤ q := by
    rcases Nat.eq_zero_or_pos q with rfl | h1
    · rw [sub_0 h hc0] at hb; cases hb
    · exact h1
  have h2 : q ≤ 40 := by
    rcases Nat.lt_or_ge 40 q with h2 | h2
    · rw [bit_hi (sub_lt h hc) h2] at hb; cases hb
    · exact h2
  rw [Bool.and_eq_true, e]
  refine ⟨?_, ?_⟩
  · unfold hsB
    rw [Bool.and_eq_true, inB_iff, Int.toNat_natCast]
    exact ⟨⟨by omega, by omega⟩, sub_bit h hb⟩
  · rcases Nat.eq_zero_or_pos i with rfl | hi0
    · simp
    · obtain ⟨q', hq', e', _⟩ := hm (i - 1) (by omega)
      rw [e', Bool.or_eq_true]
      refine .inr ?_
      rw [decide_eq_true_eq]
      have := List.pairwise_iff_getElem.1 (bitsK_lt2 p 64) (i - 1) i (by omega) hi (by omega)
      rw [List.getElem?_eq_getElem hi] at hq
      rw [List.getElem?_eq_getElem (by omega)] at hq'
      have f1 := Option.some.inj hq
      have f2 := Option.some.inj hq'
      omega
theorem ls_set {p : Nat} (hp : p < 2 ^ 41) : setL (lsI p) = p := by
  apply Nat.eq_of_testBit_eq
  intro i
  rw [setL_bit, Bool.eq_iff_iff, List.any_eq_true, ← bitsK_mem hp]
  unfold lsI
  constructor
  · rintro ⟨x, hx, e⟩
    obtain ⟨q, hq, rfl⟩ := List.mem_map.1 hx
    have : q = i := by simpa using e
    rwa [← this]
  · intro h
    exact ⟨(i : Int), List.mem_map.2 ⟨i, h, rfl⟩, by simp⟩
end Go.Proofs.YtologmoanaccpaaGreatDoor

namespace Go.Proofs.YtologmoanaccpaaGreatDoor
set_option linter.all false
open Go.RowKit Go.Shelf

theorem items_ints (w : World) (d : Nat) (xs ys : List Int) : ∀ is : List Nat, (∀ i ∈ is, i < xs.length ∧ i < ys.length) → (Op.eqItems (d + 1) 3 1 (xs.map (Value.int .i64)).toArray (ys.map (Value.int .i64)).toArray is).run Tryz.prog w = .ok (is.all fun i => xs.getD i 0 == ys.getD i 0) w
  | [], _ => rfl
  | i :: is, h => by
    have hp : ∀ (xs : Array Value) (j : Nat) (v : Value), xs[j]? = some v → (part 3 xs j).run Tryz.prog w = .ok v w := by
      intro xs j v h
      have ha : (isAgg 3).run Tryz.prog w = .ok false w := by kernel_rfl
      simp [part, ha, h]
    obtain ⟨h1, h2⟩ := h i (List.mem_cons_self ..)
    have q : ∀ a b : Int, (Op.equalIn (d + 1) 3 (.int .i64 a) (.int .i64 b)).run Tryz.prog w = .ok (a == b) w := fun a b => run_equalIn_int w d 3 .i64 .i64 a b Tryz.underlying3
    have e1 : (xs.map (Value.int .i64)).toArray[i]? = some (.int .i64 (xs.getD i 0)) := by
      rw [List.getElem?_toArray, List.getElem?_map, List.getD_eq_getElem?_getD, List.getElem?_eq_getElem h1]; rfl
    have e2 : (ys.map (Value.int .i64)).toArray[i]? = some (.int .i64 (ys.getD i 0)) := by
      rw [List.getElem?_toArray, List.getElem?_map, List.getD_eq_getElem?_getD, List.getElem?_eq_getElem h2]; rfl
    unfold Op.eqItems
    simp only [Sem.run_bind, Nat.mul_one]
    rw [hp _ i _ e1, Result.andThen_ok, hp _ i _ e2]
    simp only [Result.andThen_ok, q]
    rw [List.all_cons]
    cases h0 : (xs.getD i 0 == ys.getD i 0)
    · simp
    · simp only [Bool.not_true, Bool.false_eq_true, if_false, Bool.true_and]
      exact items_ints w d xs ys is (fun j hj => h j (List.mem_cons_of_mem _ hj))
theorem eq151 (xs ys : List Int) (hx : xs.length = 41) (hy : ys.length = 41) (w : World) : (Op.equal 151 (.agg (xs.map (Value.int .i64)).toArray) (.agg (ys.map (Value.int .i64)).toArray)).run Tryz.prog w = .ok ((List.range 41).all fun i => xs.getD i 0 == ys.getD i 0) w := by
  obtain ⟨i3, hi3, hz0, hz1, hz2⟩ := info_parts info3
  have hc : Tryz.prog.cellsOf 3 = 1 := by kernel_rfl
  rw [show Op.equal = Op.equalIn Op.maxDepth from rfl, show Op.maxDepth = 9999 + 1 from rfl, run_equalIn_array w 9999 _ _ Tryz.underlying151 hi3, hc]
  exact items_ints w 9998 xs ys _ (fun i hi => by rw [List.mem_range] at hi; omega)
def decW (wt : List Int) (l : List Int) : List Int := l.foldl (fun a x => if x = 0 then a else a.set x.toNat (wq a x.toNat - 1)) wt
theorem decW_snoc (wt l : List Int) (x : Int) : decW wt (l ++ [x]) = if x = 0 then decW wt l else (decW wt l).set x.toNat (wq (decW wt l) x.toNat - 1) := by simp [decW]
theorem decW_cons (wt l : List Int) (x : Int) : decW wt (x :: l) = decW (if x = 0 then wt else wt.set x.toNat (wq wt x.toNat - 1)) l := rfl
theorem decW_len : ∀ (l wt : List Int), (decW wt l).length = wt.length
  | [], _ => rfl
  | x :: l, wt => by
    rw [decW_cons, decW_len l]
    split
    · rfl
    · rw [List.length_set]
theorem decW_wq : ∀ (l : List Int) {wt : List Int}, wt.length = 41 → (∀ x ∈ l, x = 0 ∨ 1 ≤ x ∧ x ≤ 40) → ∀ o : Nat, o ≤ 40 → wq (decW wt l) o = wq wt o - if o = 0 then 0 else ((l.count (o : Int) : Nat) : Int)
  | [], wt, _, _, o, _ => by simp [decW]
  | x :: l, wt, hw, h, o, ho => by
    rw [decW_cons]
    by_cases hx : x = 0
    · subst hx
      rw [if_pos rfl, decW_wq l hw (fun y hy => h y (List.mem_cons_of_mem _ hy)) o ho]
      by_cases h0 : o = 0
      · subst h0; simp
      · rw [if_neg h0, if_neg h0, List.count_cons_of_ne (by omega)]
    · rw [if_neg hx]
      have hx2 : 1 ≤ x ∧ x ≤ 40 := (h x (List.mem_cons_self ..)).resolve_left hx
      have hl : x.toNat < wt.length := by rw [hw]; omega
      rw [decW_wq l (by rw [List.length_set]; exact hw) (fun y hy => h y (List.mem_cons_of_mem _ hy)) o ho]
      by_cases e : x.toNat = o
      · have e2 : wq (wt.set x.toNat (wq wt x.toNat - 1)) o = wq wt o - 1 := by
          subst e
          conv => lhs; unfold wq
          rw [List.getD_eq_getElem?_getD, List.getElem?_set_self hl]
          rfl
        have e3 : (o : Int) = x := by omega
        rw [e2, if_neg (by omega), if_neg (by omega), e3, List.count_cons_self]
        omega
      · have e2 : wq (wt.set x.toNat (wq wt x.toNat - 1)) o = wq wt o := by
          conv => lhs; unfold wq
          rw [List.getD_eq_getElem?_getD, List.getElem?_set_ne e, ← List.getD_eq_getElem?_getD]
          rfl
        rw [e2, List.count_cons_of_ne (by omega)]
/-- each of the first owners fits -/
def ftK (fits : List Nat) (ow : List Int) (k : Nat) : Prop := ∀ (b : Nat) (x : Int), b < k → ow[b]? = some x → x ≠ 0 → 1 ≤ x ∧ x ≤ 40 ∧ ∃ f, fits[b]? = some f ∧ f.testBit x.toNat = true
theorem met_dec {fits : List Nat} {cl : Nat} {wt ow : List Int} (hw : wt.length = 41) (hn : ∀ o : Nat, cl.testBit o = false → wq wt o = 0) (hc0 : cl.testBit 0 = false) (hl : ow.length = fits.length) (hf : ftK fits ow ow.length) :
    ((List.range 41).all fun i => (decW wt ow).getD i 0 == (List.replicate 41 (0 : Int)).getD i 0) = true ↔ MetA fits cl wt ow := by
  have hv : SkV fits ow := ⟨hl, fun b x h1 h2 => hf b x (by
    rcases Nat.lt_or_ge b ow.length with h | h
    · exact h
    · rw [List.getElem?_eq_none h] at h1; cases h1) h1 h2⟩
  have hd := decW_wq ow hw hv.dom
  have hz : ∀ i, i < 41 → (List.replicate 41 (0 : Int)).getD i 0 = 0 := fun i hi => by rw [List.getD_eq_getElem?_getD, List.getElem?_replicate, if_pos hi]; rfl
  rw [List.all_eq_true]
  constructor
  · intro h
    refine ⟨hv, fun o h1 h2 => ?_⟩
    have := h o (List.mem_range.2 (by omega))
    rw [hz o (by omega), beq_iff_eq] at this
    have e := hd o h2
    rw [if_neg (by omega)] at e
    change (decW wt ow).getD o 0 = _ at e
    unfold wc
    cases hb : cl.testBit o
    · rw [hn o hb] at e; simp; omega
    · simp; omega
  · intro h o ho
    rw [List.mem_range] at ho
    rw [hz o ho, beq_iff_eq]
    have e := hd o (by omega)
    change (decW wt ow).getD o 0 = _ at e
    rw [e]
    by_cases h0 : o = 0
    · subst h0; rw [if_pos rfl, hn 0 hc0]; rfl
    · rw [if_neg h0, h.2 o (by omega) (by omega)]
      unfold wc
      cases hb : cl.testBit o
      · rw [hn o hb]; simp
      · simp
end Go.Proofs.YtologmoanaccpaaGreatDoor

namespace Go.Proofs.YtologmoanaccpaaGreatDoor
set_option linter.all false
open Go.RowKit Go.Shelf

def MeP (w : World) (ms : List Mk) (fs : List Fd) (day : Int) (found : List Sg) (cls : List Cl) (ows : List Int) (e : Ending) (w' : World) : Prop :=
  ((chE ms fs day found cls ≠ 0 ∧ e = .returned (.tuple #[.bool false, .int .i64 (chE ms fs day found cls)])) ∨
   (chE ms fs day found cls = 0 ∧ ∃ b, e = .returned (.tuple #[.bool b, .int .i64 0]) ∧ (b = true ↔ MetA (fitsN ms fs day found cls) (clN cls) (wtL cls) ows))) ∧ Kept w w'
theorem MeP.of {w : World} {ms : List Mk} {fs : List Fd} {day : Int} {found : List Sg} {cls : List Cl} {ows : List Int} {e : Ending} {w' : World} (b : Bool) (h0 : chE ms fs day found cls = 0) (he : e = .returned (.tuple #[.bool b, .int .i64 0])) (hb : b = true ↔ MetA (fitsN ms fs day found cls) (clN cls) (wtL cls) ows) (hk : Kept w w') : MeP w ms fs day found cls ows e w' :=
  ⟨.inr ⟨h0, b, he, hb⟩, hk⟩
theorem clN_of {cls : List Cl} {k : Nat} (h : (clN cls).testBit k = false) : wq (wtL cls) k = 0 := wtL_none fun x hx e => by
  rw [clN_bit, Bool.eq_false_iff] at h
  exact h (List.any_eq_true.2 ⟨x, hx, by simp [e]⟩)
set_option maxRecDepth 100000 in
set_option maxHeartbeats 3200000 in
theorem meets_any (A B C D G : Option Addr) (n c m d p q u v x y : Nat) (ms : List Mk) (fs : List Fd) (day : Int) (found : List Sg) (cls : List Cl) (ows : List Int) (w : World) (hs : SmA w A n c ms B m d fs) (hfo : SlA sgV 6 Sg.ok w C p q found) (hcl : SlA clC 2 Cl.ok w D u v cls) (how : IntA w G x y ows) (hx1000 : x ≤ 1000) (hE : EnvT w) :
    Calls Tryz.prog 51 #[.agg #[.slice A n c, .slice B m d], .int .i64 day, .slice C p q, .slice D u v, .slice G x y] w (MeP w ms fs day found cls ows) := by
  have hi : (Tryz.prog.info? 153).map (·.size) = some 43 := by kernel_rfl
  obtain ⟨W0, hW0⟩ : ∃ W0, W0 = w.alloc (.cells #[.slice A n c, .slice B m d] 25) := ⟨_, rfl⟩
  have K0 : RowKit.Hid (Kept w W0) := Lib.hid (by rw [hW0]; exact (Kept.refl _).alloc _)
  have R0 : RowKit.Hid (RowC W0 w.heap.size [.slice A n c, .slice B m d]) := Lib.hid (by rw [hW0]; exact RowC.new w [.slice A n c, .slice B m d] 25)
  have HW := Lib.hid hW0
  have HS := Lib.hid (hs.kept K0.out)
  have HFO := Lib.hid (hfo.kept K0.out)
  have HCL := Lib.hid (hcl.kept K0.out)
  have HE := Lib.hid (hE.kept K0.out)
  have HOW := Lib.hid (how.kept K0.out)
  have H30 : RowKit.Hid (Calls Tryz.prog 113 #[.agg #[.slice A n c, .slice B m d], .int .i64 day, .slice C p q, .slice D u v] W0 fun e w' => e = .returned (.int .i64 (chE ms fs day found cls)) ∧ Kept W0 w') := Lib.hid (checkHearing_any A B C D n c m d p q u v ms fs day found cls W0 HS.out HFO.out HCL.out)
  obtain ⟨E, hEe⟩ : ∃ E, chE ms fs day found cls = E := ⟨_, rfl⟩
  rw [hEe] at H30
  have HEE := Lib.hid hEe
  have a0 := (R0.out 0 _ rfl).1
  have a1 := (R0.out 1 _ rfl).1
  have la := cell_lt a0
  clear hW0 hs hfo hcl hE hEe how
  go_enter Tryz.func51, Tryz.ntmps51
  go_upto_region 1 with (fail)
  rw [← HW.out]
  go_wp2_with fail
  refine H30.out.mono ?_
  rintro e w1 ⟨rfl, hk1⟩
  have K1 := Lib.hid hk1
  have R1 := Lib.hid (R0.out.kept hk1)
  have b0 := (R1.out 0 _ rfl).1
  have b1 := (R1.out 1 _ rfl).1
  have lb := cell_lt b0
  clear hk1 a0 a1 la
  by_cases h0 : E = 0
  rotate_left
  · have h1 : (E == 0) = false := by simpa using h0
    have H0 := Lib.hid h0
    clear h0
    go_wp2_with fail
    go_ret2
    exact ⟨.inl ⟨by rw [HEE.out]; exact H0.out, by rw [HEE.out]; rfl⟩, K0.out.trans K1.out⟩
  subst h0
  have hch := HEE.out
  obtain ⟨e1, e2, e3, e4⟩ := fstE_four hch
  obtain ⟨c1, c2, c3⟩ := cl_ok e4
  have H31 := Lib.hid (hear_any A B C D n c m d p q u v ms fs day found cls w1 (HS.out.kept K1.out) (HFO.out.kept K1.out) (HCL.out.kept K1.out) hch)
  have C2 := Lib.hid c2
  have C3 := Lib.hid c3
  clear hch e1 e2 e3 e4 c1 c2 c3
  go_wp2_with fail
  refine H31.out.mono ?_
  rintro e w2 ⟨F, cF, fb, fo, rfl, hfit, _, hk2⟩
  have K2 := Lib.hid (K1.out.trans hk2)
  obtain ⟨wt, hwt⟩ : ∃ x, wtL cls = x := ⟨_, rfl⟩
  obtain ⟨cl, hclx⟩ : ∃ x, clN cls = x := ⟨_, rfl⟩
  have hw := wtL_len cls
  have hwb := wtL_bd C3.out (fun x hx => (claim_bd (C2.out x hx)).1) (fun x hx => (claim_bd (C2.out x hx)).2)
  have h41 := clN_41 C2.out
  have hc0 := clN_0 C2.out
  have hfit' : FitR w2 F p cF fb fo (fitsN ms fs day found cls) := hfit
  obtain ⟨fits, hfits⟩ : ∃ x, fitsN ms fs day found cls = x := ⟨_, rfl⟩
  rw [hfits] at hfit'
  rw [hwt] at hw hwb ⊢
  rw [hclx] at h41 hc0 ⊢
  have h60 := hfit'.sz
  have hmk := make43 p h60
  have HFT := Lib.hid hfit'
  have HFS := Lib.hid hfits
  have HWT := Lib.hid hwt
  have HCX := Lib.hid hclx
  clear hfit hk2 hfit' hfits hwt hclx
  go_upto_region 5 with (refine wpList_store_row rfl 153 (.tmp 13) (.tmp 28) rfl w2.heap.size (hrL F p cF cl wt).toArray rfl rfl 153 zero43.toArray (heap_alloc_new w2 _) (by rw [hi]; simp [hrL, hw]) (by simp [hrL, hw, zero43]) (by simp [hrL, Value.oneCell']) ?_)
  obtain ⟨Wv, hWv⟩ : ∃ Wv, Wv = (w2.alloc (.cells zero43.toArray 153)).setRow w2.heap.size (hrL F p cF cl wt).toArray := ⟨_, rfl⟩
  have hbb : Wv.heap[w2.heap.size]? = some (.cells (hrL F p cF cl wt).toArray 153 (0, 0)) := by rw [hWv]; exact setRow_heap _ _ _ _ _ _ (heap_alloc_new w2 _)
  have RB := Lib.hid (show RowC Wv w2.heap.size (hrL F p cF cl wt) from fun j v hv => ⟨by rw [cell_of_row _ _ _ _ _ _ hbb]; simpa using hv, frozen_of_row _ _ _ _ _ hbb⟩)
  have hkv : Kept w2 Wv := by rw [hWv]; exact ((Kept.refl w2).alloc _).setRow (Nat.le_refl _) _
  have HZZ : RowKit.Hid (Wv = (w2.alloc (.cells #[.slice none 0 0, .int .u64 0, .int .i64 0, .int .i64 0, .int .i64 0, .int .i64 0, .int .i64 0, .int .i64 0, .int .i64 0, .int .i64 0, .int .i64 0, .int .i64 0, .int .i64 0, .int .i64 0, .int .i64 0, .int .i64 0, .int .i64 0, .int .i64 0, .int .i64 0, .int .i64 0, .int .i64 0, .int .i64 0, .int .i64 0, .int .i64 0, .int .i64 0, .int .i64 0, .int .i64 0, .int .i64 0, .int .i64 0, .int .i64 0, .int .i64 0, .int .i64 0, .int .i64 0, .int .i64 0, .int .i64 0, .int .i64 0, .int .i64 0, .int .i64 0, .int .i64 0, .int .i64 0, .int .i64 0, .int .i64 0, .int .i64 0] 153)).setRow w2.heap.size (hrL F p cF cl wt).toArray) := Lib.hid (by rw [hWv]; rfl)
  have KV := Lib.hid (show Kept w Wv from (K0.out.trans K2.out).trans hkv)
  have HFV := Lib.hid (HFT.out.kept hkv)
  have HEV := Lib.hid (HE.out.kept (K2.out.trans hkv))
  rw [← HZZ.out]
  have HRG : RowKit.Hid (Wv.rangeAt w2.heap.size 0 (hrL F p cF cl wt)) := Lib.hid (fun j v hv => by rw [Nat.zero_add]; exact (RB.out j v hv).1)
  have HSZ : RowKit.Hid ((Tryz.prog.info? 153).map (·.size) = some (hrL F p cF cl wt).length) := Lib.hid (by rw [hi]; simp [hrL, hw])
  have hln : ows.length = x := HOW.out.1
  have hfl : fits.length = p := HFT.out.ln
  have HZ0 : RowKit.Hid (∀ o : Nat, cl.testBit o = false → wq wt o = 0) := Lib.hid (fun o ho => by rw [← HWT.out]; rw [← HCX.out] at ho; exact clN_of ho)
  have HCF : RowKit.Hid (∀ f ∈ fits, ∀ q, f.testBit q = true → cl.testBit q = true) := Lib.hid (by rw [← HFS.out, ← HCX.out]; exact fitsN_cl)
  have HWB := Lib.hid hwb
  have HW41 := Lib.hid hw
  have HOW2 := Lib.hid (HOW.out.kept K2.out)
  have HKV := Lib.hid hkv
  have HK02 := Lib.hid (K0.out.trans K2.out)
  have HLN := Lib.hid hln
  have HFL := Lib.hid hfl
  have HC0 := Lib.hid hc0
  have z2 : w2.heap.size < Wv.heap.size := cell_lt (RB.out 0 _ rfl).1
  clear hWv hbb hkv b0 b1 lb hln hfl hwb hw hc0
  by_cases hxp : x = p
  rotate_left
  · have hne : ((x : Int) != (p : Int)) = true := by simp; omega
    go_wp2_with fail
    go_ret2
    refine MeP.of false HEE.out rfl ⟨(fun h => by cases h), fun h => ?_⟩ KV.out
    have := h.1.1
    rw [HFS.out, HLN.out, HFL.out] at this
    exact absurd this hxp
  have hne : ((x : Int) != (p : Int)) = false := by simp; omega
  go_wp2_with fail
  clear hne
  subst hxp
  go_loopw [36] (fun i wr => ∃ k : Nat, k ≤ x ∧ i = .int .i64 k ∧ RowC wr w2.heap.size (hrL F x cF cl (decW wt (ows.take k))) ∧ ftK fits ows k ∧ Kept w2 wr) (fun i _ => x - (intOf i).toNat)
  case atStart => exact ⟨0, by omega, by first | rfl | go_num, RB.out, (fun b y h => by omega), HKV.out⟩
  case round =>
    obtain ⟨k, hk, rfl, hrb, hft, hkr⟩ := hrel
    have HRB := Lib.hid hrb
    have HFTK := Lib.hid hft
    have HKR := Lib.hid hkr
    have h0c := (HRB.out 0 _ rfl).1
    have lc := cell_lt h0c
    have hdl : (decW wt (ows.take k)).length = 41 := by rw [decW_len, HW41.out]
    have HDL := Lib.hid hdl
    have HDOM : RowKit.Hid (∀ y ∈ ows.take k, y = 0 ∨ 1 ≤ y ∧ y ≤ 40) := Lib.hid (fun y hy => by
      obtain ⟨j, hj⟩ := List.getElem?_of_mem hy
      rw [List.getElem?_take] at hj
      split at hj
      · by_cases h0 : y = 0
        · exact .inl h0
        · rename_i hjk
          exact .inr ⟨(HFTK.out j y hjk hj h0).1, (HFTK.out j y hjk hj h0).2.1⟩
      · cases hj)
    clear hrb hft hkr hdl
    by_cases hlt : k < x
    · obtain ⟨b, off, hG, hcx⟩ := HOW2.out.2.2.2 (by omega)
      subst hG
      obtain ⟨y0, hy0⟩ : ∃ y0, ows[k]? = some y0 := ⟨_, List.getElem?_eq_getElem (by rw [HLN.out]; exact hlt)⟩
      obtain ⟨f, hf⟩ : ∃ f, fits[k]? = some f := ⟨_, List.getElem?_eq_getElem (by rw [HFL.out]; exact hlt)⟩
      have q1 := (HKR.out.cells _ _ (cell_lt (hcx k y0 hy0))).trans (hcx k y0 hy0)
      have q2 := (HFT.out.kept HKR.out).rf k f hf
      have hfa := HFT.out.fa (by omega)
      subst hfa
      have HY := Lib.hid hy0
      have HF := Lib.hid hf
      have hf64 := HFT.out.fs f (List.mem_of_getElem? hf)
      have HF64 := Lib.hid hf64
      have hcf := HFT.out.nc
      have hcm := HFT.out.cm
      have HT : RowKit.Hid (ows.take (k + 1) = ows.take k ++ [y0]) := Lib.hid (take_snoc' HY.out)
      clear hcx hy0 hf hf64
      have hi0 : (0 : Int) ≤ (k : Int) := by omega
      have hi1 : (k : Int) < (x : Int) := by omega
      by_cases he : y0 = 0
      · subst he
        go_wp2_with fail
        go_roundw
        case rel => exact ⟨k + 1, by omega, by go_num, by rw [HT.out, decW_snoc, if_pos rfl]; exact HRB.out, (fun b y h1 h2 h3 => by
          rcases Nat.lt_or_ge b k with h | h
          · exact HFTK.out b y h h2 h3
          · obtain rfl : b = k := by omega
            rw [HY.out] at h2; cases h2; exact absurd rfl h3), HKR.out⟩
        case measure => simp [intOf]; omega
      · have he0 : (y0 == 0) = false := by simpa using he
        have HE0 := Lib.hid he
        clear he
        by_cases hr : inB y0 1 40 = true
        rotate_left
        · have HH := Lib.hid (has_no (f : Int) y0 (by simpa using hr))
          have HR := Lib.hid hr
          clear hr
          go_wp2_with fail
          refine (HH.out _).mono ?_
          rintro e w3 ⟨rfl, rfl⟩
          go_wp2_with fail
          go_ret2
          refine MeP.of false HEE.out rfl ⟨(fun h => by cases h), fun h => ?_⟩ (HK02.out.trans HKR.out)
          obtain ⟨h1, h2, _⟩ := h.1.2 k y0 HY.out HE0.out
          exact absurd (inB_iff.2 ⟨h1, h2⟩) HR.out
        · rw [inB_iff] at hr
          obtain ⟨o, ho⟩ := Int.eq_ofNat_of_zero_le (a := y0) (by omega)
          subst ho
          have ho1 : 1 ≤ o := by omega
          have ho2 : o ≤ 40 := by omega
          have HH := Lib.hid (has_any f o HF64.out ho1 ho2)
          clear hr
          obtain ⟨bt, hbt⟩ : ∃ bt, f.testBit o = bt := ⟨_, rfl⟩
          rw [hbt] at HH
          have HBT := Lib.hid hbt
          clear hbt
          cases bt with
          | false =>
            go_wp2_with fail
            refine (HH.out _).mono ?_
            rintro e w3 ⟨rfl, rfl⟩
            go_wp2_with fail
            go_ret2
            refine MeP.of false HEE.out rfl ⟨(fun h => by cases h), fun h => ?_⟩ (HK02.out.trans HKR.out)
            obtain ⟨_, _, f', h3, h4⟩ := h.1.2 k o HY.out HE0.out
            rw [HFS.out, HF.out] at h3
            cases h3
            rw [Int.toNat_natCast, HBT.out] at h4
            cases h4
          | true =>
            have e1 := decW_wq (ows.take k) HW41.out HDOM.out o ho2
            rw [if_neg (by omega)] at e1
            have e2 := HWB.out o
            have e3 : (ows.take k).count (o : Int) ≤ k := Nat.le_trans List.count_le_length (by rw [List.length_take]; exact Nat.min_le_left _ _)
            obtain ⟨vo, hvo⟩ : ∃ vo, wq (decW wt (ows.take k)) o = vo := ⟨_, rfl⟩
            have hv1 : -1000 ≤ vo := by omega
            have hv2 : vo ≤ 60 := by omega
            have hc2 := (HRB.out (2 + o) (.int .i64 vo) (by
              unfold hrL
              rw [Nat.add_comm 2 o, List.getElem?_cons_succ, List.getElem?_cons_succ, List.getElem?_map, List.getElem?_eq_getElem (by rw [HDL.out]; omega)]
              rw [← hvo]
              unfold wq
              rw [List.getD_eq_getElem?_getD, List.getElem?_eq_getElem (by rw [HDL.out]; omega)]
              rfl)).1
            have hf2 := (HRB.out (2 + o) (.int .i64 vo) (by
              unfold hrL
              rw [Nat.add_comm 2 o, List.getElem?_cons_succ, List.getElem?_cons_succ, List.getElem?_map, List.getElem?_eq_getElem (by rw [HDL.out]; omega)]
              rw [← hvo]
              unfold wq
              rw [List.getD_eq_getElem?_getD, List.getElem?_eq_getElem (by rw [HDL.out]; omega)]
              rfl)).2
            have HVO := Lib.hid hvo
            clear hvo e1 e2 e3
            go_wp2_with fail
            refine (HH.out _).mono ?_
            rintro e w3 ⟨rfl, rfl⟩
            go_wp2_with fail
            go_roundw
            case rel =>
              refine ⟨k + 1, by omega, by go_num, ?_, (fun b y h1 h2 h3 => ?_), ?_⟩
              · rw [HT.out, decW_snoc, if_neg HE0.out, Int.toNat_natCast, HVO.out, ← hrL_wt]
                first | exact HRB.out.put (by rw [hrL_len, HDL.out]; omega) _ | skip
              · rcases Nat.lt_or_ge b k with h | h
                · exact HFTK.out b y h h2 h3
                · obtain rfl : b = k := by omega
                  rw [HY.out] at h2; cases h2
                  exact ⟨by omega, by omega, f, HF.out, by rw [Int.toNat_natCast]; exact HBT.out⟩
              · exact HKR.out.setCell (p := ⟨w2.heap.size, 2 + o, none⟩) (Nat.le_refl _) _
            case measure => simp [intOf]; omega
    · obtain rfl : k = x := by omega
      have hrg : RowKit.Hid (wr.rangeAt w2.heap.size 2 ((decW wt (ows.take k)).map (Value.int .i64))) := Lib.hid (fun j v hv => by
        refine (HRB.out (2 + j) v ?_).1
        unfold hrL
        rw [Nat.add_comm 2 j, List.getElem?_cons_succ, List.getElem?_cons_succ]
        exact hv)
      have hi151 : RowKit.Hid ((Tryz.prog.info? 151).map (·.size) = some ((decW wt (ows.take k)).map (Value.int .i64)).length) := Lib.hid (by rw [List.length_map, HDL.out]; kernel_rfl)
      obtain ⟨B, hB⟩ : ∃ B, ((List.range 41).all fun i => (decW wt (ows.take k)).getD i 0 == (List.replicate 41 (0 : Int)).getD i 0) = B := ⟨_, rfl⟩
      have heq : ∀ W : World, (binOp BinOp.eql 151 (.agg ((decW wt (ows.take k)).map (Value.int .i64)).toArray) (.agg #[.int .i64 0, .int .i64 0, .int .i64 0, .int .i64 0, .int .i64 0, .int .i64 0, .int .i64 0, .int .i64 0, .int .i64 0, .int .i64 0, .int .i64 0, .int .i64 0, .int .i64 0, .int .i64 0, .int .i64 0, .int .i64 0, .int .i64 0, .int .i64 0, .int .i64 0, .int .i64 0, .int .i64 0, .int .i64 0, .int .i64 0, .int .i64 0, .int .i64 0, .int .i64 0, .int .i64 0, .int .i64 0, .int .i64 0, .int .i64 0, .int .i64 0, .int .i64 0, .int .i64 0, .int .i64 0, .int .i64 0, .int .i64 0, .int .i64 0, .int .i64 0, .int .i64 0, .int .i64 0, .int .i64 0])).run Tryz.prog W = .ok (.bool B) W := fun W => by
        have h := eq151 (decW wt (ows.take k)) (List.replicate 41 0) HDL.out (by simp) W
        rw [hB, show Op.equal = Op.equalIn Op.maxDepth from rfl, show Op.maxDepth = 10000 from rfl] at h
        rw [run_eql_struct]
        rw [show (Value.agg #[.int .i64 0, .int .i64 0, .int .i64 0, .int .i64 0, .int .i64 0, .int .i64 0, .int .i64 0, .int .i64 0, .int .i64 0, .int .i64 0, .int .i64 0, .int .i64 0, .int .i64 0, .int .i64 0, .int .i64 0, .int .i64 0, .int .i64 0, .int .i64 0, .int .i64 0, .int .i64 0, .int .i64 0, .int .i64 0, .int .i64 0, .int .i64 0, .int .i64 0, .int .i64 0, .int .i64 0, .int .i64 0, .int .i64 0, .int .i64 0, .int .i64 0, .int .i64 0, .int .i64 0, .int .i64 0, .int .i64 0, .int .i64 0, .int .i64 0, .int .i64 0, .int .i64 0, .int .i64 0, .int .i64 0]) = .agg ((List.replicate 41 (0 : Int)).map (Value.int .i64)).toArray from rfl, h]
        rfl
      have HB := Lib.hid hB
      clear hB
      go_wp2_with (first | (refine wpList_load_mid rfl 151 (.tmp 59) rfl w2.heap.size 2 rfl ((decW wt (ows.take k)).map (Value.int .i64)) _ hrg.out Tryz.underlying151 rfl hi151.out ?_) | fail)
      go_ret2
      refine MeP.of B HEE.out rfl ?_ (HK02.out.trans HKR.out)
      have ht : ows.take k = ows := List.take_of_length_le (by rw [HLN.out]; exact Nat.le_refl _)
      have hb := HB.out
      rw [ht] at hb
      rw [← hb, HFS.out, HCX.out, HWT.out]
      exact met_dec HW41.out HZ0.out HC0.out (by rw [HLN.out, HFL.out]) (by rw [HLN.out]; exact HFTK.out)
end Go.Proofs.YtologmoanaccpaaGreatDoor

namespace Go.Proofs.YtologmoanaccpaaGreatDoor
set_option linter.all false
open Go.RowKit Go.Shelf

def CsP (w : World) (ms : List Mk) (fs : List Fd) (day : Int) (found : List Sg) (cls : List Cl) (ows : List Int) (e : Ending) (w' : World) : Prop :=
  ((chE ms fs day found cls ≠ 0 ∧ e = .returned (.tuple #[.bool false, .int .i64 (chE ms fs day found cls)])) ∨
   (chE ms fs day found cls = 0 ∧ e = .returned (.tuple #[.bool (okK (clN cls) ows ows.length && shB (fitsN ms fs day found cls) (wtL cls) (setL ows)), .int .i64 0]))) ∧ Kept w w'
theorem CsP.of {w : World} {ms : List Mk} {fs : List Fd} {day : Int} {found : List Sg} {cls : List Cl} {ows : List Int} {e : Ending} {w' : World} (b : Bool) (h0 : chE ms fs day found cls = 0) (he : e = .returned (.tuple #[.bool b, .int .i64 0])) (hb : (okK (clN cls) ows ows.length && shB (fitsN ms fs day found cls) (wtL cls) (setL ows)) = b) (hk : Kept w w') : CsP w ms fs day found cls ows e w' :=
  ⟨.inr ⟨h0, by rw [hb]; exact he⟩, hk⟩
theorem or_just {a o : Nat} (ha : a < 2 ^ 41) (ho : o ≤ 40) : bits BinOp.or IntKind.u64 (a : Int) ((2 : Int) ^ o) = ((a ||| 2 ^ o : Nat) : Int) := by
  have h := bits_or_u64_nat a (2 ^ o) (by omega) (by simpa using Nat.pow_lt_pow_right (a := 2) (by omega) (show o < 64 by omega))
  rw [show ((2 ^ o : Nat) : Int) = (2 : Int) ^ o by push_cast; rfl] at h
  exact h
set_option maxRecDepth 100000 in
set_option maxHeartbeats 3200000 in
theorem checkShortage_any (A B C D G : Option Addr) (n c m d p q u v x y : Nat) (ms : List Mk) (fs : List Fd) (day : Int) (found : List Sg) (cls : List Cl) (ows : List Int) (w : World) (hs : SmA w A n c ms B m d fs) (hfo : SlA sgV 6 Sg.ok w C p q found) (hcl : SlA clC 2 Cl.ok w D u v cls) (how : IntA w G x y ows) (hx1000 : x ≤ 1000) (hE : EnvT w) :
    Calls Tryz.prog 55 #[.agg #[.slice A n c, .slice B m d], .int .i64 day, .slice C p q, .slice D u v, .slice G x y] w (CsP w ms fs day found cls ows) := by
  have hi : (Tryz.prog.info? 153).map (·.size) = some 43 := by kernel_rfl
  obtain ⟨W0, hW0⟩ : ∃ W0, W0 = w.alloc (.cells #[.slice A n c, .slice B m d] 25) := ⟨_, rfl⟩
  have K0 : RowKit.Hid (Kept w W0) := Lib.hid (by rw [hW0]; exact (Kept.refl _).alloc _)
  have R0 : RowKit.Hid (RowC W0 w.heap.size [.slice A n c, .slice B m d]) := Lib.hid (by rw [hW0]; exact RowC.new w [.slice A n c, .slice B m d] 25)
  have HW := Lib.hid hW0
  have HS := Lib.hid (hs.kept K0.out)
  have HFO := Lib.hid (hfo.kept K0.out)
  have HCL := Lib.hid (hcl.kept K0.out)
  have HE := Lib.hid (hE.kept K0.out)
  have HOW := Lib.hid (how.kept K0.out)
  have H30 : RowKit.Hid (Calls Tryz.prog 113 #[.agg #[.slice A n c, .slice B m d], .int .i64 day, .slice C p q, .slice D u v] W0 fun e w' => e = .returned (.int .i64 (chE ms fs day found cls)) ∧ Kept W0 w') := Lib.hid (checkHearing_any A B C D n c m d p q u v ms fs day found cls W0 HS.out HFO.out HCL.out)
  obtain ⟨E, hEe⟩ : ∃ E, chE ms fs day found cls = E := ⟨_, rfl⟩
  rw [hEe] at H30
  have HEE := Lib.hid hEe
  have a0 := (R0.out 0 _ rfl).1
  have a1 := (R0.out 1 _ rfl).1
  have la := cell_lt a0
  clear hW0 hs hfo hcl hE hEe how
  go_enter Tryz.func55, Tryz.ntmps55
  go_upto_region 1 with (fail)
  rw [← HW.out]
  go_wp2_with fail
  refine H30.out.mono ?_
  rintro e w1 ⟨rfl, hk1⟩
  have K1 := Lib.hid hk1
  have R1 := Lib.hid (R0.out.kept hk1)
  have b0 := (R1.out 0 _ rfl).1
  have b1 := (R1.out 1 _ rfl).1
  have lb := cell_lt b0
  clear hk1 a0 a1 la
  by_cases h0 : E = 0
  rotate_left
  · have h1 : (E == 0) = false := by simpa using h0
    have H0 := Lib.hid h0
    clear h0
    go_wp2_with fail
    go_ret2
    exact ⟨.inl ⟨by rw [HEE.out]; exact H0.out, by rw [HEE.out]; rfl⟩, K0.out.trans K1.out⟩
  subst h0
  have hch := HEE.out
  obtain ⟨e1, e2, e3, e4⟩ := fstE_four hch
  obtain ⟨c1, c2, c3⟩ := cl_ok e4
  have H31 := Lib.hid (hear_any A B C D n c m d p q u v ms fs day found cls w1 (HS.out.kept K1.out) (HFO.out.kept K1.out) (HCL.out.kept K1.out) hch)
  have C2 := Lib.hid c2
  have C3 := Lib.hid c3
  clear hch e1 e2 e3 e4 c1 c2 c3
  go_wp2_with fail
  refine H31.out.mono ?_
  rintro e w2 ⟨F, cF, fb, fo, rfl, hfit, _, hk2⟩
  have K2 := Lib.hid (K1.out.trans hk2)
  obtain ⟨wt, hwt⟩ : ∃ x, wtL cls = x := ⟨_, rfl⟩
  obtain ⟨cl, hclx⟩ : ∃ x, clN cls = x := ⟨_, rfl⟩
  have hw := wtL_len cls
  have hwb := wtL_bd C3.out (fun x hx => (claim_bd (C2.out x hx)).1) (fun x hx => (claim_bd (C2.out x hx)).2)
  have h41 := clN_41 C2.out
  have hc0 := clN_0 C2.out
  have hfit' : FitR w2 F p cF fb fo (fitsN ms fs day found cls) := hfit
  obtain ⟨fits, hfits⟩ : ∃ x, fitsN ms fs day found cls = x := ⟨_, rfl⟩
  rw [hfits] at hfit'
  rw [hwt] at hw hwb ⊢
  rw [hclx] at h41 hc0 ⊢
  have h60 := hfit'.sz
  have hmk := make43 p h60
  have HFT := Lib.hid hfit'
  have HFS := Lib.hid hfits
  have HWT := Lib.hid hwt
  have HCX := Lib.hid hclx
  clear hfit hk2 hfit' hfits hwt hclx
  go_upto_region 5 with (refine wpList_store_row rfl 153 (.tmp 13) (.tmp 29) rfl w2.heap.size (hrL F p cF cl wt).toArray rfl rfl 153 zero43.toArray (heap_alloc_new w2 _) (by rw [hi]; simp [hrL, hw]) (by simp [hrL, hw, zero43]) (by simp [hrL, Value.oneCell']) ?_)
  obtain ⟨Wv, hWv⟩ : ∃ Wv, Wv = (w2.alloc (.cells zero43.toArray 153)).setRow w2.heap.size (hrL F p cF cl wt).toArray := ⟨_, rfl⟩
  have hbb : Wv.heap[w2.heap.size]? = some (.cells (hrL F p cF cl wt).toArray 153 (0, 0)) := by rw [hWv]; exact setRow_heap _ _ _ _ _ _ (heap_alloc_new w2 _)
  have RB := Lib.hid (show RowC Wv w2.heap.size (hrL F p cF cl wt) from fun j v hv => ⟨by rw [cell_of_row _ _ _ _ _ _ hbb]; simpa using hv, frozen_of_row _ _ _ _ _ hbb⟩)
  have hkv : Kept w2 Wv := by rw [hWv]; exact ((Kept.refl w2).alloc _).setRow (Nat.le_refl _) _
  have HZZ : RowKit.Hid (Wv = (w2.alloc (.cells #[.slice none 0 0, .int .u64 0, .int .i64 0, .int .i64 0, .int .i64 0, .int .i64 0, .int .i64 0, .int .i64 0, .int .i64 0, .int .i64 0, .int .i64 0, .int .i64 0, .int .i64 0, .int .i64 0, .int .i64 0, .int .i64 0, .int .i64 0, .int .i64 0, .int .i64 0, .int .i64 0, .int .i64 0, .int .i64 0, .int .i64 0, .int .i64 0, .int .i64 0, .int .i64 0, .int .i64 0, .int .i64 0, .int .i64 0, .int .i64 0, .int .i64 0, .int .i64 0, .int .i64 0, .int .i64 0, .int .i64 0, .int .i64 0, .int .i64 0, .int .i64 0, .int .i64 0, .int .i64 0, .int .i64 0, .int .i64 0, .int .i64 0] 153)).setRow w2.heap.size (hrL F p cF cl wt).toArray) := Lib.hid (by rw [hWv]; rfl)
  have KV := Lib.hid (show Kept w Wv from (K0.out.trans K2.out).trans hkv)
  have HFV := Lib.hid (HFT.out.kept hkv)
  have HEV := Lib.hid (HE.out.kept (K2.out.trans hkv))
  rw [← HZZ.out]
  have HRG : RowKit.Hid (Wv.rangeAt w2.heap.size 0 (hrL F p cF cl wt)) := Lib.hid (fun j v hv => by rw [Nat.zero_add]; exact (RB.out j v hv).1)
  have HSZ : RowKit.Hid ((Tryz.prog.info? 153).map (·.size) = some (hrL F p cF cl wt).length) := Lib.hid (by rw [hi]; simp [hrL, hw])
  have hln : ows.length = x := HOW.out.1
  have HOW2 := Lib.hid (HOW.out.kept K2.out)
  have HKV := Lib.hid hkv
  have HK02 := Lib.hid (K0.out.trans K2.out)
  have HLN := Lib.hid hln
  have HC41 := Lib.hid h41
  have HSH : RowKit.Hid (∀ (P : Nat) W, P < 2 ^ 41 → Kept Wv W → Calls Tryz.prog 120 #[.agg (hrL F p cF cl wt).toArray, .int .u64 (P : Int)] W fun e w' => e = .returned (.bool (shB fits wt P)) ∧ Kept W w') := Lib.hid (fun P W hP hW => short_any F p cF fb fo cl wt fits W (HFV.out.kept hW) hw hwb P hP (HEV.out.kept hW))
  have HMS : RowKit.Hid (shB (fitsN ms fs day found cls) (wtL cls) = shB fits wt) := Lib.hid (by rw [HFS.out, HWT.out])
  clear hWv hbb hkv b0 b1 lb hln hwb hw hc0 h41
  go_wp2_with fail
  go_loopw [14, 32] (fun s14 s32 wr => ∃ k : Nat, k ≤ x ∧ s14 = .int .u64 (setL (ows.take k) : Nat) ∧ s32 = .int .i64 k ∧ okK cl ows k = true ∧ Wv = wr) (fun _ s32 _ => x - (intOf s32).toNat)
  case atStart => exact ⟨0, by omega, by first | rfl | simp [setL], by first | rfl | go_num, rfl, rfl⟩
  case round =>
    obtain ⟨k, hk, rfl, rfl, hok, rfl⟩ := hrel
    have HOK := Lib.hid hok
    have HSL : RowKit.Hid (setL (ows.take k) < 2 ^ 41) := Lib.hid (sub_lt (setL_lt cl _ (okK_all HOK.out (by rw [HLN.out]; exact hk))) HC41.out)
    clear hok
    have h0c := (RB.out 1 _ rfl).1
    have lc := cell_lt h0c
    by_cases hlt : k < x
    · obtain ⟨b, off, hG, hcx⟩ := HOW2.out.2.2.2 (by omega)
      subst hG
      obtain ⟨y0, hy0⟩ : ∃ y0, ows[k]? = some y0 := ⟨_, List.getElem?_eq_getElem (by rw [HLN.out]; exact hlt)⟩
      have q1 := (HKV.out.cells _ _ (cell_lt (hcx k y0 hy0))).trans (hcx k y0 hy0)
      have HT : RowKit.Hid (ows.take (k + 1) = ows.take k ++ [y0]) := Lib.hid (take_snoc' hy0)
      have hgd : ows.getD k 0 = y0 := by rw [List.getD_eq_getElem?_getD, hy0]; rfl
      have HGD := Lib.hid hgd
      have HKX : RowKit.Hid (k < ows.length) := Lib.hid (by rw [HLN.out]; exact hlt)
      clear hy0 hgd
      have hi0 : (0 : Int) ≤ (k : Int) := by omega
      have hi1 : (k : Int) < (x : Int) := by omega
      obtain ⟨S, hS⟩ : ∃ S, setL (ows.take k) = S := ⟨_, rfl⟩
      rw [hS] at HSL
      rw [hS]
      have HS := Lib.hid hS
      clear hS
      obtain ⟨hb, hhb⟩ : ∃ hb, hsB cl y0 = hb := ⟨_, rfl⟩
      have HHB := Lib.hid hhb
      have HH : RowKit.Hid (∀ W, Calls Tryz.prog 92 #[.int .u64 (cl : Int), .int .i64 y0] W fun e w' => e = .returned (.bool hb) ∧ W = w') := Lib.hid (fun W => by
        rw [← hhb]
        unfold hsB
        cases hr : inB y0 1 40
        · rw [Bool.false_and]; exact has_no _ y0 hr W
        · rw [Bool.true_and]
          rw [inB_iff] at hr
          obtain ⟨o, ho⟩ := Int.eq_ofNat_of_zero_le (a := y0) (by omega)
          subst ho
          exact has_any cl o (by have := HC41.out; omega) (by omega) (by omega) W)
      clear hhb
      cases hb with
      | false =>
        have HNO : RowKit.Hid (okK cl ows ows.length = false) := Lib.hid (okK_no HKX.out (by rw [HGD.out, HHB.out]; rfl))
        clear hcx
        go_wp2_with fail
        refine (HH.out _).mono ?_
        rintro e w3 ⟨rfl, rfl⟩
        go_wp2_with fail
        go_ret2
        exact CsP.of false HEE.out rfl (by rw [HCX.out, HNO.out]; rfl) KV.out
      | true =>
        obtain ⟨o, ho, ho1, ho2⟩ : ∃ o : Nat, y0 = (o : Int) ∧ 1 ≤ o ∧ o ≤ 40 := by
          have h := HHB.out
          unfold hsB at h
          rw [Bool.and_eq_true, inB_iff] at h
          exact ⟨y0.toNat, by omega, by omega, by omega⟩
        subst ho
        have hor := or_just HSL.out ho2
        have HJ := Lib.hid (just_any o (by omega))
        have hns : ((S ||| 2 ^ o : Nat) : Int) = (setL (ows.take (k + 1)) : Nat) := by rw [HT.out, setL_snoc, HS.out, Int.toNat_natCast]
        have HNS := Lib.hid hns
        clear hns
        by_cases hk0 : k = 0
        · have hkz : (k : Int) ≤ 0 := by omega
          have HK0 := Lib.hid hk0
          clear hk0
          have HOK1 : RowKit.Hid (okK cl ows (k + 1) = true) := Lib.hid (by rw [okK_succ, HOK.out, HGD.out, HHB.out, HK0.out]; rfl)
          clear hcx
          go_wp2_with fail
          refine (HH.out _).mono ?_
          rintro e w3 ⟨rfl, rfl⟩
          go_wp2_with fail
          refine (HJ.out _).mono ?_
          rintro e w3 ⟨rfl, rfl⟩
          go_wp2_with fail
          go_roundw
          case rel => exact ⟨k + 1, by omega, by first | rfl | (rw [← HNS.out]), by go_num, HOK1.out, by first | rfl | trivial⟩
          case measure => simp [intOf]; omega
        · obtain ⟨j, rfl⟩ : ∃ j, k = j + 1 := ⟨k - 1, by omega⟩
          obtain ⟨y1, hy1⟩ : ∃ y1, ows[j]? = some y1 := ⟨_, List.getElem?_eq_getElem (by have := HKX.out; omega)⟩
          have q3 := (HKV.out.cells _ _ (cell_lt (hcx j y1 hy1))).trans (hcx j y1 hy1)
          have HGD1 : RowKit.Hid (ows.getD (j + 1 - 1) 0 = y1) := Lib.hid (by rw [Nat.add_sub_cancel, List.getD_eq_getElem?_getD, hy1]; rfl)
          clear hcx hy1
          by_cases hle : (o : Int) ≤ y1
          · have HNO : RowKit.Hid (okK cl ows ows.length = false) := Lib.hid (okK_no HKX.out (by
              rw [HGD.out, HGD1.out]
              have : decide (y1 < (o : Int)) = false := by simp; omega
              rw [this]; simp))
            go_wp2_with fail
            refine (HH.out _).mono ?_
            rintro e w3 ⟨rfl, rfl⟩
            go_wp2_with fail
            go_ret2
            exact CsP.of false HEE.out rfl (by rw [HCX.out, HNO.out]; rfl) KV.out
          · have hlt2 : y1 < (o : Int) := by omega
            have HOK1 : RowKit.Hid (okK cl ows (j + 1 + 1) = true) := Lib.hid (by
              rw [okK_succ, HOK.out, HGD.out, HHB.out, HGD1.out]
              have : decide (y1 < (o : Int)) = true := by simpa using hlt2
              rw [this]; simp)
            go_wp2_with fail
            refine (HH.out _).mono ?_
            rintro e w3 ⟨rfl, rfl⟩
            go_wp2_with fail
            refine (HJ.out _).mono ?_
            rintro e w3 ⟨rfl, rfl⟩
            go_wp2_with fail
            go_roundw
            case rel => exact ⟨j + 1 + 1, by omega, by first | rfl | (rw [← HNS.out]), by go_num, HOK1.out, by first | rfl | trivial⟩
            case measure => simp [intOf]; omega
    · obtain rfl : k = x := by omega
      have hsh := HSH.out (setL (ows.take k)) Wv HSL.out (Kept.refl _)
      have HS1 := Lib.hid hsh
      have ht : ows.take k = ows := List.take_of_length_le (by rw [HLN.out]; exact Nat.le_refl _)
      rw [ht] at HS1 ⊢
      obtain ⟨S, hS⟩ : ∃ S, setL ows = S := ⟨_, rfl⟩
      rw [hS] at HS1 ⊢
      have HS := Lib.hid hS
      obtain ⟨bb, hbb⟩ : ∃ bb, shB fits wt S = bb := ⟨_, rfl⟩
      rw [hbb] at HS1
      have HBB := Lib.hid hbb
      clear hsh ht hS hbb
      go_wp2_with (first | (refine wpList_load_mid rfl 153 (.tmp 13) rfl w2.heap.size 0 rfl (hrL F p cF cl wt) _ HRG.out Tryz.underlying153 rfl HSZ.out ?_) | fail)
      refine HS1.out.mono ?_
      rintro e w6 ⟨rfl, hk6⟩
      have HK6 := Lib.hid (KV.out.trans hk6)
      clear hk6
      go_wp2_with fail
      go_ret2
      exact CsP.of bb HEE.out rfl (by rw [HCX.out, HLN.out, HOK.out, HMS.out, HS.out, HBB.out]; rfl) HK6.out
end Go.Proofs.YtologmoanaccpaaGreatDoor
