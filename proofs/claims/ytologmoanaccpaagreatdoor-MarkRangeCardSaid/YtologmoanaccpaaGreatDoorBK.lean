/-
  claims as sets and numbers; what can be claimed
  Assign
  the owners that are certain: Certain
  the order of lists: isNaN, cmp.Compare, slices.Compare, cmp.Or, compareLists
  the parts of a set: parts and its iterator
  whether some owners claim too many beasts: short
-/
import Derived.Test.YtologmoanaccpaaGreatDoorBH
import Derived.Test.YtologmoanaccpaaGreatDoorBG
import Derived.Test.YtologmoanaccpaaGreatDoorBJ
import Derived.Test.YtologmoanaccpaaGreatDoorBA
import Derived.Stop.RegionWithIn
import Derived.Sort.CutIn
namespace Go.Proofs.YtologmoanaccpaaGreatDoor
set_option linter.all false

theorem clN_bits (k : Nat) : ∀ (l : List Cl) (a : Nat), (l.foldl (fun a x => a ||| 2 ^ x.own.toNat) a).testBit k = (a.testBit k || l.any fun x => decide (x.own.toNat = k))
  | [], a => by simp
  | x :: l, a => by
    rw [List.foldl_cons, clN_bits k l, Nat.testBit_or, Nat.testBit_two_pow, List.any_cons, Bool.or_assoc]
theorem clN_bit (l : List Cl) (k : Nat) : (clN l).testBit k = l.any fun x => decide (x.own.toNat = k) := by
  unfold clN
  rw [clN_bits, Nat.zero_testBit, Bool.false_or]
theorem wt_skip (k : Nat) : ∀ (l : List Cl) (a : List Int), (∀ x ∈ l, x.own.toNat ≠ k) → (l.foldl (fun a x => a.set x.own.toNat x.num) a).getD k 0 = a.getD k 0
  | [], _, _ => rfl
  | x :: l, a, h => by
    rw [List.foldl_cons, wt_skip k l _ (fun y hy => h y (List.mem_cons_of_mem _ hy))]
    have := h x (List.mem_cons_self ..)
    rw [List.getD_eq_getElem?_getD, List.getElem?_set_ne this, ← List.getD_eq_getElem?_getD]
theorem wt_at : ∀ (l : List Cl) (a : List Int), a.length = 41 → (l.map fun x => x.own.toNat).Nodup → (∀ x ∈ l, x.own.toNat ≤ 40) → ∀ x ∈ l, (l.foldl (fun a x => a.set x.own.toNat x.num) a).getD x.own.toNat 0 = x.num
  | [], _, _, _, _, x, hx => by cases hx
  | y :: l, a, ha, hn, hb, x, hx => by
    rw [List.map_cons, List.nodup_cons] at hn
    rw [List.foldl_cons]
    rcases List.mem_cons.1 hx with rfl | hx
    · rw [wt_skip _ _ _ (fun z hz e => hn.1 (List.mem_map.2 ⟨z, hz, e⟩))]
      have := hb x (List.mem_cons_self ..)
      rw [List.getD_eq_getElem?_getD, List.getElem?_set_self (by omega)]
      rfl
    · exact wt_at l _ (by rw [List.length_set]; exact ha) hn.2 (fun z hz => hb z (List.mem_cons_of_mem _ hz)) x hx
theorem nodup_nat {l : List Cl} (h : (l.map Cl.own).Nodup) (hp : ∀ x ∈ l, 1 ≤ x.own) : (l.map fun x => x.own.toNat).Nodup := by
  induction l with
  | nil => simp
  | cons x l ih =>
    rw [List.map_cons, List.nodup_cons] at h ⊢
    refine ⟨fun hm => h.1 ?_, ih h.2 (fun y hy => hp y (List.mem_cons_of_mem _ hy))⟩
    obtain ⟨z, hz, e⟩ := List.mem_map.1 hm
    have h1 := hp x (List.mem_cons_self ..)
    have h2 := hp z (List.mem_cons_of_mem _ hz)
    exact List.mem_map.2 ⟨z, hz, by omega⟩
theorem wtL_at {l : List Cl} (h : (l.map Cl.own).Nodup) (hp : ∀ x ∈ l, 1 ≤ x.own ∧ x.own ≤ 40) {x : Cl} (hx : x ∈ l) : wq (wtL l) x.own.toNat = x.num := by
  unfold wq wtL
  exact wt_at l _ (by simp) (nodup_nat h fun y hy => (hp y hy).1) (fun y hy => by have := hp y hy; omega) x hx
theorem wtL_none {l : List Cl} {k : Nat} (h : ∀ x ∈ l, x.own.toNat ≠ k) : wq (wtL l) k = 0 := by
  unfold wq wtL
  rw [wt_skip k l _ h, List.getD_eq_getElem?_getD, List.getElem?_replicate]
  split <;> rfl
theorem wc_at {l : List Cl} (h : (l.map Cl.own).Nodup) (hp : ∀ x ∈ l, 1 ≤ x.own ∧ x.own ≤ 40) {x : Cl} (hx : x ∈ l) : wc (clN l) (wtL l) x.own.toNat = x.num := by
  unfold wc
  rw [if_pos (by rw [clN_bit, List.any_eq_true]; exact ⟨x, hx, by simp⟩), wtL_at h hp hx]
theorem wc_none {l : List Cl} {k : Nat} (h : ∀ x ∈ l, x.own.toNat ≠ k) : wc (clN l) (wtL l) k = 0 := by
  unfold wc
  rw [wtL_none h]; split <;> rfl
theorem wtL_bd {l : List Cl} (h : (l.map Cl.own).Nodup) (hp : ∀ x ∈ l, 1 ≤ x.own ∧ x.own ≤ 40) (hn : ∀ x ∈ l, 0 ≤ x.num ∧ x.num ≤ 60) (k : Nat) : 0 ≤ wq (wtL l) k ∧ wq (wtL l) k ≤ 60 := by
  by_cases hx : ∃ x ∈ l, x.own.toNat = k
  · obtain ⟨x, hx, rfl⟩ := hx
    rw [wtL_at h hp hx]
    exact hn x hx
  · rw [wtL_none fun x hx' e => hx ⟨x, hx', e⟩]; omega
/-- what an owner can claim -/
theorem claim_le {α : Type} {D : α → Nat} {found : List α} {l : List Cl} {ow : List Int} (h : (l.map Cl.own).Nodup) (hp : ∀ x ∈ l, 1 ≤ x.own ∧ x.own ≤ 40) (hm : MetA (found.map fun s => D s &&& clN l) (clN l) (wtL l) ow) {x : Cl} (hx : x ∈ l) :
    x.num ≤ ((((found.filter fun s => (D s).testBit x.own.toNat).length) : Nat) : Int) := by
  obtain ⟨h1, h2⟩ := hp x hx
  have hw := wc_at h hp hx
  have he := hm.2 x.own.toNat (by omega) (by omega)
  rw [hw] at he
  rw [← he, List.count_eq_length_filter]
  have hl := len_le (p := fun y => y == (x.own.toNat : Int)) (q := fun f => f.testBit x.own.toNat) hm.1.1 (fun b y f hy hf hp => by
    have hy0 : y = (x.own.toNat : Int) := by simpa using hp
    obtain ⟨_, _, f', hf', hb⟩ := hm.1.2 b y hy (by omega)
    rw [hf] at hf'
    cases hf'
    rw [hy0, Int.toNat_natCast] at hb
    exact hb)
  refine Int.ofNat_le.2 (Nat.le_trans hl ?_)
  rw [List.filter_map, List.length_map]
  refine Nat.le_of_eq ?_
  congr 1
  apply List.filter_congr
  intro s _
  simp only [Function.comp]
  rw [Nat.testBit_and, clN_bit]
  have : (l.any fun y => decide (y.own.toNat = x.own.toNat)) = true := List.any_eq_true.2 ⟨x, hx, by simp⟩
  rw [this, Bool.and_true]
theorem sure_met {fits : List Nat} {cl : Nat} {wt : List Int} (h : ∀ o, 1 ≤ o → o ≤ 40 → cl.testBit o = true → wq wt o ≤ (((fits.filter fun f => f == 2 ^ o).length : Nat) : Int)) : ¬ ShA fits cl wt := by
  rintro ⟨ow, a, o, hv, hle, h1, h2, hlt, ha, hq⟩
  have hc : cl.testBit o = true := by
    cases e : cl.testBit o
    · unfold wc at hlt
      rw [e] at hlt
      simp at hlt
      omega
    · rfl
  have h3 := h o h1 h2 hc
  unfold wc at hlt
  rw [if_pos hc, List.count_eq_length_filter] at hlt
  have hl := len_ge (p := fun y => y == (o : Int)) (q := fun f => f == 2 ^ o) hv.1 (fun b y f hy hf hp => by
    have hf0 : f = 2 ^ o := by simpa using hp
    subst hf0
    obtain ⟨x, hx, hx0, _⟩ := (hq o ha).2.2 b _ hf (by rw [Nat.testBit_two_pow]; simp)
    rw [hy] at hx
    cases hx
    obtain ⟨q1, q2, f', hf', hb⟩ := hv.2 b y hy hx0
    rw [hf] at hf'
    cases hf'
    rw [Nat.testBit_two_pow] at hb
    have : o = y.toNat := by simpa using hb
    simp; omega)
  omega
/-- if each owner claims what is sure, there is no shortage -/
theorem own_met {α : Type} {D : α → Nat} {found : List α} {l : List Cl} (h : (l.map Cl.own).Nodup) (hp : ∀ x ∈ l, 1 ≤ x.own ∧ x.own ≤ 40) (hn : ∀ x ∈ l, x.num = (((found.filter fun s => D s == 2 ^ x.own.toNat).length : Nat) : Int)) : ¬ ShA (found.map fun s => D s &&& clN l) (clN l) (wtL l) := by
  refine sure_met fun o h1 h2 hc => ?_
  rw [clN_bit, List.any_eq_true] at hc
  obtain ⟨x, hx, e⟩ := hc
  have e : x.own.toNat = o := by simpa using e
  subst e
  rw [wtL_at h hp hx, hn x hx]
  rw [List.filter_map, List.length_map]
  refine Int.ofNat_le.2 ?_
  rw [← List.countP_eq_length_filter, ← List.countP_eq_length_filter]
  refine List.countP_mono_left fun s _ hs => ?_
  simp only [Function.comp]
  have hs0 : D s = 2 ^ x.own.toNat := by simpa using hs
  rw [hs0]
  have : (2 ^ x.own.toNat &&& clN l) = 2 ^ x.own.toNat := by
    apply Nat.eq_of_testBit_eq
    intro i
    rw [Nat.testBit_and, Nat.testBit_two_pow]
    by_cases e : x.own.toNat = i
    · subst e
      rw [clN_bit, List.any_eq_true.2 ⟨x, hx, by simp⟩]; simp
    · simp [e]
  rw [this]; simp
/-- what is sure is sure for one owner alone -/
theorem sure_sum {α : Type} (D : α → Nat) : ∀ (found : List α) (l : List Cl), (l.map fun x => x.own.toNat).Nodup → (l.map fun x => (found.filter fun s => D s == 2 ^ x.own.toNat).length).sum ≤ found.length
  | [], l, hh => by
    clear hh
    induction l with
    | nil => simp
    | cons x l ih => simpa using ih
  | s :: found, l, h => by
    have ih := sure_sum D found l h
    have e : (l.map fun x => ((s :: found).filter fun s => D s == 2 ^ x.own.toNat).length).sum ≤ (l.map fun x => (found.filter fun s => D s == 2 ^ x.own.toNat).length).sum + 1 := by
      clear ih
      have hle : ∀ x : Cl, ((s :: found).filter fun s => D s == 2 ^ x.own.toNat).length = (found.filter fun s => D s == 2 ^ x.own.toNat).length + if D s == 2 ^ x.own.toNat then 1 else 0 := fun x => by
        rw [List.filter_cons]
        split <;> simp
      induction l with
      | nil => simp
      | cons x l ih =>
        rw [List.map_cons, List.nodup_cons] at h
        rw [List.map_cons, List.map_cons, List.sum_cons, List.sum_cons, hle x]
        by_cases hx : D s == 2 ^ x.own.toNat
        · rw [if_pos hx]
          have : (l.map fun x => ((s :: found).filter fun s => D s == 2 ^ x.own.toNat).length) = (l.map fun x => (found.filter fun s => D s == 2 ^ x.own.toNat).length) := by
            apply List.map_congr_left
            intro y hy
            rw [hle y, if_neg]; · rfl
            intro hy2
            have h1 : D s = 2 ^ x.own.toNat := by simpa using hx
            have h2 : D s = 2 ^ y.own.toNat := by simpa using hy2
            have h3 : x.own.toNat = y.own.toNat := (Nat.pow_right_inj (by omega)).1 (h1.symm.trans h2)
            exact h.1 (List.mem_map.2 ⟨y, hy, h3.symm⟩)
          rw [this]; omega
        · rw [if_neg hx]
          have := ih h.2
          omega
    rw [List.length_cons]
    omega
end Go.Proofs.YtologmoanaccpaaGreatDoor

namespace Go.Proofs.YtologmoanaccpaaGreatDoor
set_option linter.all false
open Go.RowKit Go.Shelf

theorem cl_ok {l : List Cl} (h : clE l = 0) : l.length ≤ 10 ∧ (∀ x ∈ l, claimB x = true) ∧ (l.map Cl.own).Nodup := by
  unfold clE at h
  split at h
  · omega
  · rename_i h0
    split at h
    · rename_i h1
      split at h
      · omega
      · rename_i h2
        refine ⟨by omega, fun x hx => List.all_eq_true.1 h1 x hx, ?_⟩
        unfold repB at h2
        simpa using h2
    · omega
theorem claim_bd {x : Cl} (h : claimB x = true) : (1 ≤ x.own ∧ x.own ≤ 40) ∧ 0 ≤ x.num ∧ x.num ≤ 60 := by
  unfold claimB at h
  rw [Bool.and_eq_true, inB_iff, inB_iff] at h
  exact h
def fitsN (ms : List Mk) (fs : List Fd) (day : Int) (found : List Sg) (cls : List Cl) : List Nat := found.map fun s => ownD ms fs day s &&& clN cls
theorem clN_41 {l : List Cl} (h : ∀ x ∈ l, claimB x = true) : clN l < 2 ^ 41 := clN_lt l 0 (by decide) fun x hx => (claim_bd (h x hx)).1.2
theorem clN_0 {l : List Cl} (h : ∀ x ∈ l, claimB x = true) : (clN l).testBit 0 = false := by
  rw [clN_bit, Bool.eq_false_iff, Ne, List.any_eq_true]
  rintro ⟨x, hx, e⟩
  have := (claim_bd (h x hx)).1.1
  simp at e
  omega
theorem fitsN_cl {ms : List Mk} {fs : List Fd} {day : Int} {found : List Sg} {cls : List Cl} : ∀ f ∈ fitsN ms fs day found cls, ∀ q, f.testBit q = true → (clN cls).testBit q = true := fun f hf q hq => by
  unfold fitsN at hf
  obtain ⟨s, _, rfl⟩ := List.mem_map.1 hf
  rw [Nat.testBit_and] at hq
  simp at hq
  exact hq.2
def AsP (w : World) (ms : List Mk) (fs : List Fd) (day : Int) (found : List Sg) (cls : List Cl) (p : Nat) (e : Ending) (w' : World) : Prop :=
  ((chE ms fs day found cls ≠ 0 ∧ e = .returned (.tuple #[.slice none 0 0, .bool false, .int .i64 (chE ms fs day found cls)])) ∨
   (chE ms fs day found cls = 0 ∧ ((∃ hb ow, e = .returned (.tuple #[.slice (some ⟨hb, 0, none⟩) p p, .bool true, .int .i64 0]) ∧ HasR w' (some ⟨hb, 0, none⟩) p p hb 0 ow ∧ FirstA (fitsN ms fs day found cls) (clN cls) (wtL cls) ow ∧ w.heap.size ≤ hb) ∨
     (e = .returned (.tuple #[.slice none 0 0, .bool false, .int .i64 0]) ∧ ShA (fitsN ms fs day found cls) (clN cls) (wtL cls))))) ∧ Kept w w'
set_option maxRecDepth 100000 in
set_option maxHeartbeats 3200000 in
theorem assign_any (A B C D : Option Addr) (n c m d p q u v : Nat) (ms : List Mk) (fs : List Fd) (day : Int) (found : List Sg) (cls : List Cl) (w : World) (hs : SmA w A n c ms B m d fs) (hfo : SlA sgV 6 Sg.ok w C p q found) (hcl : SlA clC 2 Cl.ok w D u v cls) (hE : EnvT w) :
    Calls Tryz.prog 49 #[.agg #[.slice A n c, .slice B m d], .int .i64 day, .slice C p q, .slice D u v] w (AsP w ms fs day found cls p) := by
  obtain ⟨W0, hW0⟩ : ∃ W0, W0 = w.alloc (.cells #[.slice A n c, .slice B m d] 25) := ⟨_, rfl⟩
  have K0 : RowKit.Hid (Kept w W0) := Lib.hid (by rw [hW0]; exact (Kept.refl _).alloc _)
  have R0 : RowKit.Hid (RowC W0 w.heap.size [.slice A n c, .slice B m d]) := Lib.hid (by rw [hW0]; exact RowC.new w [.slice A n c, .slice B m d] 25)
  have HW := Lib.hid hW0
  have HS := Lib.hid (hs.kept K0.out)
  have HFO := Lib.hid (hfo.kept K0.out)
  have HCL := Lib.hid (hcl.kept K0.out)
  have HE := Lib.hid (hE.kept K0.out)
  have H30 : RowKit.Hid (Calls Tryz.prog 113 #[.agg #[.slice A n c, .slice B m d], .int .i64 day, .slice C p q, .slice D u v] W0 fun e w' => e = .returned (.int .i64 (chE ms fs day found cls)) ∧ Kept W0 w') := Lib.hid (checkHearing_any A B C D n c m d p q u v ms fs day found cls W0 HS.out HFO.out HCL.out)
  obtain ⟨E, hEe⟩ : ∃ E, chE ms fs day found cls = E := ⟨_, rfl⟩
  rw [hEe] at H30
  have HEE := Lib.hid hEe
  have a0 := (R0.out 0 _ rfl).1
  have a1 := (R0.out 1 _ rfl).1
  have la := cell_lt a0
  clear hW0 hs hfo hcl hE hEe
  go_enter Tryz.func49, Tryz.ntmps49
  go_upto_region 1 with (fail)
  rw [← HW.out]
  go_wp2_with fail
  refine H30.out.mono ?_
  rintro e w1 ⟨rfl, hk1⟩
  have K1 := Lib.hid hk1
  have R1 := Lib.hid (R0.out.kept hk1)
  have b0 := (R1.out 0 _ rfl).1
  have b1 := (R1.out 1 _ rfl).1
  have lb := cell_lt b0
  clear hk1 a0 a1 la
  by_cases h0 : E = 0
  · subst h0
    have hch := HEE.out
    obtain ⟨e1, e2, e3, e4⟩ := fstE_four hch
    obtain ⟨c1, c2, c3⟩ := cl_ok e4
    have H31 := Lib.hid (hear_any A B C D n c m d p q u v ms fs day found cls w1 (HS.out.kept K1.out) (HFO.out.kept K1.out) (HCL.out.kept K1.out) hch)
    have C2 := Lib.hid c2
    have C3 := Lib.hid c3
    clear hch e1 e2 e3 e4 c1 c2 c3
    go_wp2_with fail
    refine H31.out.mono ?_
    rintro e w2 ⟨F, cF, fb, fo, rfl, hfit, _, hk2⟩
    have K2 := Lib.hid (K1.out.trans hk2)
    have H32 := Lib.hid (first_any F p cF fb fo (clN cls) (wtL cls) (fitsN ms fs day found cls) w2 hfit (wtL_len _) (wtL_bd C3.out (fun x hx => (claim_bd (C2.out x hx)).1) (fun x hx => (claim_bd (C2.out x hx)).2)) (clN_41 C2.out) (clN_0 C2.out) (HE.out.kept K2.out) fitsN_cl)
    clear hfit hk2
    go_wp2_with fail
    refine H32.out.mono ?_
    rintro e w3 ⟨⟨hb, ow, rfl, hh, hf, hle⟩ | ⟨rfl, hsh⟩, hk3⟩
    · have HH := Lib.hid hh
      have HF := Lib.hid hf
      have K3 := Lib.hid (K0.out.trans (K2.out.trans hk3))
      have HLE : RowKit.Hid (w.heap.size ≤ hb) := Lib.hid (by have := K0.out.size; have := K2.out.size; omega)
      clear hh hf hk3
      go_wp2
      go_ret3
      exact ⟨.inr ⟨HEE.out, .inl ⟨hb, ow, rfl, HH.out, HF.out, HLE.out⟩⟩, K3.out⟩
    · have HSH := Lib.hid hsh
      have K3 := Lib.hid (K0.out.trans (K2.out.trans hk3))
      clear hsh hk3
      go_wp2
      go_ret3
      exact ⟨.inr ⟨HEE.out, .inr ⟨rfl, HSH.out⟩⟩, K3.out⟩
  · have h1 : (E == 0) = false := by simpa using h0
    have H0 := Lib.hid h0
    clear h0
    go_wp2_with fail
    go_ret3
    exact ⟨.inl ⟨by rw [HEE.out]; exact H0.out, by rw [HEE.out]; rfl⟩, K0.out.trans K1.out⟩
end Go.Proofs.YtologmoanaccpaaGreatDoor

namespace Go.Proofs.YtologmoanaccpaaGreatDoor
set_option linter.all false
open Go.RowKit Go.Shelf

theorem wpList_load_midW {P : Program} {ops : Array Oper} {rest : List Oper} {op : Oper} {a : Act} {w : World} {Q : Exit → Act → World → Prop} (hgd : Region.wanted op (yielded ops a.tmps) = true) (ty : TypeId) (x : Operand) (ho : op.op = .load ty x)
    (b o : Nat) (hx : a.eval x = .pointer (some ⟨b, o, none⟩)) (cs : List Value) (d : TypeDesc) (hc : w.rangeAt b o cs)
    (hu : P.underlying ty = some d) (hd : d.isRow = true) (hi : (P.info? ty).map (·.size) = some cs.length)
    (h : wpList P ops Q rest (a.put op.dst (.agg cs.toArray)) w) : wpList P ops Q (op :: rest) a w :=
  wpList_step fun _ hK => by
    rw [if_pos hgd]
    exact wp_load_mid ty x ho b o hx cs d hc hu hd hi (hK _ _ h)
def zero43 : List Value := [.slice none 0 0, .int .u64 0, .int .i64 0, .int .i64 0, .int .i64 0, .int .i64 0, .int .i64 0, .int .i64 0, .int .i64 0, .int .i64 0, .int .i64 0, .int .i64 0, .int .i64 0, .int .i64 0, .int .i64 0, .int .i64 0, .int .i64 0, .int .i64 0, .int .i64 0, .int .i64 0, .int .i64 0, .int .i64 0, .int .i64 0, .int .i64 0, .int .i64 0, .int .i64 0, .int .i64 0, .int .i64 0, .int .i64 0, .int .i64 0, .int .i64 0, .int .i64 0, .int .i64 0, .int .i64 0, .int .i64 0, .int .i64 0, .int .i64 0, .int .i64 0, .int .i64 0, .int .i64 0, .int .i64 0, .int .i64 0, .int .i64 0]
theorem HasR.put {W : World} {nb hb : Nat} {ow : List Int} (h : HasR W (some ⟨hb, 0, none⟩) nb nb hb 0 ow) {k : Nat} (hk : k < nb) (x : Int) : HasR (W.setCell ⟨hb, k, none⟩ (.int .i64 x)) (some ⟨hb, 0, none⟩) nb nb hb 0 (ow.set k x) := by
  have r : RowC W hb (ow.map (Value.int .i64)) := fun j v hv => by
    rw [List.getElem?_map] at hv
    cases hz : ow[j]? with
    | none => rw [hz] at hv; cases hv
    | some y => rw [hz] at hv; cases hv; have := h.rh j y hz; rw [Nat.zero_add] at this; exact this
  have r2 := r.put (j := k) (by rw [List.length_map, h.ln]; exact hk) (.int .i64 x)
  refine ⟨by rw [List.length_set, h.ln], h.nc, h.cm, h.ha, by rw [size_set]; exact h.lt, fun i y hi => ?_⟩
  rw [Nat.zero_add]
  refine r2 i (.int .i64 y) ?_
  rw [← List.map_set, List.getElem?_map, hi]
  rfl
def CtG (fits : List Nat) (cl : Nat) (wt : List Int) (i : Nat) (x y : Int) : Prop :=
  (x ≠ 0 ∧ y = x ∧ ShA (fits.set i (offN (fits.getD i 0) x.toNat)) cl wt) ∨ (y = 0 ∧ (x = 0 ∨ ∃ ow', MetA (fits.set i (offN (fits.getD i 0) x.toNat)) cl wt ow'))
def CtQ (fits : List Nat) (cl : Nat) (wt ow : List Int) (k : Nat) (res : List Int) : Prop :=
  ∀ (i : Nat) (x y : Int), ow[i]? = some x → res[i]? = some y → if i < k then CtG fits cl wt i x y else y = 0
theorem CtQ.zero {fits : List Nat} {cl : Nat} {wt ow : List Int} (p : Nat) : CtQ fits cl wt ow 0 (List.replicate p 0) := fun i x y _ hy => by
  rw [if_neg (by omega)]
  exact (List.mem_replicate.1 (List.mem_of_getElem? hy)).2
theorem CtQ.keep {fits : List Nat} {cl : Nat} {wt ow res : List Int} {k : Nat} {x : Int} (h : CtQ fits cl wt ow k res) (hx : ow[k]? = some x) (hg : CtG fits cl wt k x 0) : CtQ fits cl wt ow (k + 1) res := fun i x' y h1 h2 => by
  have := h i x' y h1 h2
  by_cases hi : i < k
  · rw [if_pos hi] at this; rw [if_pos (by omega)]; exact this
  · rw [if_neg hi] at this
    by_cases e : i = k
    · subst e; rw [if_pos (by omega)]; rw [hx] at h1; cases h1; rw [this]; exact hg
    · rw [if_neg (by omega)]; exact this
theorem CtQ.put {fits : List Nat} {cl : Nat} {wt ow res : List Int} {k : Nat} {x : Int} (h : CtQ fits cl wt ow k res) (hx : ow[k]? = some x) (hg : CtG fits cl wt k x x) : CtQ fits cl wt ow (k + 1) (res.set k x) := fun i x' y h1 h2 => by
  rw [List.getElem?_set] at h2
  by_cases e : k = i
  · subst e
    rw [if_pos rfl] at h2
    rw [hx] at h1
    cases h1
    split at h2
    · cases h2; rw [if_pos (by omega)]; exact hg
    · cases h2
  · rw [if_neg e] at h2
    have := h i x' y h1 h2
    by_cases hi : i < k
    · rw [if_pos hi] at this; rw [if_pos (by omega)]; exact this
    · rw [if_neg hi] at this; rw [if_neg (by omega)]; exact this
def CtP (w : World) (ms : List Mk) (fs : List Fd) (day : Int) (found : List Sg) (cls : List Cl) (p : Nat) (e : Ending) (w' : World) : Prop :=
  ((chE ms fs day found cls ≠ 0 ∧ e = .returned (.tuple #[.slice none 0 0, .int .i64 (chE ms fs day found cls)])) ∨
   (chE ms fs day found cls = 0 ∧ ((∃ hb ow res, e = .returned (.tuple #[.slice (some ⟨hb, 0, none⟩) p p, .int .i64 0]) ∧ HasR w' (some ⟨hb, 0, none⟩) p p hb 0 res ∧ MetA (fitsN ms fs day found cls) (clN cls) (wtL cls) ow ∧ CtQ (fitsN ms fs day found cls) (clN cls) (wtL cls) ow p res ∧ w.heap.size ≤ hb) ∨
     (e = .returned (.tuple #[.slice none 0 0, .int .i64 30]) ∧ ShA (fitsN ms fs day found cls) (clN cls) (wtL cls))))) ∧ Kept w w'
set_option maxRecDepth 100000 in
set_option maxHeartbeats 3200000 in
theorem certainAll_any (A B C D : Option Addr) (n c m d p q u v : Nat) (ms : List Mk) (fs : List Fd) (day : Int) (found : List Sg) (cls : List Cl) (w : World) (hs : SmA w A n c ms B m d fs) (hfo : SlA sgV 6 Sg.ok w C p q found) (hcl : SlA clC 2 Cl.ok w D u v cls) (hE : EnvT w) :
    Calls Tryz.prog 57 #[.agg #[.slice A n c, .slice B m d], .int .i64 day, .slice C p q, .slice D u v] w (CtP w ms fs day found cls p) := by
  have hi : (Tryz.prog.info? 153).map (·.size) = some 43 := by kernel_rfl
  obtain ⟨W0, hW0⟩ : ∃ W0, W0 = w.alloc (.cells #[.slice A n c, .slice B m d] 25) := ⟨_, rfl⟩
  have K0 : RowKit.Hid (Kept w W0) := Lib.hid (by rw [hW0]; exact (Kept.refl _).alloc _)
  have R0 : RowKit.Hid (RowC W0 w.heap.size [.slice A n c, .slice B m d]) := Lib.hid (by rw [hW0]; exact RowC.new w [.slice A n c, .slice B m d] 25)
  have HW := Lib.hid hW0
  have HS := Lib.hid (hs.kept K0.out)
  have HFO := Lib.hid (hfo.kept K0.out)
  have HCL := Lib.hid (hcl.kept K0.out)
  have HE := Lib.hid (hE.kept K0.out)
  have H30 : RowKit.Hid (Calls Tryz.prog 113 #[.agg #[.slice A n c, .slice B m d], .int .i64 day, .slice C p q, .slice D u v] W0 fun e w' => e = .returned (.int .i64 (chE ms fs day found cls)) ∧ Kept W0 w') := Lib.hid (checkHearing_any A B C D n c m d p q u v ms fs day found cls W0 HS.out HFO.out HCL.out)
  obtain ⟨E, hEe⟩ : ∃ E, chE ms fs day found cls = E := ⟨_, rfl⟩
  rw [hEe] at H30
  have HEE := Lib.hid hEe
  have a0 := (R0.out 0 _ rfl).1
  have a1 := (R0.out 1 _ rfl).1
  have la := cell_lt a0
  clear hW0 hs hfo hcl hE hEe
  go_enter Tryz.func57, Tryz.ntmps57
  go_upto_region 1 with (fail)
  rw [← HW.out]
  go_wp2_with fail
  refine H30.out.mono ?_
  rintro e w1 ⟨rfl, hk1⟩
  have K1 := Lib.hid hk1
  have R1 := Lib.hid (R0.out.kept hk1)
  have b0 := (R1.out 0 _ rfl).1
  have b1 := (R1.out 1 _ rfl).1
  have lb := cell_lt b0
  clear hk1 a0 a1 la
  by_cases h0 : E = 0
  rotate_left
  · have h1 : (E == 0) = false := by simpa using h0
    have H0 := Lib.hid h0
    clear h0
    go_wp2_with fail
    go_ret2
    exact ⟨.inl ⟨by rw [HEE.out]; exact H0.out, by rw [HEE.out]; rfl⟩, K0.out.trans K1.out⟩
  subst h0
  have hch := HEE.out
  obtain ⟨e1, e2, e3, e4⟩ := fstE_four hch
  obtain ⟨c1, c2, c3⟩ := cl_ok e4
  have H31 := Lib.hid (hear_any A B C D n c m d p q u v ms fs day found cls w1 (HS.out.kept K1.out) (HFO.out.kept K1.out) (HCL.out.kept K1.out) hch)
  have C2 := Lib.hid c2
  have C3 := Lib.hid c3
  clear hch e1 e2 e3 e4 c1 c2 c3
  go_wp2_with fail
  refine H31.out.mono ?_
  rintro e w2 ⟨F, cF, fb, fo, rfl, hfit, _, hk2⟩
  have K2 := Lib.hid (K1.out.trans hk2)
  obtain ⟨wt, hwt⟩ : ∃ x, wtL cls = x := ⟨_, rfl⟩
  obtain ⟨cl, hclx⟩ : ∃ x, clN cls = x := ⟨_, rfl⟩
  have hw := wtL_len cls
  have hwb := wtL_bd C3.out (fun x hx => (claim_bd (C2.out x hx)).1) (fun x hx => (claim_bd (C2.out x hx)).2)
  have h41 := clN_41 C2.out
  have hc0 := clN_0 C2.out
  have hfit' : FitR w2 F p cF fb fo (fitsN ms fs day found cls) := hfit
  obtain ⟨fits, hfits⟩ : ∃ x, fitsN ms fs day found cls = x := ⟨_, rfl⟩
  rw [hfits] at hfit'
  rw [hwt] at hw hwb ⊢
  rw [hclx] at h41 hc0 ⊢
  have h60 := hfit'.sz
  have hmk := make43 p h60
  have HFT := Lib.hid hfit'
  have HFS := Lib.hid hfits
  have HWT := Lib.hid hwt
  have HCX := Lib.hid hclx
  clear hfit hk2 hfit' hfits hwt hclx
  go_upto_region 5 with (refine wpList_store_row rfl 153 (.tmp 11) (.tmp 29) rfl w2.heap.size (hrL F p cF cl wt).toArray rfl rfl 153 zero43.toArray (heap_alloc_new w2 _) (by rw [hi]; simp [hrL, hw]) (by simp [hrL, hw, zero43]) (by simp [hrL, Value.oneCell']) ?_)
  obtain ⟨Wv, hWv⟩ : ∃ Wv, Wv = (w2.alloc (.cells zero43.toArray 153)).setRow w2.heap.size (hrL F p cF cl wt).toArray := ⟨_, rfl⟩
  have hbb : Wv.heap[w2.heap.size]? = some (.cells (hrL F p cF cl wt).toArray 153 (0, 0)) := by rw [hWv]; exact setRow_heap _ _ _ _ _ _ (heap_alloc_new w2 _)
  have RB := Lib.hid (show RowC Wv w2.heap.size (hrL F p cF cl wt) from fun j v hv => ⟨by rw [cell_of_row _ _ _ _ _ _ hbb]; simpa using hv, frozen_of_row _ _ _ _ _ hbb⟩)
  have hkv : Kept w2 Wv := by rw [hWv]; exact ((Kept.refl w2).alloc _).setRow (Nat.le_refl _) _
  have HZZ : RowKit.Hid (Wv = (w2.alloc (.cells #[.slice none 0 0, .int .u64 0, .int .i64 0, .int .i64 0, .int .i64 0, .int .i64 0, .int .i64 0, .int .i64 0, .int .i64 0, .int .i64 0, .int .i64 0, .int .i64 0, .int .i64 0, .int .i64 0, .int .i64 0, .int .i64 0, .int .i64 0, .int .i64 0, .int .i64 0, .int .i64 0, .int .i64 0, .int .i64 0, .int .i64 0, .int .i64 0, .int .i64 0, .int .i64 0, .int .i64 0, .int .i64 0, .int .i64 0, .int .i64 0, .int .i64 0, .int .i64 0, .int .i64 0, .int .i64 0, .int .i64 0, .int .i64 0, .int .i64 0, .int .i64 0, .int .i64 0, .int .i64 0, .int .i64 0, .int .i64 0, .int .i64 0] 153)).setRow w2.heap.size (hrL F p cF cl wt).toArray) := Lib.hid (by rw [hWv]; rfl)
  have KV := Lib.hid (show Kept w Wv from (K0.out.trans K2.out).trans hkv)
  have HFV := Lib.hid (HFT.out.kept hkv)
  have HEV := Lib.hid (HE.out.kept (K2.out.trans hkv))
  rw [← HZZ.out]
  have HRG : RowKit.Hid (Wv.rangeAt w2.heap.size 0 (hrL F p cF cl wt)) := Lib.hid (fun j v hv => by rw [Nat.zero_add]; exact (RB.out j v hv).1)
  have HSZ : RowKit.Hid ((Tryz.prog.info? 153).map (·.size) = some (hrL F p cF cl wt).length) := Lib.hid (by rw [hi]; simp [hrL, hw])
  have HM1 := Lib.hid (meet_any F p cF fb fo cl wt fits Wv HFV.out hw hwb h41 hc0 HEV.out)
  clear hWv hbb hkv b0 b1 lb
  go_wp2_with (first | (refine wpList_load_mid rfl 153 (.tmp 11) rfl w2.heap.size 0 rfl (hrL F p cF cl wt) _ HRG.out Tryz.underlying153 rfl HSZ.out ?_) | fail)
  refine HM1.out.mono ?_
  rintro e w3 ⟨⟨hb, ow, rfl, hh, hmt, hle⟩ | ⟨rfl, hsh⟩, hk3⟩
  rotate_left
  · have HSH := Lib.hid hsh
    have HKE := Lib.hid (KV.out.trans hk3)
    clear hsh hk3
    go_wp2_with fail
    go_ret2
    exact ⟨.inr ⟨HEE.out, by rw [HFS.out, HWT.out, HCX.out]; exact .inr ⟨rfl, HSH.out⟩⟩, HKE.out⟩
  have RB3 := Lib.hid (RB.out.kept hk3)
  have HH := Lib.hid hh
  have HMT := Lib.hid hmt
  have K3 := Lib.hid (KV.out.trans hk3)
  have KV3 := Lib.hid hk3
  clear hh hmt hk3 HM1
  go_upto_region 8 with fail
  go_upto_region 9 with fail
  obtain ⟨W5, hW5⟩ : ∃ W5, W5 = w3.alloc (.cells (zer p).toArray 3) := ⟨_, rfl⟩
  have k5 : Kept w3 W5 := by rw [hW5]; exact (Kept.refl _).alloc _
  have hr5 : HasR W5 (some ⟨w3.heap.size, 0, none⟩) p p w3.heap.size 0 (List.replicate p 0) := by rw [hW5]; exact has_new w3 p 3 h60
  have HR5 := Lib.hid hr5
  have K5 := Lib.hid k5
  rw [← hW5]
  clear hW5 k5 hr5
  go_wp2_with fail
  go_loopw [42] (fun i wr => ∃ k : Nat, k ≤ p ∧ i = .int .i64 k ∧ (∃ res, HasR wr (some ⟨w3.heap.size, 0, none⟩) p p w3.heap.size 0 res ∧ CtQ fits cl wt ow k res) ∧ Kept w3 wr) (fun i _ => p - (intOf i).toNat)
  case atStart => exact ⟨0, by omega, by first | rfl | go_num, ⟨_, HR5.out, CtQ.zero p⟩, K5.out⟩
  case round =>
    obtain ⟨k, hk, rfl, ⟨res, hr, hq⟩, hkr⟩ := hrel
    have HR := Lib.hid hr
    have HQ := Lib.hid hq
    have HKR := Lib.hid hkr
    clear hr hq hkr
    have hsz := HKR.out.size
    have hlo := HH.out.lt
    by_cases hlt : k < p
    · obtain ⟨x, hx⟩ : ∃ x, ow[k]? = some x := ⟨_, List.getElem?_eq_getElem (by rw [HH.out.ln]; exact hlt)⟩
      obtain ⟨f, hf⟩ : ∃ f, fits[k]? = some f := ⟨_, List.getElem?_eq_getElem (by rw [HFT.out.ln]; exact hlt)⟩
      have HX := Lib.hid hx
      have HFK := Lib.hid hf
      have h1 := ((HH.out.kept HKR.out).rh k x hx).1
      rw [Nat.zero_add] at h1
      have l1 := cell_lt h1
      have hgd : fits.getD k 0 = f := by simp [hf]
      have HGD := Lib.hid hgd
      clear hx hf hgd
      by_cases hx0 : x = 0
      · subst hx0
        go_wp2_with fail
        go_roundw
        case rel => exact ⟨k + 1, by omega, by go_num, ⟨res, HR.out, HQ.out.keep HX.out (.inr ⟨rfl, .inl rfl⟩)⟩, HKR.out⟩
        case measure => simp [intOf]; omega
      · obtain ⟨hx1, hx2, _⟩ := HMT.out.1.2 k x HX.out hx0
        obtain ⟨o, ho⟩ := Int.eq_ofNat_of_zero_le (a := x) (by omega)
        have hne : (x != 0) = true := by simpa using hx0
        have HO : RowKit.Hid (1 ≤ o ∧ o ≤ 40) := Lib.hid ⟨by omega, by omega⟩
        have RBr := Lib.hid (RB3.out.kept HKR.out)
        have HRG2 : RowKit.Hid (wr.rangeAt w2.heap.size 0 (hrL F p cF cl wt)) := Lib.hid (fun j v hv => by rw [Nat.zero_add]; exact (RBr.out j v hv).1)
        have HXO : RowKit.Hid (x.toNat = o) := Lib.hid (by omega)
        have hct := certain_any F p cF fb fo cl wt fits wr (HFV.out.kept (KV3.out.trans HKR.out)) hw hwb h41 hc0 (HEV.out.kept (KV3.out.trans HKR.out)) k o f hlt HO.out.1 HO.out.2 HFK.out
        rw [show ((o : Nat) : Int) = x from ho.symm] at hct
        have HCT := Lib.hid hct
        have HX0 := Lib.hid hx0
        clear hx0 hx1 hx2 ho hct
        go_wp2_with (first | (refine wpList_load_midW (by first | rfl | (simp [Region.wanted, yielded, Act.put]; exact HX0.out)) 153 (.tmp 11) rfl w2.heap.size 0 rfl (hrL F p cF cl wt) _ HRG2.out Tryz.underlying153 rfl HSZ.out ?_) | fail)
        refine HCT.out.mono ?_
        rintro e w6 ⟨⟨b, rfl, hb1, hb0⟩, hk6⟩
        have HR6 := Lib.hid (HR.out.kept hk6)
        have K6 := Lib.hid (HKR.out.trans hk6)
        have HB1 := Lib.hid hb1
        have HB0 := Lib.hid hb0
        have hl6 := K6.out.size
        have hO := HO.out
        clear hk6 hb1 hb0 h1 l1 HCT
        cases b with
        | false =>
          go_wp2_with fail
          go_roundw
          case rel => exact ⟨k + 1, by omega, by go_num, ⟨res, HR6.out, HQ.out.keep HX.out (.inr ⟨rfl, .inr (by rw [HGD.out, HXO.out]; exact HB0.out trivial)⟩)⟩, K6.out⟩
          case measure => simp [intOf]; omega
        | true =>
          obtain ⟨y, hy⟩ : ∃ y, res[k]? = some y := ⟨_, List.getElem?_eq_getElem (by rw [HR6.out.ln]; exact hlt)⟩
          obtain ⟨g1, g2⟩ := HR6.out.rh k y hy
          rw [Nat.zero_add] at g1 g2
          have lg := cell_lt g1
          clear hy
          go_wp2_with fail
          go_roundw
          case rel => exact ⟨k + 1, by omega, by go_num, ⟨res.set k x, HR6.out.put hlt _, HQ.out.put HX.out (.inl ⟨HX0.out, rfl, by rw [HGD.out, HXO.out]; exact HB1.out trivial⟩)⟩, K6.out.setCell (p := ⟨w3.heap.size, k, none⟩) (Nat.le_refl _) _⟩
          case measure => simp [intOf]; omega
    · obtain rfl : k = p := by omega
      go_wp2_with fail
      go_ret2
      exact ⟨.inr ⟨HEE.out, by rw [HFS.out, HWT.out, HCX.out]; exact .inl ⟨_, ow, res, rfl, HR.out, HMT.out, HQ.out, by have := K3.out.size; omega⟩⟩, K3.out.trans HKR.out⟩
end Go.Proofs.YtologmoanaccpaaGreatDoor

namespace Go.Proofs.YtologmoanaccpaaGreatDoor
set_option linter.all false
open Go.RowKit Go.Shelf

def cmpI (x y : Int) : Int := if x < y then -1 else if y < x then 1 else 0
def cmpL : List Int → List Int → Int
  | [], b => if 0 < b.length then -1 else 0
  | _ :: _, [] => 1
  | x :: a, y :: b => if cmpI x y = 0 then cmpL a b else cmpI x y
def cmpLL (a b : List Int) : Int := fstE [cmpI a.length b.length, cmpL a b]
structure IntR (W : World) (A : Option Addr) (n c : Nat) (xs : List Int) : Prop where
  (ln : xs.length = n) (sz : n ≤ 1000)
  (fa : 0 < n → ∃ b off, A = some ⟨b, off, none⟩ ∧ ∀ j x, xs[j]? = some x → W.cell? ⟨b, off + j, none⟩ = some (.int .i64 x))
theorem IntR.kept {w w' : World} {A : Option Addr} {n c : Nat} {xs : List Int} (h : IntR w A n c xs) (hk : Kept w w') : IntR w' A n c xs :=
  ⟨h.ln, h.sz, fun hn => by
    obtain ⟨b, off, e, ht⟩ := h.fa hn
    exact ⟨b, off, e, fun j x hj => (hk.cells _ _ (cell_lt (ht j x hj))).trans (ht j x hj)⟩⟩
theorem cmpI_zero {x y : Int} (h : cmpI x y = 0) : x = y := by
  unfold cmpI at h
  split at h
  · omega
  · split at h <;> omega
theorem cmpI_self (x : Int) : cmpI x x = 0 := by
  unfold cmpI
  rw [if_neg (by omega), if_neg (by omega)]
theorem cmpL_drop {xs ys : List Int} : ∀ k, k ≤ xs.length → (∀ i x, i < k → xs[i]? = some x → ys[i]? = some x) → cmpL xs ys = cmpL (xs.drop k) (ys.drop k)
  | 0, _, _ => rfl
  | k + 1, hk, h => by
    have ih := cmpL_drop k (by omega) (fun i x hi => h i x (by omega))
    have h1 : xs[k]? = some xs[k] := List.getElem?_eq_getElem (by omega)
    have h2 := h k _ (by omega) h1
    have h3 := (List.getElem?_eq_some_iff.1 h2).1
    have h4 := (List.getElem?_eq_some_iff.1 h2).2
    rw [ih, List.drop_eq_getElem_cons (by omega : k < xs.length), List.drop_eq_getElem_cons h3, h4]
    simp only [cmpL, cmpI_self, if_true]
theorem cmpL_gt {xs ys : List Int} {k : Nat} (hk : k < xs.length) (h : ∀ i x, i < k → xs[i]? = some x → ys[i]? = some x) (hy : ys.length ≤ k) : cmpL xs ys = 1 := by
  rw [cmpL_drop k (by omega) h, List.drop_eq_getElem_cons hk, List.drop_eq_nil_of_le hy]
  rfl
theorem cmpL_at {xs ys : List Int} {k : Nat} {x y : Int} (hx : xs[k]? = some x) (hy : ys[k]? = some y) (h : ∀ i x, i < k → xs[i]? = some x → ys[i]? = some x) (hne : cmpI x y ≠ 0) : cmpL xs ys = cmpI x y := by
  obtain ⟨h1, h2⟩ := List.getElem?_eq_some_iff.1 hx
  obtain ⟨h3, h4⟩ := List.getElem?_eq_some_iff.1 hy
  rw [cmpL_drop k (by omega) h, List.drop_eq_getElem_cons h1, List.drop_eq_getElem_cons h3, h2, h4]
  simp only [cmpL, if_neg hne]
theorem cmpL_end {xs ys : List Int} (h : ∀ i x, i < xs.length → xs[i]? = some x → ys[i]? = some x) : cmpL xs ys = if xs.length < ys.length then -1 else 0 := by
  rw [cmpL_drop xs.length (Nat.le_refl _) h, List.drop_length]
  simp only [cmpL, List.length_drop]
  by_cases hl : xs.length < ys.length
  · rw [if_pos (by omega), if_pos hl]
  · rw [if_neg (by omega), if_neg hl]
theorem isNaN_any (x : Int) (w : World) : Calls Tryz.prog 212 #[.int .i64 x] w fun e w' => e = .returned (.bool false) ∧ w = w' := by
  have h : (x != x) = false := by simp
  go_enter Tryz.func212, Tryz.ntmps212
  go_wp2_with fail
  go_ret
  exact ⟨rfl, rfl⟩
theorem cmpCompare_any (x y : Int) (w : World) : Calls Tryz.prog 174 #[.int .i64 x, .int .i64 y] w fun e w' => e = .returned (.int .i64 (cmpI x y)) ∧ w = w' := by
  go_enter Tryz.func174, Tryz.ntmps174
  go_wp2_with fail
  refine (isNaN_any x w).mono ?_
  rintro e w1 ⟨rfl, rfl⟩
  go_wp2_with fail
  refine (isNaN_any y _).mono ?_
  rintro e w1 ⟨rfl, rfl⟩
  by_cases h1 : x < y
  · go_wp2_with fail
    go_ret
    exact ⟨by unfold cmpI; rw [if_pos (by omega)]; rfl, rfl⟩
  · by_cases h2 : y < x
    · go_wp2_with fail
      go_ret
      exact ⟨by unfold cmpI; rw [if_neg (by omega), if_pos (by omega)]; rfl, rfl⟩
    · go_wp2_with fail
      go_ret
      exact ⟨by unfold cmpI; rw [if_neg (by omega), if_neg (by omega)]; rfl, rfl⟩
set_option maxRecDepth 100000 in
set_option maxHeartbeats 3200000 in
theorem cmpOr_any (b off n c : Nat) (xs : List Int) (hn : xs.length = n) (hb : n ≤ 1000) (w : World) (hc : ∀ j x, xs[j]? = some x → w.cell? ⟨b, off + j, none⟩ = some (.int .i64 x)) :
    Calls Tryz.prog 173 #[.slice (some ⟨b, off, none⟩) n c] w fun e w' => e = .returned (.int .i64 (fstE xs)) ∧ w = w' := by
  have HN := Lib.hid hn
  have HC := Lib.hid hc
  clear hn hc
  go_enter Tryz.func173, Tryz.ntmps173
  go_wp2_with fail
  go_loop [8] (fun i => ∃ k : Nat, k ≤ n ∧ i = .int .i64 k ∧ (∀ j x, j < k → xs[j]? = some x → x = 0)) (fun i => n - (intOf i).toNat)
  case atStart => exact ⟨0, by omega, by first | rfl | go_num, fun j x hj => by omega⟩
  case round =>
    obtain ⟨k, hk, rfl, ho⟩ := hrel
    have Ho := Lib.hid ho
    clear ho
    by_cases hlt : k < n
    · obtain ⟨x, hx⟩ : ∃ x, xs[k]? = some x := ⟨_, List.getElem?_eq_getElem (by rw [HN.out]; exact hlt)⟩
      have c0 := HC.out k x hx
      have Hx := Lib.hid hx
      clear hx
      by_cases hz : x = 0
      · subst hz
        go_wp2
        go_round
        case rel =>
          refine ⟨k + 1, by omega, by go_num, fun j y hj hy => ?_⟩
          rcases Nat.lt_or_eq_of_le (Nat.le_of_lt_succ hj) with h | h
          · exact Ho.out j y h hy
          · subst h
            have := Hx.out
            rw [hy] at this
            cases this
            rfl
        case measure => simp [intOf]; omega
      · have hne : (x != 0) = true := by simpa using hz
        have HZ := Lib.hid hz
        clear hz
        go_wp2
        go_ret
        exact ⟨ret_int (fstE_at xs k x Hx.out HZ.out Ho.out).symm, rfl⟩
    · obtain rfl : k = n := by omega
      go_wp2
      go_ret
      exact ⟨ret_int (fstE_zero xs (fun j y hy => Ho.out j y (by rw [← HN.out]; exact (List.getElem?_eq_some_iff.1 hy).1) hy)).symm, rfl⟩
set_option maxRecDepth 100000 in
set_option maxHeartbeats 3200000 in
theorem slicesCompare_any (A B : Option Addr) (n c m d : Nat) (xs ys : List Int) (w : World) (hx : IntR w A n c xs) (hy : IntR w B m d ys) :
    Calls Tryz.prog 175 #[.slice A n c, .slice B m d] w fun e w' => e = .returned (.int .i64 (cmpL xs ys)) ∧ w = w' := by
  have HX := Lib.hid hx
  have HY := Lib.hid hy
  have hn := hx.sz
  have hm := hy.sz
  have HC : RowKit.Hid (∀ x y W, Calls Tryz.prog 174 #[.int .i64 x, .int .i64 y] W fun e w' => e = .returned (.int .i64 (cmpI x y)) ∧ W = w') := Lib.hid (fun x y W => cmpCompare_any x y W)
  clear hx hy
  go_enter Tryz.func175, Tryz.ntmps175
  go_wp2_with fail
  go_loop [11] (fun i => ∃ k : Nat, k ≤ n ∧ i = .int .i64 k ∧ (∀ j x, j < k → xs[j]? = some x → ys[j]? = some x)) (fun i => n - (intOf i).toNat)
  case atStart => exact ⟨0, by omega, by first | rfl | go_num, fun j x hj => by omega⟩
  case round =>
    obtain ⟨k, hk, rfl, ho⟩ := hrel
    have Ho := Lib.hid ho
    clear ho
    by_cases hlt : k < n
    · obtain ⟨x, hx⟩ : ∃ x, xs[k]? = some x := ⟨_, List.getElem?_eq_getElem (by rw [HX.out.ln]; exact hlt)⟩
      obtain ⟨b, off, hA, ht⟩ := HX.out.fa (by omega)
      subst hA
      have c0 := ht k x hx
      have Hx := Lib.hid hx
      clear hx ht
      by_cases hk2 : k < m
      · obtain ⟨y, hy⟩ : ∃ y, ys[k]? = some y := ⟨_, List.getElem?_eq_getElem (by rw [HY.out.ln]; exact hk2)⟩
        obtain ⟨b2, off2, hB, ht2⟩ := HY.out.fa (by omega)
        subst hB
        have c1 := ht2 k y hy
        have Hy := Lib.hid hy
        clear hy ht2
        go_wp2_with fail
        refine (HC.out x y w).mono ?_
        rintro e w1 ⟨rfl, rfl⟩
        obtain ⟨z, hz⟩ : ∃ z, cmpI x y = z := ⟨_, rfl⟩
        rw [hz]
        have HZ := Lib.hid hz
        clear hz
        by_cases h0 : z = 0
        · subst h0
          go_wp2_with fail
          go_round
          case rel =>
            refine ⟨k + 1, by omega, by go_num, fun j u hj hu => ?_⟩
            rcases Nat.lt_or_eq_of_le (Nat.le_of_lt_succ hj) with h | h
            · exact Ho.out j u h hu
            · subst h
              have := Hx.out
              rw [hu] at this
              cases this
              rw [cmpI_zero HZ.out]
              exact Hy.out
          case measure => simp [intOf]; omega
        · have hne : (z != 0) = true := by simpa using h0
          have H0 := Lib.hid h0
          clear h0
          go_wp2_with fail
          go_ret
          exact ⟨ret_int (by rw [cmpL_at Hx.out Hy.out Ho.out (by rw [HZ.out]; exact H0.out), HZ.out]), rfl⟩
      · go_wp2_with fail
        go_ret
        exact ⟨ret_int (cmpL_gt (by rw [HX.out.ln]; exact hlt) Ho.out (by rw [HY.out.ln]; omega)).symm, rfl⟩
    · obtain rfl : k = n := by omega
      have he : cmpL xs ys = if k < m then -1 else 0 := by
        rw [cmpL_end (fun j x hj hx => Ho.out j x (by rw [← HX.out.ln]; exact hj) hx), HX.out.ln, HY.out.ln]
      have HEE := Lib.hid he
      clear he
      by_cases h3 : k < m
      · go_wp2_with fail
        go_ret
        exact ⟨by rw [HEE.out, if_pos (by omega)]; rfl, rfl⟩
      · go_wp2_with fail
        go_ret
        exact ⟨by rw [HEE.out, if_neg (by omega)]; rfl, rfl⟩
theorem compareLists_any (A B : Option Addr) (n c m d : Nat) (xs ys : List Int) (w : World) (hx : IntR w A n c xs) (hy : IntR w B m d ys) :
    Calls Tryz.prog 112 #[.slice A n c, .slice B m d] w fun e w' => e = .returned (.int .i64 (cmpLL xs ys)) ∧ Kept w w' := by
  obtain ⟨z1, hz1⟩ : ∃ z, cmpI (n : Int) (m : Int) = z := ⟨_, rfl⟩
  obtain ⟨z2, hz2⟩ : ∃ z, cmpL xs ys = z := ⟨_, rfl⟩
  have h1 := cmpCompare_any (n : Int) (m : Int) w
  have h2 := slicesCompare_any A B n c m d xs ys w hx hy
  rw [hz1] at h1
  rw [hz2] at h2
  have HH : RowKit.Hid (cmpLL xs ys = fstE [z1, z2]) := Lib.hid (by unfold cmpLL; rw [hx.ln, hy.ln, hz1, hz2])
  have H1 := Lib.hid h1
  have H2 := Lib.hid h2
  have H3 : RowKit.Hid (∀ W g, RowC W g [.int .i64 z1, .int .i64 z2] → Calls Tryz.prog 173 #[.slice (some ⟨g, 0, none⟩) 2 2] W fun e w' => e = .returned (.int .i64 (fstE [z1, z2])) ∧ W = w') := Lib.hid (fun W g hr => cmpOr_any g 0 2 2 [z1, z2] rfl (by omega) W (fun j x hj => by rw [Nat.zero_add]; exact (hr j (.int .i64 x) (by
    match j, hj with
    | 0, hj => simpa using hj
    | 1, hj => simpa using hj
    | j + 2, hj => simp at hj)).1))
  clear hx hy hz1 hz2 h1 h2
  go_enter Tryz.func112, Tryz.ntmps112
  go_wp2_with fail
  refine H1.out.mono ?_
  rintro e w1 ⟨rfl, rfl⟩
  go_wp2_with fail
  refine H2.out.mono ?_
  rintro e w1 ⟨rfl, rfl⟩
  go_wp2_with fail
  refine (H3.out _ _ (RowC.new _ _ _)).mono ?_
  rintro e w3 ⟨rfl, rfl⟩
  go_wp2_with fail
  go_ret
  exact ⟨by rw [HH.out]; rfl, (Kept.refl _).alloc _⟩
end Go.Proofs.YtologmoanaccpaaGreatDoor

namespace Go.Proofs.YtologmoanaccpaaGreatDoor
set_option linter.all false
open Go.RowKit Go.Shelf

theorem land_div (a b : Nat) : (a &&& b) / 2 = (a / 2) &&& (b / 2) := by
  apply Nat.eq_of_testBit_eq
  intro i
  rw [Nat.testBit_and, ← Nat.testBit_succ, ← Nat.testBit_succ, ← Nat.testBit_succ, Nat.testBit_and]
theorem land_mod (a b : Nat) : (a &&& b) % 2 = 1 ↔ a % 2 = 1 ∧ b % 2 = 1 := by
  have h := Nat.testBit_and a b 0
  simp only [Nat.testBit_zero] at h
  by_cases h1 : a % 2 = 1 <;> by_cases h2 : b % 2 = 1 <;> simp [h1, h2] at h ⊢ <;> omega
theorem land_eq (a b : Nat) : a &&& b = 2 * ((a / 2) &&& (b / 2)) + (a &&& b) % 2 := by
  rw [← land_div]; omega
/-- the greatest part below a part -/
theorem part_pred (s : Nat) : ∀ (r y : Nat), r ≠ 0 → r &&& s = r → y &&& s = y → y < r → y ≤ (r - 1) &&& s := by
  induction s using Nat.strongRecOn with
  | _ s ih =>
    intro r y hr h1 h2 h3
    have hs0 : s ≠ 0 := by rintro rfl; rw [Nat.and_zero] at h1; exact hr h1.symm
    have e1 : (r / 2) &&& (s / 2) = r / 2 := by rw [← land_div, h1]
    have e2 : (y / 2) &&& (s / 2) = y / 2 := by rw [← land_div, h2]
    have m1 := land_mod r s
    have m2 := land_mod y s
    have m3 := land_mod (r - 1) s
    have l3 := land_eq (r - 1) s
    rw [h1] at m1
    rw [h2] at m2
    by_cases hb : r % 2 = 1
    · have : (r - 1) / 2 = r / 2 := by omega
      rw [this, e1] at l3
      omega
    · have hr2 : r / 2 ≠ 0 := by omega
      have : (r - 1) / 2 = r / 2 - 1 := by omega
      rw [this] at l3
      have h4 : y / 2 < r / 2 := by omega
      have := ih (s / 2) (by omega) (r / 2) (y / 2) hr2 e1 e2 h4
      by_cases hy : y % 2 = 1
      · have : s % 2 = 1 := by have := m2.1 hy; exact this.2
        have : ((r - 1) &&& s) % 2 = 1 := m3.2 ⟨by omega, this⟩
        omega
      · omega
abbrev PS (s : Nat) : Type := {x : Nat // x ≠ 0 ∧ x &&& s = x}
def KpP (n0 bp : Nat) (W W' : World) : Prop := Below n0 W W' ∧ (bp < W.heap.size → W'.heap[bp]? = W.heap[bp]?)
theorem KpP.trans {n0 bp : Nat} {A B C : World} (h : KpP n0 bp A B) (k : KpP n0 bp B C) : KpP n0 bp A C :=
  ⟨h.1.trans k.1, fun hb => (k.2 (Nat.lt_of_lt_of_le hb h.1.size)).trans (h.2 hb)⟩
theorem parts_any (s : Nat) (w : World) :
    Calls Tryz.prog 119 #[.int .u64 s] w fun e w' => e = .returned (.func (.func 177) #[] #[.pointer (some ⟨w.heap.size, 0, none⟩)]) ∧ w' = w.alloc (.cells #[.int .u64 s] 117) := by
  have hmf : ∀ (fn : Fn) (first cap : Array Value) (w : World), (Instr.makeFunc fn first cap).run Tryz.prog w = .ok (.func fn first cap) w := fun _ _ _ _ => rfl
  go_enter Tryz.func119, Tryz.ntmps119
  go_wp2
  go_ret
  exact ⟨rfl, rfl⟩
set_option maxRecDepth 100000 in
set_option maxHeartbeats 2000000 in
theorem parts1 (n : Nat) (hn : 1 ≤ n) (l bp : Nat) (s : Nat) (hs : s < 2 ^ 64) (n0 : Nat)
    (J Jx : List (PS s) → World → Prop) (W : World) (hl : W.cell? ⟨bp, 0, none⟩ = some (.int .u64 s))
    (hY : ∀ pre (x : PS s) W1, J pre W1 → pre.length < s → YieldAt Fence.wide (n - 1) Tryz.prog l #[.int .u64 (x.1 : Nat)] W1 fun e W' =>
      (e = .returned (.bool true) ∧ J (pre ++ [x]) W' ∧ KpP n0 bp W1 W') ∨ (e = .returned (.bool false) ∧ Jx (pre ++ [x]) W'))
    (h0 : J [] W) :
    CallsIn Fence.wide n Tryz.prog 177 #[.func (.yield l) #[] #[], .pointer (some ⟨bp, 0, none⟩)] W fun e W' => (∃ v, e = .returned v) ∧
      ((∃ ys, (∀ x : PS s, x ∈ ys) ∧ J ys W') ∨ (∃ pre, True ∧ Jx pre W')) := by
  have HY := Lib.hid hY
  have Hl := Lib.hid hl
  have hbp := cell_lt hl
  have g1 : W.cell? ⟨bp, 0, none⟩ = some (.int .u64 s) := Hl.out
  clear hY hl
  have hs6 : s < 18446744073709551616 := by simpa using hs
  refine callsIn_of_wp Tryz.func177 rfl trivial ?_ rfl
  simp only [Tryz.ntmps177, List.size_toArray, List.length_cons, List.length_nil, Nat.reduceAdd, Nat.reduceSub, Array.replicate_succ, Array.replicate_zero, List.push_toArray, List.append_toArray, List.nil_append, List.cons_append]
  gi_wp2
  clear g1
  gi_loopw [3] (fun v w1 => ∃ (r : Nat) (pre : List (PS s)), v = .int .u64 r ∧ r &&& s = r ∧ pre.length + r ≤ s ∧ (∀ x : PS s, r < x.1 → x ∈ pre) ∧ w1.cell? ⟨bp, 0, none⟩ = some (.int .u64 s) ∧ J pre w1) (fun v _ => (intOf v).toNat)
  case atStart =>
    refine ⟨s, [], by first | rfl | go_num, Nat.and_self s, by simp, fun x hx => ?_, Hl.out, h0⟩
    have h1 := x.2.2
    have h2 : x.1 &&& s ≤ s := Nat.and_le_right
    omega
  case round =>
    obtain ⟨r, pre, rfl, hrs, hlen, hall, hc1, hJ1⟩ := hrel
    by_cases hr0 : r = 0
    · subst hr0
      have HALL := Lib.hid hall
      clear hall
      gi_wp2
      go_end0
      exact ⟨⟨_, rfl⟩, .inl ⟨_, fun x => HALL.out x (by have := x.2.1; omega), hJ1⟩⟩
    · have hr6 : r < 18446744073709551616 := by omega
      have hsub : IntKind.u64.wrap ((r : Int) - 1) = ((r - 1 : Nat) : Int) := by
        rw [IntKind.wrap_u64]
        have : (2 : Nat) ^ 64 = 18446744073709551616 := by decide
        omega
      have hr7 : r - 1 < 18446744073709551616 := by omega
      have hand : bits BinOp.and IntKind.u64 ((r - 1 : Nat) : Int) (s : Int) = (((r - 1) &&& s : Nat) : Int) := bits_and_u64_nat (r - 1) s hr7 hs6
      clear hr7
      have hne : ((r : Int) == 0) = false := by simp; omega
      have HR0 := Lib.hid hr0
      have HRS := Lib.hid hrs
      have HALL := Lib.hid hall
      have hle : (r - 1) &&& s ≤ r - 1 := Nat.and_le_left
      obtain ⟨fn, tmps, assign, body, hy, hR⟩ := HY.out pre ⟨r, hr0, hrs⟩ wr hJ1 (by omega)
      have HRR := Lib.hid hR
      obtain ⟨r2, hr2⟩ : ∃ r2, r2 = (r - 1) &&& s := ⟨_, rfl⟩
      rw [← hr2] at hand hle
      have HR2 := Lib.hid hr2
      have HC1 := Lib.hid hc1
      have hb1 := cell_lt hc1
      clear hall hr2 hR hc1
      obtain ⟨r1, hr1⟩ : ∃ r1 : Nat, r1 = r - 1 := ⟨_, rfl⟩
      rw [← hr1] at hand hsub
      clear hr1
      gi_wp2_with fail
      refine HRR.out.mono ?_
      rintro e W3 (⟨rfl, hJ3, hk3⟩ | ⟨rfl, hJx3⟩)
      · have hc3 : W3.cell? ⟨bp, 0, none⟩ = some (.int .u64 s) := (World.cell?_of_block (w := wr) (hk3.2 hb1)).trans HC1.out
        have l3 := cell_lt hc3
        gi_wp2
        go_roundw
        case rel =>
          refine ⟨r2, pre ++ [⟨r, HR0.out, HRS.out⟩], by go_num, ?_, by simp; omega, fun x hx => ?_, hc3, hJ3⟩
          · rw [HR2.out, Nat.and_assoc, Nat.and_self]
          · rw [List.mem_append, List.mem_singleton]
            by_cases h1 : r < x.1
            · exact .inl (HALL.out x h1)
            · by_cases h2 : x.1 < r
              · have := part_pred s r x.1 HR0.out HRS.out x.2.2 h2
                rw [← HR2.out] at this
                omega
              · exact .inr (Subtype.ext (show x.1 = r by omega))
        case measure => simp [intOf]; omega
      · gi_wp2
        refine bodyPost_ret (results_none rfl _ _ _) rfl ?_
        exact ⟨⟨_, rfl⟩, .inr ⟨_, trivial, hJx3⟩⟩
theorem parts_stops (n : Nat) (hn : 1 ≤ n) (bp : Nat) (s : Nat) (hs : s < 2 ^ 64) (n0 : Nat) (w : World) (hl : w.cell? ⟨bp, 0, none⟩ = some (.int .u64 s)) :
    SeqStopsK Fence.wide n Tryz.prog 177 #[.pointer (some ⟨bp, 0, none⟩)] (fun x : PS s => #[.int .u64 (x.1 : Int)]) (KpP n0 bp) (fun ys => ∀ x : PS s, x ∈ ys) (fun _ => True) s w :=
  fun l J Jx W hW hJ hJx hY h0 => parts1 n hn l bp s hs n0 J Jx W (((show Kept w W from hW).cells _ _ (cell_lt hl)).trans hl) hY h0
end Go.Proofs.YtologmoanaccpaaGreatDoor

namespace Go.Proofs.YtologmoanaccpaaGreatDoor
set_option linter.all false
open Go.RowKit Go.Shelf
attribute [local go_sem] Oper.semAt_some

def wsum (wt : List Int) (l : List Nat) : Int := (l.map (wq wt)).sum
def cntF (fits : List Nat) (p k : Nat) : Nat := (fits.take k).countP fun f => f &&& p != 0
def shB (fits : List Nat) (wt : List Int) (p : Nat) : Bool := decide (0 < wsum wt (bitsK p 64) - (cntF fits p fits.length : Nat))
theorem wsum_bd {wt : List Int} (h : ∀ o, 0 ≤ wq wt o ∧ wq wt o ≤ 60) : ∀ l : List Nat, 0 ≤ wsum wt l ∧ wsum wt l ≤ 60 * l.length
  | [] => by simp [wsum]
  | x :: l => by
    have ih := wsum_bd h l
    have hx := h x
    have e : wsum wt (x :: l) = wq wt x + wsum wt l := by simp [wsum]
    rw [e, List.length_cons]
    omega
theorem wsum_snoc (wt : List Int) (l : List Nat) (x : Nat) : wsum wt (l ++ [x]) = wsum wt l + wq wt x := by simp [wsum]
theorem cntF_le (fits : List Nat) (p k : Nat) : cntF fits p k ≤ k := by
  unfold cntF
  exact Nat.le_trans List.countP_le_length (by rw [List.length_take]; exact Nat.min_le_left _ _)
theorem cntF_succ {fits : List Nat} {p k f : Nat} (h : fits[k]? = some f) : cntF fits p (k + 1) = cntF fits p k + if (f &&& p != 0) = true then 1 else 0 := by
  unfold cntF
  rw [take_snoc' h, List.countP_append, List.countP_singleton]
def SrI (w : World) (hL : List Value) (wt : List Int) (p : Nat) (pre : List {x : Nat // p.testBit x = true}) (W : World) : Prop :=
  RowC W w.heap.size hL ∧ RowC W (w.heap.size + 1) [.int .i64 (wsum wt (pre.map (·.1)))] ∧ Kept w W
theorem SrI.own (w : World) (hL : List Value) (wt : List Int) (p B : Nat) (hB : w.heap.size ≤ B) : OwnFrom B (SrI w hL wt p) := by
  rintro pre W W' row ⟨h1, h2, h3⟩ hg hr
  exact ⟨own_rowc hg hr h1, own_rowc hg hr h2, h3.below.grown hg h3.size (fun k e => Nat.le_trans hB (hr k e).1)⟩
set_option maxRecDepth 100000 in
set_option maxHeartbeats 3200000 in
theorem short_any (F : Option Addr) (nb cF fb fo cl : Nat) (wt : List Int) (fits : List Nat) (w : World) (hf : FitR w F nb cF fb fo fits) (hw : wt.length = 41) (hwb : ∀ o, 0 ≤ wq wt o ∧ wq wt o ≤ 60) (p : Nat) (hp : p < 2 ^ 41) (hE : EnvT w) :
    Calls Tryz.prog 120 #[.agg (hrL F nb cF cl wt).toArray, .int .u64 (p : Int)] w fun e w' => e = .returned (.bool (shB fits wt p)) ∧ Kept w w' := by
  have HF := Lib.hid hf
  have h60 := hf.sz
  have hcf := hf.nc
  have hcm := hf.cm
  obtain ⟨W1, hW1⟩ : ∃ W1, W1 = w.alloc (.cells (hrL F nb cF cl wt).toArray 153) := ⟨_, rfl⟩
  have k1 : Kept w W1 := by rw [hW1]; exact (Kept.refl w).alloc _
  have z1 : W1.heap.size = w.heap.size + 1 := by rw [hW1]; simp
  have r1 : RowC W1 w.heap.size (hrL F nb cF cl wt) := by rw [hW1]; exact RowC.new w _ 153
  have HR1 := Lib.hid r1
  have HW1 := Lib.hid hW1
  have HK1 := Lib.hid k1
  have HE := Lib.hid hE
  have HWB := Lib.hid hwb
  clear hf hW1 k1 r1 hE hwb
  refine (callsIn_wide (n := 8)).1 ?_
  refine callsIn_of_wp_marks Tryz.func120 rfl trivial ?_ rfl
  simp only [Tryz.ntmps120, List.size_toArray, List.length_cons, List.length_nil, Nat.reduceAdd, Nat.reduceSub, Array.replicate_succ, Array.replicate_zero, List.push_toArray, List.append_toArray, List.nil_append, List.cons_append]
  refine wpIn_wide.2 ?_
  go_upto_region 1 with (fail)
  rw [← HW1.out]
  go_upto_region 2 with (fail)
  obtain ⟨W2, hW2⟩ : ∃ W2, W2 = W1.alloc (.cells #[.int .i64 0] 3) := ⟨_, rfl⟩
  have k2 : Kept W1 W2 := by rw [hW2]; exact (Kept.refl _).alloc _
  have z2 : W2.heap.size = w.heap.size + 1 + 1 := by rw [hW2]; simp [z1]
  have r2 : RowC W2 (w.heap.size + 1) [.int .i64 0] := by rw [hW2, ← z1]; exact RowC.new W1 _ 3
  rw [← hW2]
  have HR2 := Lib.hid r2
  have HK2 := Lib.hid (HK1.out.trans k2)
  have HR12 := Lib.hid (HR1.out.kept k2)
  clear hW2 r2 k2
  go_wp2_with fail
  refine (each_any p W2).mono ?_
  rintro e w6 ⟨rfl, rfl⟩
  rw [z2]
  obtain ⟨W6, hW6⟩ : ∃ W6, W6 = W2.alloc (.cells #[.int .u64 p] 117) := ⟨_, rfl⟩
  rw [← hW6]
  have k6 : Kept W2 W6 := by rw [hW6]; exact (Kept.refl _).alloc _
  have z6 : W6.heap.size = w.heap.size + 1 + 1 + 1 := by rw [hW6]; simp [z2]
  have c6 : W6.cell? ⟨w.heap.size + 1 + 1, 0, none⟩ = some (.int .u64 p) := by
    rw [hW6, ← z2]; exact (RowC.new W2 [.int .u64 p] 117 0 _ rfl).1
  have k06 : Kept w W6 := HK2.out.trans k6
  have hI0 : SrI w (hrL F nb cF cl wt) wt p [] W6 := ⟨HR12.out.kept k6, HR2.out.kept k6, k06⟩
  have hseq := each_stopsS 7 (by omega) (w.heap.size + 1 + 1) p (by omega) w HE.out W6 k06 c6
  have HK6 := Lib.hid k06
  have Z6 := Lib.hid z6
  clear hW6 k6 c6 k06 z1 z2 z6
  go_wp2_with fail
  refine (wpIn_wide (n := 8)).1 ?_
  refine wpIn_rangeFunc_ownH rfl (by omega) (gf := 200) (lb := #[.pointer (some ⟨w.heap.size + 1 + 1, 0, none⟩)]) rfl trivial (enters_of Tryz.func200 (by kernel_rfl) rfl)
    hseq KpB.trans (KpB.put HK6.out.size) (Below.refl _ _) (fun _ => rfl)
    (SrI w (hrL F nb cF cl wt) wt p) (fun _ _ _ => False) (SrI.own _ _ _ _ _ HK6.out.size) (fun c => fun _ _ _ _ h _ _ => h) hI0
    (fun x a' _ => a' = { tmps := #[.agg (hrL F nb cF cl wt).toArray, .int .u64 (p : Int), .pointer (some ⟨w.heap.size, 0, none⟩), undef, .bool false, .pointer (some ⟨w.heap.size + 1, 0, none⟩), .int .i64 (x.1 : Int), undef, undef, .int .u64 (p : Int), .func (.func 200) #[] #[.pointer (some ⟨w.heap.size + 1 + 1, 0, none⟩)], .int .i64 (x.1 : Int), undef, undef, undef, undef, undef, undef, undef, undef, undef, undef, undef, undef, undef, undef, undef, undef, undef, undef, undef, undef, undef, undef], defers := [] }) (fun x a' => fun s W W' row h hg hr => h) ?assign ?body ?done ?stop
  case assign =>
    intro l pre x V K hi hK
    gi_wp2
    exact hK _ _ (KeepsFrom.refl _ _) (Below.refl _ _) hi rfl
  case body =>
    rintro l pre ⟨o, hob⟩ a' V hl2 - ⟨r1, r2, r3⟩ rfl hlt2
    have ho2 : o ≤ 40 := by
      rcases Nat.lt_or_ge o 41 with h1 | h1
      · omega
      · rw [Nat.testBit_lt_two_pow (Nat.lt_of_lt_of_le hp (Nat.pow_le_pow_right (by omega) h1))] at hob; cases hob
    obtain ⟨x, hx⟩ : ∃ x, wq wt o = x := ⟨_, rfl⟩
    have hxb := HWB.out o
    have hwx : (hrL F nb cF cl wt)[2 + o]? = some (.int .i64 x) := by
      have h1 : wt[o]? = some x := by
        rw [← hx]
        unfold wq
        rw [List.getD_eq_getElem?_getD, List.getElem?_eq_getElem (by omega)]
        rfl
      unfold hrL
      rw [show 2 + o = o + 1 + 1 by omega, List.getElem?_cons_succ, List.getElem?_cons_succ, List.getElem?_map, h1]
      rfl
    have q1 := (r1 (2 + o) _ hwx).1
    obtain ⟨S, hS⟩ : ∃ S, wsum wt (pre.map (·.1)) = S := ⟨_, rfl⟩
    have hSb := wsum_bd HWB.out (pre.map (·.1))
    rw [hS, List.length_map] at hSb
    have hpl : pre.length ≤ 64 := by
      have h1 := bitsS_len p 64
      have h2 := bitsK_len p 64
      omega
    obtain ⟨t1, t2⟩ := r2 0 _ rfl
    rw [hS] at t1
    rw [hx] at hxb
    have hwrap : IntKind.i64.wrap (S + x) = S + x := by rw [IntKind.wrap_i64]; omega
    have HR1 := Lib.hid r1
    have HR2 := Lib.hid r2
    have HR3 := Lib.hid r3
    have HX := Lib.hid hx
    have HS := Lib.hid hS
    have l1 := cell_lt q1
    have l2 := cell_lt t1
    have hlo := r3.size
    clear r1 r2 r3 hI0 hseq hx hS hwx
    have hz6 := Z6.out
    have HFIN : RowKit.Hid (KeepsFrom W6.heap.size V (V.setCell ⟨w.heap.size + 1, 0, none⟩ (.int .i64 (S + x))).drew ∧ Below w.heap.size V (V.setCell ⟨w.heap.size + 1, 0, none⟩ (.int .i64 (S + x))).drew ∧ SrI w (hrL F nb cF cl wt) wt p (pre ++ [⟨o, hob⟩]) (V.setCell ⟨w.heap.size + 1, 0, none⟩ (.int .i64 (S + x))).drew) := Lib.hid (by
      have kd := (Kept.refl (V.setCell ⟨w.heap.size + 1, 0, none⟩ (.int .i64 (S + x)))).drew
      refine ⟨((KeepsOthers.setCell _ _ _).trans (KeepsOthers.drew _)).from _, ((Below.refl _ _).setCell (p := ⟨w.heap.size + 1, 0, none⟩) (by dsimp only; omega) _).drew, (HR1.out.far (by omega) _).kept kd, ?_, (HR3.out.setCell (p := ⟨w.heap.size + 1, 0, none⟩) (by dsimp only; omega) _).drew⟩
      rw [List.map_append, List.map_cons, List.map_nil, wsum_snoc, HS.out, HX.out]
      exact (HR2.out.put (j := 0) (by simp) (.int .i64 (S + x))).kept kd)
    gi_upto_region 4 with (fail)
    gi_region_with fail
    all_goals gi_wp2
    all_goals exact HFIN.out
  case done =>
    rintro D ys V hD rfl ⟨r1, r2, r3⟩ hK
    rw [bitsS_map] at r2
    obtain ⟨S, hS⟩ : ∃ S, wsum wt (bitsK p 64) = S := ⟨_, rfl⟩
    have hSb := wsum_bd HWB.out (bitsK p 64)
    have hSl := bitsK_len p 64
    rw [hS] at hSb r2
    have HS := Lib.hid hS
    have HK := Lib.hid hK
    have HR1 := Lib.hid r1
    have HR2 := Lib.hid r2
    have HR3 := Lib.hid r3
    have q0 := (r1 0 _ rfl).1
    have l0 := cell_lt q0
    clear r1 r2 r3 hK hI0 hseq hS
    go_wp2_with fail
    go_loopw [21] (fun i wr => ∃ k : Nat, k ≤ nb ∧ i = .int .i64 k ∧ RowC wr (w.heap.size + 1) [.int .i64 (S - (cntF fits p k : Nat))] ∧ Kept w wr ∧ wr.heap[D]? = some (.deferred (some []))) (fun i _ => nb - (intOf i).toNat)
    case atStart => exact ⟨0, by omega, by first | rfl | go_num, by simpa [cntF] using HR2.out, HR3.out, HK.out⟩
    case round =>
      obtain ⟨k, hk, rfl, hr, hkr, hkd⟩ := hrel
      have HR := Lib.hid hr
      have HKR := Lib.hid hkr
      have HKD := Lib.hid hkd
      have hc := cntF_le fits p k
      obtain ⟨C, hC⟩ : ∃ C, cntF fits p k = C := ⟨_, rfl⟩
      rw [hC] at hc hr
      have HC := Lib.hid hC
      obtain ⟨t1, t2⟩ := hr 0 _ rfl
      have l1 := cell_lt t1
      have hz6 := Z6.out
      clear hr hkr hkd q0 l0
      by_cases hlt : k < nb
      · obtain ⟨f, hf⟩ : ∃ f, fits[k]? = some f := ⟨_, List.getElem?_eq_getElem (by rw [HF.out.ln]; exact hlt)⟩
        obtain rfl : F = some ⟨fb, fo, none⟩ := HF.out.fa (by omega)
        have c0 := (HF.out.kept HKR.out).rf k f hf
        have lc := cell_lt c0
        have hf64 : f < 18446744073709551616 := by simpa using HF.out.fs f (List.mem_of_getElem? hf)
        have hp64 : p < 18446744073709551616 := by omega
        obtain ⟨g, hg⟩ : ∃ g, g = f &&& p := ⟨_, rfl⟩
        have hand : bits BinOp.and IntKind.u64 (f : Int) (p : Int) = ((g : Nat) : Int) := by rw [hg]; exact bits_and_u64_nat f p hf64 hp64
        have HFK := Lib.hid (cntF_succ (p := p) hf)
        have HG := Lib.hid hg
        clear hf hg hf64 hp64
        by_cases hg0 : g = 0
        · subst hg0
          go_wp2_with fail
          go_roundw
          case rel =>
            refine ⟨k + 1, by omega, by go_num, ?_, HKR.out, HKD.out⟩
            rw [HFK.out, ← HG.out]
            exact HR.out
          case measure => simp [intOf]; omega
        · have hne : ((g : Int) == 0) = false := by simp; omega
          have hwrap : IntKind.i64.wrap (S - (C : Int) - 1) = S - (C : Int) - 1 := IntWalk.i64_in _ (by omega)
          have HG0 := Lib.hid hg0
          clear hg0
          go_wp2_with fail
          go_roundw
          case rel =>
            refine ⟨k + 1, by omega, by go_num, ?_, HKR.out.setCell (p := ⟨w.heap.size + 1, 0, none⟩) (by dsimp only; omega) _, (heap_set (by dsimp only; omega)).trans HKD.out⟩
            rw [HFK.out, ← HG.out, if_pos (by simpa using HG0.out), HC.out]
            have h := HR.out.put (j := 0) (by simp) (.int .i64 (S - (C : Int) - 1))
            rw [show ((C + 1 : Nat) : Int) = (C : Int) + 1 by omega, show S - ((C : Int) + 1) = S - (C : Int) - 1 by omega]
            exact h
          case measure => simp [intOf]; omega
      · obtain rfl : k = nb := by omega
        go_wp2_with fail
        have hpb : ∀ b, b ≠ D → (wr.putObj D (.deferred none)).heap[b]? = wr.heap[b]? := fun b hb => World.putObj_heap_other (by omega)
        refine ⟨by simp, .inl ⟨_, _, rfl, run_takeDeferred HKD.out, ?_⟩⟩
        refine ⟨_, results_tmp rfl _ _ _, ?_, HKR.out.putDeferred (by have := HK6.out.size; omega) HKD.out rfl rfl⟩
        unfold shB
        rw [HS.out, HF.out.ln, HC.out, show decide (0 < S - (C : Int)) = decide ((C : Int) < S) by simp]
        rfl
  case stop =>
    rintro D c pre V hD hp9 hX hK
    exact absurd hX (by simp)
end Go.Proofs.YtologmoanaccpaaGreatDoor
