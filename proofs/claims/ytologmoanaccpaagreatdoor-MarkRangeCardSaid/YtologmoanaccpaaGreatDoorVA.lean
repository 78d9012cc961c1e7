/-
  math of MarkMore and MarkNobody: what one more mark or fade changes
  the law's helper in 69
  a copy in a region that draws its order; own rows as slices
-/
import Derived.Test.YtologmoanaccpaaGreatDoorYD
import Derived.Test.YtologmoanaccpaaGreatDoorBI
import Derived.Test.YtologmoanaccpaaGreatDoorBM
import Derived.Test.YtologmoanaccpaaGreatDoorBH
import Derived.Test.YtologmoanaccpaaGreatDoorZG
import Derived.Deep.AppendLies
import Derived.OneCell
namespace Go.Proofs.YtologmoanaccpaaGreatDoor
set_option linter.all false

theorem lkF_mono {fs : List Fd} {f : Fd} {p s v : Nat} (h : (lkF fs p s).testBit v = true) : (lkF (fs ++ [f]) p s).testBit v = true := by
  unfold lkF at h ⊢
  by_cases hp : p < 2
  · rw [if_pos hp] at h ⊢; exact h
  · rw [if_neg hp] at h ⊢
    rw [lkG_snoc]
    split
    · rw [Nat.testBit_or, h]; rfl
    · exact h
theorem fitB_mono {fs : List Fd} {f : Fd} {a s : Sg} (h : fitB fs a s = true) : fitB (fs ++ [f]) a s = true := by
  unfold fitB at h ⊢
  rw [List.all_eq_true] at h ⊢
  intro p hp
  have := h p hp
  unfold fit1 at this ⊢
  rw [Bool.or_eq_true] at this ⊢
  exact this.imp id lkF_mono
theorem apB_iff {fs : List Fd} {a c : Sg} {k : Nat} : apB fs a c k = false ↔ ∃ v, (lkX fs (k * 5 + (a.l.getD k 0).toNat)).testBit v = true ∧ (lkX fs (k * 5 + (c.l.getD k 0).toNat)).testBit v = true := by
  unfold apB bothN
  constructor
  · intro h
    obtain ⟨v, hv⟩ := Nat.exists_testBit_of_ne_zero (by simpa using h : lkX fs (k * 5 + (a.l.getD k 0).toNat) &&& lkX fs (k * 5 + (c.l.getD k 0).toNat) ≠ 0)
    rw [Nat.testBit_and, Bool.and_eq_true] at hv
    exact ⟨v, hv⟩
  · rintro ⟨v, h1, h2⟩
    rw [beq_eq_false_iff_ne]
    intro h
    have h3 : (lkX fs (k * 5 + (a.l.getD k 0).toNat) &&& lkX fs (k * 5 + (c.l.getD k 0).toNat)).testBit v = true := by rw [Nat.testBit_and, h1, h2]; rfl
    rw [h, Nat.zero_testBit] at h3
    cases h3
theorem apB_mono {fs : List Fd} {f : Fd} {a c : Sg} {k : Nat} (h : apB fs a c k = false) : apB (fs ++ [f]) a c k = false := by
  rw [apB_iff] at h ⊢
  obtain ⟨v, h1, h2⟩ := h
  exact ⟨v, lkF_mono h1, lkF_mono h2⟩
theorem apB_comm (fs : List Fd) (a c : Sg) (k : Nat) : apB fs a c k = apB fs c a k := by
  unfold apB bothN
  rw [Nat.and_comm]
theorem apK_zero {fs : List Fd} {a c : Sg} {n : Nat} : apK fs a c n = 0 ↔ ∀ k, k < n → apB fs a c k = false := by
  unfold apK
  rw [List.length_eq_zero_iff, List.filter_eq_nil_iff]
  constructor
  · intro h k hk
    simpa using h k (List.mem_range.2 hk)
  · intro h k hk
    rw [h k (List.mem_range.1 hk)]
    simp
theorem apK_comm (fs : List Fd) (a c : Sg) (n : Nat) : apK fs a c n = apK fs c a n := by
  unfold apK
  rw [show apB fs a c = apB fs c a from funext fun k => apB_comm fs a c k]
theorem apK_mono {fs : List Fd} {f : Fd} {a c : Sg} {n : Nat} (h : apK fs a c n = 0) : apK (fs ++ [f]) a c n = 0 := by
  rw [apK_zero] at h ⊢
  exact fun k hk => apB_mono (h k hk)
/-- more marks, or more fades -/
structure MoreR (ms : List Mk) (fs : List Fd) (ms' : List Mk) (fs' : List Fd) : Prop where
  (fr : ∀ (day : Int) x, x ∈ frcL ms day → x ∈ frcL ms' day) (ft : ∀ a s, fitB fs a s = true → fitB fs' a s = true) (ap : ∀ a c, apK fs a c 6 = 0 → apK fs' a c 6 = 0)
theorem MoreR.fade (ms : List Mk) (fs : List Fd) (f : Fd) : MoreR ms fs ms (fs ++ [f]) := ⟨fun _ _ h => h, fun _ _ h => fitB_mono h, fun _ _ h => apK_mono h⟩
theorem frcL_mem {ms : List Mk} {day : Int} {x : Mk} : x ∈ frcL ms day ↔ x ∈ ms ∧ inB day x.frm x.unt = true := by
  unfold frcL
  exact List.mem_filter
theorem MoreR.mark (ms : List Mk) (fs : List Fd) (m : Mk) : MoreR ms fs (ms ++ [m]) fs := ⟨fun day x h => by
  rw [frcL_mem] at h ⊢
  exact ⟨List.mem_append_left _ h.1, h.2⟩, fun _ _ h => h, fun _ _ h => h⟩
theorem ownD_more {ms : List Mk} {fs : List Fd} {ms' : List Mk} {fs' : List Fd} (H : MoreR ms fs ms' fs') {day : Int} {s : Sg} {k : Nat} (h : (ownD ms fs day s).testBit k = true) : (ownD ms' fs' day s).testBit k = true := by
  unfold ownD ownN at h ⊢
  rw [ownN_bit, Nat.zero_testBit, Bool.false_or, List.any_eq_true] at h ⊢
  obtain ⟨m, hm, h⟩ := h
  rw [Bool.and_eq_true] at h
  exact ⟨m, H.fr _ _ hm, by rw [Bool.and_eq_true]; exact ⟨H.ft _ _ h.1, h.2⟩⟩
theorem mem_misL {fs : List Fd} {l : List Mk} {z : Pr} : z ∈ misL fs l ↔ ∃ (i j : Nat) (x y : Mk), i < j ∧ l[i]? = some x ∧ l[j]? = some y ∧ apK fs x.sg y.sg 6 = 0 ∧ z = ⟨x.own, y.own⟩ := by
  unfold misL misK
  rw [List.mem_flatMap]
  constructor
  · rintro ⟨i, hi, h⟩
    have hi := List.mem_range.1 hi
    rw [List.getElem?_eq_getElem hi] at h
    simp only at h
    unfold mis1 at h
    obtain ⟨y, hy, he⟩ := List.mem_map.1 h
    obtain ⟨hy1, hy2⟩ := List.mem_filter.1 hy
    obtain ⟨k, hk⟩ := List.getElem?_of_mem hy1
    rw [List.getElem?_drop] at hk
    exact ⟨i, i + 1 + k, l[i], y, by omega, List.getElem?_eq_getElem hi, hk, by simpa using hy2, he.symm⟩
  · rintro ⟨i, j, x, y, hij, hx, hy, ha, rfl⟩
    refine ⟨i, List.mem_range.2 (List.getElem?_eq_some_iff.1 hx).1, ?_⟩
    rw [hx]
    simp only
    unfold mis1
    rw [List.mem_map]
    refine ⟨y, List.mem_filter.2 ⟨?_, by simpa using ha⟩, rfl⟩
    refine List.mem_of_getElem? (i := j - (i + 1)) ?_
    rw [List.getElem?_drop, show i + 1 + (j - (i + 1)) = j by omega]
    exact hy
theorem rfL_mem {ms : List Mk} (h : clashB ms = false) (hv : ∀ m ∈ ms, markB m = true) {day : Int} {l : List Mk} (hp : l.Perm (frcL ms day)) (hs : l.Pairwise fun a b => a.own ≤ b.own) : l.Pairwise fun a b => a.own < b.own := by
  rw [rf_eq h hv hp hs]
  exact rfL_lt h day 40
theorem mis_more {ms : List Mk} {fs : List Fd} {ms' : List Mk} {fs' : List Fd} (H : MoreR ms fs ms' fs') {day : Int} (h0 : smE ms fs = 0) (h0' : smE ms' fs' = 0) {l l' : List Mk} (hp : l.Perm (frcL ms day)) (hs : l.Pairwise fun a b => a.own ≤ b.own) (hp' : l'.Perm (frcL ms' day)) (hs' : l'.Pairwise fun a b => a.own ≤ b.own) {z : Pr} (h : z ∈ misL fs l) : z ∈ misL fs' l' := by
  obtain ⟨_, _, hm, _, _, hc⟩ := sm_ok h0
  obtain ⟨_, _, hm', _, _, hc'⟩ := sm_ok h0'
  have q := List.pairwise_iff_getElem.1 (rfL_mem hc hm hp hs)
  have q' := List.pairwise_iff_getElem.1 (rfL_mem hc' hm' hp' hs')
  obtain ⟨i, j, x, y, hij, hx, hy, ha, rfl⟩ := mem_misL.1 h
  obtain ⟨hi, rfl⟩ := List.getElem?_eq_some_iff.1 hx
  obtain ⟨hj, rfl⟩ := List.getElem?_eq_some_iff.1 hy
  have hlt := q i j hi hj hij
  have h1 := hp'.mem_iff.2 (H.fr day _ (hp.mem_iff.1 (List.getElem_mem hi)))
  have h2 := hp'.mem_iff.2 (H.fr day _ (hp.mem_iff.1 (List.getElem_mem hj)))
  obtain ⟨i', hi'⟩ := List.getElem?_of_mem h1
  obtain ⟨j', hj'⟩ := List.getElem?_of_mem h2
  refine mem_misL.2 ⟨i', j', _, _, ?_, hi', hj', H.ap _ _ ha, rfl⟩
  obtain ⟨hi2, e1⟩ := List.getElem?_eq_some_iff.1 hi'
  obtain ⟨hj2, e2⟩ := List.getElem?_eq_some_iff.1 hj'
  rcases Nat.lt_trichotomy i' j' with h3 | h3 | h3
  · exact h3
  · subst h3
    rw [e1] at e2
    rw [e2] at hlt
    omega
  · have := q' j' i' hj2 hi2 h3
    rw [e1, e2] at this
    omega
end Go.Proofs.YtologmoanaccpaaGreatDoor

namespace Go.Proofs.YtologmoanaccpaaGreatDoor
set_option linter.all false
open Go.RowKit Go.Shelf

theorem prB_eq (x y : Pr) : (x.a == y.a && x.b == y.b) = decide (x = y) := by
  rw [Bool.eq_iff_iff, Bool.and_eq_true, beq_iff_eq, beq_iff_eq, decide_eq_true_iff]
  constructor
  · rintro ⟨h1, h2⟩
    cases x; cases y; simp_all
  · rintro rfl
    exact ⟨rfl, rfl⟩
set_option maxRecDepth 100000 in
theorem in_any (A : Option Addr) (n c : Nat) (xs : List Pr) (y : Pr) (w : World) (hx : SlA prC 2 (fun _ => True) w A n c xs) :
    Calls Tryz.prog 69 #[.slice A n c, .agg #[.int .i64 y.a, .int .i64 y.b]] w fun e w' => e = .returned (.bool (decide (y ∈ xs))) ∧ Kept w w' := by
  obtain ⟨W0, hW0⟩ : ∃ W0, W0 = w.alloc (.cells #[.int .i64 y.a, .int .i64 y.b] 90) := ⟨_, rfl⟩
  have K0 : RowKit.Hid (Kept w W0) := Lib.hid (by rw [hW0]; exact (Kept.refl _).alloc _)
  have R0 : RowKit.Hid (RowC W0 w.heap.size [.int .i64 y.a, .int .i64 y.b]) := Lib.hid (by rw [hW0]; exact RowC.new w [.int .i64 y.a, .int .i64 y.b] 90)
  have HW := Lib.hid hW0
  have HX := Lib.hid (hx.kept K0.out)
  have hnc := hx.2.1
  have hc := hx.2.2.1
  clear hx hW0
  go_enter Tryz.func69, Tryz.ntmps69
  go_upto_region 1 with (fail)
  rw [← HW.out]
  go_wp2_with fail
  go_loopw [5] (fun i w1 => ∃ k : Nat, k ≤ n ∧ i = .int .i64 k ∧ Kept W0 w1 ∧ y ∉ xs.take k) (fun i _ => n - (intOf i).toNat)
  case atStart => exact ⟨0, by omega, by first | rfl | go_num, Kept.refl _, by simp⟩
  case round =>
    obtain ⟨k, hk, rfl, hkw, hs⟩ := hrel
    have HS := Lib.hid hs
    clear hs
    by_cases hlt : k < n
    · obtain ⟨b, off, hA, hcx⟩ := HX.out.2.2.2.2 (by omega)
      subst hA
      obtain ⟨x, hx⟩ : ∃ x, xs[k]? = some x := ⟨xs[k]'(by rw [HX.out.1]; exact hlt), List.getElem?_eq_getElem (by rw [HX.out.1]; exact hlt)⟩
      have q1 := (hkw.cells _ _ (cell_lt (hcx k x hx 0 _ rfl))).trans (hcx k x hx 0 _ rfl)
      have q2 := (R0.out.kept hkw 0 _ rfl).1
      have q3 := (hkw.cells _ _ (cell_lt (hcx k x hx 1 _ rfl))).trans (hcx k x hx 1 _ rfl)
      have q4 := (R0.out.kept hkw 1 _ rfl).1
      rw [Nat.add_zero] at q1
      have lq1 := cell_lt q1
      have lq2 := cell_lt q2
      have HX1 := Lib.hid hx
      clear hcx hx
      have hi0 : (0 : Int) ≤ (k : Int) := by omega
      have hi1 : (k : Int) < (n : Int) := by omega
      have hne := prB_eq x y
      obtain ⟨bb, hbb⟩ : ∃ b, decide (x = y) = b := ⟨_, rfl⟩
      rw [hbb] at hne
      cases bb with
      | true =>
        have hT : RowKit.Hid (decide (y ∈ xs) = true) := Lib.hid (by
          have := of_decide_eq_true hbb
          rw [decide_eq_true_iff, ← this]
          exact List.mem_of_getElem? HX1.out)
        rw [Bool.and_eq_true] at hne
        obtain ⟨hn1, hn2⟩ := hne
        clear hbb
        go_wp2
        go_quiet (fail)
        go_wp2
        go_ret
        exact ⟨ret_bool hT.out.symm, K0.out.trans (by first | exact hkw | exact hkw.drewN _ | exact hkw.drew)⟩
      | false =>
        have hT : RowKit.Hid (y ∉ xs.take (k + 1)) := Lib.hid (by
          have := of_decide_eq_false hbb
          rw [take_snoc' HX1.out, List.mem_append, List.mem_singleton]
          rintro (h | h)
          · exact HS.out h
          · exact this h.symm)
        clear hbb
        obtain ⟨xa, xb⟩ := x
        obtain ⟨ya, yb⟩ := y
        dsimp only at q1 q2 q3 q4 hne
        by_cases hab : xa = ya
        · subst hab
          have hb : (xb == yb) = false := by simpa using hne
          clear hne
          go_wp2
          go_quiet (fail)
          go_wp2
          go_roundw
          case rel => exact ⟨k + 1, by omega, by go_num, by first | exact hkw | exact hkw.drewN _ | exact hkw.drew, hT.out⟩
          case measure => simp [intOf]; omega
        · have ha : (xa == ya) = false := by simpa using hab
          clear hne
          go_wp2
          go_quiet (fail)
          go_wp2
          go_roundw
          case rel => exact ⟨k + 1, by omega, by go_num, by first | exact hkw | exact hkw.drewN _ | exact hkw.drew, hT.out⟩
          case measure => simp [intOf]; omega
    · obtain rfl : k = n := by omega
      have hT : RowKit.Hid (decide (y ∈ xs) = false) := Lib.hid (by
        rw [decide_eq_false_iff_not]
        have := HS.out
        rwa [List.take_of_length_le (by rw [HX.out.1]; exact Nat.le_refl _)] at this)
      go_wp2
      go_ret
      exact ⟨ret_bool hT.out.symm, K0.out.trans hkw⟩
end Go.Proofs.YtologmoanaccpaaGreatDoor

namespace Go.Proofs.YtologmoanaccpaaGreatDoor
set_option linter.all false
open Go.RowKit Go.Shelf

/-- 'append([]T{}, l...)' as a step of a region that draws -/
theorem step_copy {ops : Array Oper} {o : Oper} {a : Act} {w : World} {K : Act → World → Prop} {Q : Exit → Act → World → Prop} {E : Prop} (hgd : o.guard = none) (s x : Operand) (t : TypeId)
    (ho : o.op = .call { callee := .builtin .append, args := #[s, x], argTypes := #[t, t] })
    (base : Nat) (e : TypeId) (i : TypeInfo) (z : Value) (size bytes : Nat) (ht : Tryz.prog.underlying t = some (.slice e)) (hi : Tryz.prog.info? e = some i) (hz : i.zero = some z)
    (hsize : i.size = size) (hby : i.bytes = bytes) (hzs : z.cells.size = size) (hsz : 0 < size)
    (b : Nat) (hs : a.eval s = .slice (some ⟨b, 0, none⟩) 0 0) (hown : w.ownsRow base e size (.slice (some ⟨b, 0, none⟩) 0 0) 0 [])
    (A : Option Addr) (n c : Nat) (news : List Value) (hx : a.eval x = .slice A n c) (hl : news.length = n * size)
    (hnews : 0 < n → ∃ ad, A = some ad ∧ ∀ j u, news[j]? = some u → w.cell? (ad.add j) = some u) (h1 : ∀ u ∈ news, u.oneCell' = true)
    (h63 : n ≤ maxLen) (hbytes : n * bytes ≤ 140737488355328) (hbase : base ≤ w.heap.size)
    (h : ∀ g d w', w'.ownsRow base e size (.slice (some ⟨g, 0, none⟩) n d) n news → w.grownBy w' (some b) → (g = b ∨ w.heap.size ≤ g) → K (a.put o.dst (.slice (some ⟨g, 0, none⟩) n d)) w') :
    if Region.wanted o (yielded ops a.tmps) = true then Oper.wp Tryz.prog o a w K Q else E := by
  by_cases hn : 0 < n
  · obtain ⟨ad, rfl, hne⟩ := hnews hn
    refine step_append_lies w hgd s x t ho base e i z size bytes ht hi hz hsize hby hzs hsz _ 0 [] hs hown ad n c news hx hl hne h1 hn (by omega) (by rw [Nat.zero_add]; exact hbytes) hbase _ rfl ?_
    intro g cap w' h2 h3 h4 h5
    rw [Nat.zero_add] at h2 ⊢
    rw [List.nil_append] at h2
    refine h _ _ _ h2 h3 ?_
    rcases h4 with h4 | h4
    · injection h4 with h4
      exact .inl h4.symm
    · exact .inr (by omega)
  · obtain rfl : n = 0 := by omega
    obtain rfl : news = [] := List.eq_nil_of_length_eq_zero (by omega)
    have hw : Region.wanted o (yielded ops a.tmps) = true := by simp [Region.wanted, hgd]
    rw [if_pos hw]
    have hr := run_append_zero (P := Tryz.prog) w base t o.type e i size ht hi _ 0 [] hown A c
    unfold Oper.wp execOp
    simp only [ho, resolve, invoke, builtin, Sem.run_bind, Sem.run_pure, Result.andThen_ok, List.map_toArray, List.map_cons, List.map_nil, hs, hx, hr]
    exact h _ _ _ hown (World.grownBy.refl _ _) (.inl rfl)
theorem own_slA {α : Type} {enc : α → List Value} {k : Nat} {ok : α → Prop} (hk : ∀ x, (enc x).length = k) {W : World} {B : Nat} {t : TypeId} {v : Value} {n : Nat} {xs : List α} (h : W.ownsRow B t k v n (xs.flatMap enc)) (hn : xs.length = n) (ho : ∀ x ∈ xs, ok x) : ∃ A c, v = .slice A n c ∧ SlA enc k ok W A n c xs := by
  rcases h.2 with ⟨h1, h0⟩ | ⟨g, cap, cur, h1, hb, hh, h2, h3, _⟩
  · subst h1
    have e0 : xs = [] := List.length_eq_zero_iff.1 (by omega)
    subst e0
    exact ⟨none, 0, by rw [h0], by simpa using hn, by omega, by omega, ho, fun hc => by omega⟩
  · subst h1
    refine ⟨some ⟨g, 0, none⟩, cap, rfl, hn, h2, by unfold maxLen at h3; omega, ho, fun _ => ⟨g, 0, rfl, fun i x hx j v hv => ?_⟩⟩
    rw [Nat.zero_add]
    exact (own_rowC h (i * k + j) v (flat_at hk xs i x j v hx hv)).1
theorem own_slB {α : Type} {enc : α → List Value} {k : Nat} {ok : α → Prop} (hk : ∀ x, (enc x).length = k) {W : World} {B : Nat} {t : TypeId} {g n d : Nat} {xs : List α} (h : W.ownsRow B t k (.slice (some ⟨g, 0, none⟩) n d) n (xs.flatMap enc)) (hn : xs.length = n) (ho : ∀ x ∈ xs, ok x) : SlA enc k ok W (some ⟨g, 0, none⟩) n d xs := by
  obtain ⟨A, c, e, hs⟩ := own_slA (ok := ok) hk h hn ho
  injection e with e1 e2 e3
  rw [e1, e3]
  exact hs
theorem flat_lenV {α : Type} {enc : α → List Value} {k : Nat} (hk : ∀ x, (enc x).length = k) : ∀ l : List α, (l.flatMap enc).length = l.length * k
  | [] => by simp
  | x :: l => by rw [List.flatMap_cons, List.length_append, hk, flat_lenV hk l, List.length_cons, Nat.add_mul]; omega
/-- the cells of a slice, as what is to be appended -/
theorem slA_news {α : Type} {enc : α → List Value} {k : Nat} {ok : α → Prop} {w : World} {A : Option Addr} {n c : Nat} {xs : List α} (hk : ∀ x, (enc x).length = k) (h0 : 0 < k) (h : SlA enc k ok w A n c xs) : 0 < n → ∃ ad, A = some ad ∧ ∀ j u, (xs.flatMap enc)[j]? = some u → w.cell? (ad.add j) = some u := fun hn => by
  obtain ⟨b, off, e, ht⟩ := h.2.2.2.2 hn
  refine ⟨_, e, fun j u hu => ?_⟩
  have hj : j < xs.length * k := by rw [← flat_lenV hk xs]; exact (List.getElem?_eq_some_iff.1 hu).1
  have hq : j / k < xs.length := by rw [Nat.div_lt_iff_lt_mul h0]; exact hj
  have hr : j % k < k := Nat.mod_lt _ h0
  have hx : xs[j / k]? = some xs[j / k] := List.getElem?_eq_getElem hq
  obtain ⟨v, hv⟩ : ∃ v, (enc xs[j / k])[j % k]? = some v := ⟨_, List.getElem?_eq_getElem (by rw [hk xs[j / k]]; exact hr)⟩
  have h1 := flat_at hk xs _ _ _ v hx hv
  have e2 : j / k * k + j % k = j := Nat.div_add_mod' j k
  rw [e2, hu] at h1
  cases h1
  rw [addr_add]
  have h2 := ht _ _ hx _ _ hv
  rwa [Nat.add_assoc, e2] at h2
theorem rowC_grownV {W W' : World} {b : Nat} {vs : List Value} {row : Option Nat} (h : RowC W b vs) (hg : W.grownBy W' row) (hne : some b ≠ row) : RowC W' b vs := fun j v hv => by
  have e := hg.block b (cell_lt (h j v hv).1) hne
  exact ⟨(cell_heap e).trans (h j v hv).1, (frozen_heap e).trans (h j v hv).2⟩
theorem info87 : (Tryz.prog.info? 87).map (fun i => (i.zero, i.size, i.bytes)) = some (some (.agg #[.int .u8 0, .int .u8 0]), 2, 2) := by kernel_rfl
theorem mkC_one {ms : List Mk} : ∀ u ∈ ms.flatMap mkC, u.oneCell' = true := fun u hu => by
  obtain ⟨z, _, h1⟩ := List.mem_flatMap.1 hu
  simp [mkC] at h1
  rcases h1 with h1 | h1 | h1 | h1 | h1 | h1 | h1 | h1 | h1 <;> subst h1 <;> rfl
theorem fdC_one {fs : List Fd} : ∀ u ∈ fs.flatMap fdC, u.oneCell' = true := fun u hu => by
  obtain ⟨z, _, h1⟩ := List.mem_flatMap.1 hu
  simp [fdC] at h1
  rcases h1 with h1 | h1 <;> subst h1 <;> rfl
end Go.Proofs.YtologmoanaccpaaGreatDoor
