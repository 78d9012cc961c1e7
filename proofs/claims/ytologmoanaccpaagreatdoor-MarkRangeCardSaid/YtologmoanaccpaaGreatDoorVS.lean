/-
  claims: Clone 128, IndexFunc 182, the closure 129, DeleteFunc 127
  claims: DeleteFunc 127
-/
import Derived.Test.YtologmoanaccpaaGreatDoorVI
namespace Go.Proofs.YtologmoanaccpaaGreatDoor
set_option linter.all false
open Go.RowKit Go.Shelf

set_option maxRecDepth 100000 in
theorem pred129 (o : Int) (b : Nat) (w : World) (hb : w.cell? ⟨b, 0, none⟩ = some (.int .i64 o)) : PredG clC Cl.ok 129 #[.pointer (some ⟨b, 0, none⟩)] (fun m => decide (m.own = o)) w := by
  intro W x hx hk
  have hc := (hk.cells _ _ (cell_lt hb)).trans hb
  have lc := cell_lt hc
  obtain ⟨W0, hW0⟩ : ∃ W0, W0 = W.alloc (.cells #[.int .i64 x.own, .int .i64 x.num] 94) := ⟨_, rfl⟩
  have K0 : RowKit.Hid (Kept W W0) := Lib.hid (by rw [hW0]; exact (Kept.refl _).alloc _)
  have R0 : RowKit.Hid (RowC W0 W.heap.size (clC x)) := Lib.hid (by rw [hW0]; exact RowC.new W (clC x) 94)
  have hc0 := (K0.out.cells _ _ lc).trans hc
  have lc0 := cell_lt hc0
  have HW := Lib.hid hW0
  have a0 := (R0.out 0 _ rfl).1
  have la := cell_lt a0
  clear hW0 hk hx hb hc lc
  by_cases he : x.own = o
  · have h1 : (x.own == o) = true := by simpa using he
    have HE := Lib.hid he
    clear he
    show Calls Tryz.prog 129 #[.agg #[.int .i64 x.own, .int .i64 x.num], .pointer (some ⟨b, 0, none⟩)] W _
    go_enter Tryz.func129, Tryz.ntmps129
    go_upto_region 1 with (fail)
    rw [← HW.out]
    go_wp2_with fail
    go_ret
    exact ⟨ret_bool (by simp [HE.out]), K0.out⟩
  · have h1 : (x.own == o) = false := by simpa using he
    have HE := Lib.hid he
    clear he
    show Calls Tryz.prog 129 #[.agg #[.int .i64 x.own, .int .i64 x.num], .pointer (some ⟨b, 0, none⟩)] W _
    go_enter Tryz.func129, Tryz.ntmps129
    go_upto_region 1 with (fail)
    rw [← HW.out]
    go_wp2_with fail
    go_ret
    exact ⟨ret_bool (by simp [HE.out]), K0.out⟩
theorem e129 : ∀ args w, (callFunc 129 args).run Tryz.prog w = .ok (.enter 129 args) w := enters_of Tryz.func129 (by kernel_rfl) rfl
set_option maxRecDepth 100000 in
set_option maxHeartbeats 3200000 in
theorem index_cl (g : Nat) (lb : Array Value) (p : Cl → Bool) (eg : ∀ args w, (callFunc g args).run Tryz.prog w = .ok (.enter g args) w) (A : Option Addr) (n c : Nat) (xs : List Cl) (w : World) (hs : SlA clC 2 Cl.ok w A n c xs) (hp : PredG clC Cl.ok g lb p w) :
    Calls Tryz.prog 182 #[.slice A n c, .func (.func g) #[] lb] w fun e w' => e = .returned (.int .i64 (idxP p xs)) ∧ Kept w w' := by
  have HS := Lib.hid hs
  have HP := Lib.hid hp
  have hnc := hs.2.1
  have hcm := hs.2.2.1
  clear hs hp
  go_enter Tryz.func182, Tryz.ntmps182
  go_wp2_with fail
  go_loopw [8] (fun i wr => ∃ k : Nat, k ≤ n ∧ i = .int .i64 k ∧ (∀ j x, j < k → xs[j]? = some x → p x = false) ∧ Kept w wr) (fun i _ => n - (intOf i).toNat)
  case atStart => exact ⟨0, by omega, by first | rfl | go_num, fun j x hj => by omega, Kept.refl _⟩
  case round =>
    obtain ⟨k, hk, rfl, ho, hkr⟩ := hrel
    have Ho := Lib.hid ho
    have HKR := Lib.hid hkr
    clear ho hkr
    by_cases hlt : k < n
    · obtain ⟨x, hx⟩ : ∃ x, xs[k]? = some x := ⟨_, List.getElem?_eq_getElem (by rw [HS.out.1]; exact hlt)⟩
      have hok := Lib.hid (HS.out.2.2.2.1 x (List.mem_of_getElem? hx))
      obtain ⟨b, off, hA, ht⟩ := HS.out.2.2.2.2 (by omega)
      subst hA
      have hcc := fun j v hv => (HKR.out.cells _ _ (cell_lt (ht k x hx j v hv))).trans (ht k x hx j v hv)
      have c0 := hcc 0 _ rfl
      have c1 := hcc 1 _ rfl
      simp only [Nat.add_zero] at c0
      have Hx := Lib.hid hx
      clear hx ht hcc
      obtain ⟨q, hq⟩ : ∃ q, p x = q := ⟨_, rfl⟩
      have HQ := Lib.hid hq
      have HC : RowKit.Hid (∀ W, Kept w W → Calls Tryz.prog g (#[.agg (clC x).toArray] ++ lb) W fun e w' => e = .returned (.bool q) ∧ Kept W w') := Lib.hid (fun W hW => by rw [← hq]; exact HP.out W x hok.out hW)
      unfold clC at HC
      clear hq
      go_wp2_with fail
      refine (HC.out _ HKR.out).mono ?_
      rintro e w1 ⟨rfl, hk1⟩
      have HK1 := Lib.hid (HKR.out.trans hk1)
      clear hk1
      cases q
      · go_wp2
        go_roundw
        case rel =>
          refine ⟨k + 1, by omega, by go_num, fun j y hj hy => ?_, HK1.out⟩
          rcases Nat.lt_or_eq_of_le (Nat.le_of_lt_succ hj) with h | h
          · exact Ho.out j y h hy
          · subst h
            have := Hx.out
            rw [hy] at this
            cases this
            exact HQ.out
        case measure => simp [intOf]; omega
      · go_wp2
        go_ret
        exact ⟨ret_int (idxP_at Hx.out HQ.out Ho.out).symm, HK1.out⟩
    · obtain rfl : k = n := by omega
      go_wp2
      go_ret
      exact ⟨ret_int (idxP_none (fun j y hy => Ho.out j y (by rw [← HS.out.1]; exact (List.getElem?_eq_some_iff.1 hy).1) hy)).symm, HKR.out⟩
set_option maxRecDepth 100000 in
set_option maxHeartbeats 3200000 in
theorem cloneC_any (D : Option Addr) (u v : Nat) (cls : List Cl) (w : World) (hcl : SlA clC 2 Cl.ok w D u v cls) (hu : u ≤ 1000) :
    Calls Tryz.prog 128 #[.slice D u v] w fun e w' => (∃ v, e = .returned v ∧ w'.ownsRow w.heap.size 94 2 v u (cls.flatMap clC)) ∧ Kept w w' := by
  obtain ⟨i0, hi0, hz0, hz1, hz2⟩ := info_parts info94x
  have HF := Lib.hid hcl
  clear hcl
  cases D with
  | none =>
    have h0 : u = 0 := by
      by_cases h : 0 < u
      · obtain ⟨b, off, e, _⟩ := HF.out.2.2.2.2 h
        cases e
      · omega
    subst h0
    have hl := List.length_eq_zero_iff.1 HF.out.1
    subst hl
    go_enter Tryz.func128, Tryz.ntmps128
    have heq : ∀ w, (binOp BinOp.eql 70 (.slice none 0 v) (.slice none 0 0)).run Tryz.prog w = .ok (.bool true) w := fun w => by kernel_rfl
    go_wp2_with fail
    go_ret
    exact ⟨⟨_, rfl, World.ownsRow_nil _ _ _ _⟩, Kept.refl _⟩
  | some ad =>
    have HN : RowKit.Hid (0 < u → ∃ a, some ad = some a ∧ ∀ j z, (cls.flatMap clC)[j]? = some z → (w.alloc (.cells #[] 94)).cell? (a.add j) = some z) := Lib.hid (slA_news clC_two (by decide) (HF.out.kept ((Kept.refl w).alloc _)))
    have HL : RowKit.Hid ((cls.flatMap clC).length = u * 2) := Lib.hid (by rw [clC_flen, HF.out.1])
    have heq : ∀ w, (binOp BinOp.eql 70 (.slice (some ad) u v) (.slice none 0 0)).run Tryz.prog w = .ok (.bool false) w := fun w => by kernel_rfl
    go_enter Tryz.func128, Tryz.ntmps128
    go_wp2_with (at_builtin; refine wpList_copy w _ rfl (.tmp 5) (.tmp 6) 70 rfl 94 i0 _ 2 16 Tryz.underlying70 hi0 hz0 hz1 hz2 rfl (by decide) rfl rfl _ u v (cls.flatMap clC) rfl HL.out HN.out clC_one (by unfold maxLen; omega) (by omega) ?_; intro B d w6 hown hkk)
    go_ret
    exact ⟨⟨_, rfl, hown⟩, hkk⟩
end Go.Proofs.YtologmoanaccpaaGreatDoor

namespace Go.Proofs.YtologmoanaccpaaGreatDoor
set_option linter.all false
open Go.RowKit Go.Shelf

theorem own_less {w : World} {B g u U c : Nat} {xs : List Value} (h : w.ownsRow B 94 2 (.slice (some ⟨g, 0, none⟩) u c) u xs) (hU : U ≤ u) : w.ownsRow B 94 2 (.slice (some ⟨g, 0, none⟩) U c) U (xs.take (U * 2)) := by
  refine ⟨by rw [List.length_take, h.1]; omega, ?_⟩
  rcases h.2 with ⟨h1, _⟩ | ⟨g', cap, cur, h1, h2, h3, h4, h5, h6, h7⟩
  · cases h1
  · cases h1
    exact .inr ⟨g, c, cur, rfl, h2, h3, by omega, h5, h6, by rw [← h7, List.take_take, Nat.min_eq_left (by omega)]⟩
theorem flat_set2 {l : List Cl} {i : Nat} {y : Cl} (hi : i < l.length) : ((l.flatMap clC).set (i * 2) (.int .i64 y.own)).set (i * 2 + 1) (.int .i64 y.num) = (l.set i y).flatMap clC := by
  apply List.ext_getElem?
  intro j
  cases e : ((l.set i y).flatMap clC)[j]? with
  | none =>
    rw [List.getElem?_eq_none_iff] at e ⊢
    rw [List.length_set, List.length_set]
    rw [clC_flen] at e ⊢
    simpa using e
  | some z =>
    obtain ⟨q, x, t, rfl, h1, h2⟩ := clC_at e
    have ht : t < 2 := (List.getElem?_eq_some_iff.1 h2).1
    by_cases hiq : i = q
    · subst hiq
      rw [List.getElem?_set_self hi] at h1
      cases h1
      by_cases ht1 : t = 1
      · subst ht1
        rw [List.getElem?_set_self (by rw [List.length_set, clC_flen]; omega)]
        exact h2
      · obtain rfl : t = 0 := by omega
        rw [List.getElem?_set_ne (by omega), show i * 2 + 0 = i * 2 from rfl, List.getElem?_set_self (by rw [clC_flen]; omega)]
        exact h2
    · rw [List.getElem?_set_ne hiq] at h1
      rw [List.getElem?_set_ne (by omega), List.getElem?_set_ne (by omega)]
      exact flat_at clC_two l q x t z h1 h2
def mtL (cls : List Cl) (k t : Nat) : List Cl := (erL cls k).take (k + t) ++ cls.drop (k + t)
theorem mtL_zero {cls : List Cl} {k : Nat} (hk : k < cls.length) : mtL cls k 0 = cls := by
  unfold mtL erL
  rw [Nat.add_zero, List.take_append_of_le_length (by rw [List.length_take]; omega), List.take_take, Nat.min_self, List.take_append_drop]
theorem mtL_len {cls : List Cl} {k t : Nat} (hk : k < cls.length) (ht : k + t < cls.length) : (mtL cls k t).length = cls.length := by
  unfold mtL
  rw [List.length_append, List.length_take, List.length_drop, erL_len _ _ hk]
  omega
theorem mtL_at {cls : List Cl} {k t : Nat} (hk : k < cls.length) (ht : k + t + 1 < cls.length) : (mtL cls k t)[k + 1 + t]? = cls[k + 1 + t]? := by
  unfold mtL
  rw [List.getElem?_append_right (by rw [List.length_take, erL_len _ _ hk]; omega), List.getElem?_drop, List.length_take, erL_len _ _ hk, show k + t + (k + 1 + t - min (k + t) (cls.length - 1)) = k + 1 + t by omega]
theorem mtL_succ {cls : List Cl} {k t : Nat} {y : Cl} (hk : k < cls.length) (hy : cls[k + 1 + t]? = some y) : (mtL cls k t).set (k + t) y = mtL cls k (t + 1) := by
  have hl := (List.getElem?_eq_some_iff.1 hy).1
  have he : (erL cls k)[k + t]? = some y := by
    rw [erL_at _ _ _ hk, if_neg (by omega), show k + t + 1 = k + 1 + t by omega]
    exact hy
  unfold mtL
  rw [show k + (t + 1) = k + t + 1 by omega, take_snoc' he, List.drop_eq_getElem_cons (show k + t < cls.length by omega)]
  rw [List.set_append_right _ _ (by rw [List.length_take, erL_len _ _ hk]; omega)]
  rw [show k + t - ((erL cls k).take (k + t)).length = 0 by rw [List.length_take, erL_len _ _ hk]; omega, List.set_cons_zero, List.append_assoc]
  rfl
theorem mtL_end {cls : List Cl} {k U : Nat} (hk : k < cls.length) (hU : cls.length = U + 1) : ((mtL cls k (U - k)).flatMap clC).take (U * 2) = (erL cls k).flatMap clC := by
  have hl := erL_len cls k hk
  unfold mtL
  rw [show k + (U - k) = U by omega, List.take_of_length_le (show (erL cls k).length ≤ U by omega), List.flatMap_append, List.take_append_of_le_length (by rw [clC_flen, hl, hU]; omega), List.take_of_length_le (by rw [clC_flen, hl, hU]; omega)]
theorem filt_erL {o : Int} : ∀ {cls : List Cl} {k : Nat} {x : Cl}, (cls.map Cl.own).Nodup → cls[k]? = some x → x.own = o → cls.filter (fun c => !decide (c.own = o)) = erL cls k
  | [], k, x, _, h, _ => by simp at h
  | c :: l, 0, x, hn, h, ho => by
    have hcx : c = x := by simpa using h
    subst hcx
    rw [List.map_cons, List.nodup_cons] at hn
    have hall : l.filter (fun c => !decide (c.own = o)) = l := List.filter_eq_self.2 fun z hz => by
      have : z.own ≠ o := fun e => hn.1 (List.mem_map.2 ⟨z, hz, by rw [e, ho]⟩)
      simpa using this
    unfold erL
    rw [List.filter_cons, if_neg (by simp [ho]), hall]
    simp
  | c :: l, k + 1, x, hn, h, ho => by
    rw [List.map_cons, List.nodup_cons] at hn
    have hx : l[k]? = some x := by simpa using h
    have hne : c.own ≠ o := fun e => hn.1 (List.mem_map.2 ⟨x, List.mem_of_getElem? hx, by rw [e, ho]⟩)
    have ih := filt_erL hn.2 hx ho
    rw [List.filter_cons, if_pos (by simpa using hne), ih]
    unfold erL
    simp
theorem filt_none {o : Int} {cls : List Cl} (h : ∀ c ∈ cls, c.own ≠ o) : cls.filter (fun c => !decide (c.own = o)) = cls := List.filter_eq_self.2 fun z hz => by simpa using h z hz
set_option maxRecDepth 100000 in
set_option maxHeartbeats 6400000 in
theorem deleteC_any (B : Nat) (vv : Value) (u : Nat) (cls : List Cl) (o : Int) (ob : Nat) (w0 w : World) (hk0 : Kept w0 w) (hB : w0.heap.size ≤ B) (hown : w.ownsRow B 94 2 vv u (cls.flatMap clC)) (hl : cls.length = u) (hok : ∀ c ∈ cls, c.ok) (hn : (cls.map Cl.own).Nodup) (hu : u ≤ 100) (hob : w0.cell? ⟨ob, 0, none⟩ = some (.int .i64 o)) :
    Calls Tryz.prog 127 #[vv, .func (.func 129) #[] #[.pointer (some ⟨ob, 0, none⟩)]] w fun e w' => (∃ v', e = .returned v' ∧ w'.ownsRow B 94 2 v' (cls.filter fun c => !decide (c.own = o)).length ((cls.filter fun c => !decide (c.own = o)).flatMap clC)) ∧ Kept w0 w' := by
  obtain ⟨A, c, rfl, hsl⟩ := own_slA (ok := Cl.ok) clC_two hown hl hok
  have HSL := Lib.hid hsl
  have HO := Lib.hid hown
  have HK0 := Lib.hid hk0
  have HP := Lib.hid (pred129 o ob w0 hob)
  have HPW : RowKit.Hid (PredG clC Cl.ok 129 #[.pointer (some ⟨ob, 0, none⟩)] (fun m => decide (m.own = o)) w) := Lib.hid (fun W x hx hk => HP.out W x hx (HK0.out.trans hk))
  have HIX := Lib.hid (index_cl 129 #[.pointer (some ⟨ob, 0, none⟩)] (fun m => decide (m.own = o)) e129 A u c cls w hsl HPW.out)
  have huc := hsl.2.1
  have hcm := hsl.2.2.1
  by_cases hno : ∀ x ∈ cls, x.own ≠ o
  · have hidx : idxP (fun m : Cl => decide (m.own = o)) cls = -1 := by
      unfold idxP
      rw [if_neg]
      rw [List.any_eq_true]
      rintro ⟨x, hx, h⟩
      exact hno x hx (by simpa using h)
    rw [hidx] at HIX
    rw [filt_none hno, hl]
    clear hown hsl hk0 hob hn hok hno hidx
    go_enter Tryz.func127, Tryz.ntmps127
    go_wp2_with fail
    refine HIX.out.mono ?_
    rintro e w1 ⟨rfl, hk1⟩
    have HO1 := Lib.hid (own_kept HO.out hk1)
    have K1 := Lib.hid (HK0.out.trans hk1)
    clear hk1
    go_wp2_with fail
    go_ret
    exact ⟨⟨_, rfl, HO1.out⟩, K1.out⟩
  · obtain ⟨k, x, hkx, hxo, hbef⟩ : ∃ k x, cls[k]? = some x ∧ x.own = o ∧ ∀ (j : Nat) (y : Cl), j < k → cls[j]? = some y → y.own ≠ o := by
      cases hf : cmX cls o with
      | none => exact absurd (fun x hx => cmX_no hf x hx) hno
      | some k =>
        obtain ⟨x, h1, h2⟩ := cmX_get hf
        refine ⟨k, x, h1, h2, fun j y hj hy e => ?_⟩
        have h3 := cmX_own hn hy
        rw [e, hf] at h3
        cases h3
        omega
    have hku : k < u := by rw [← hl]; exact (List.getElem?_eq_some_iff.1 hkx).1
    obtain ⟨U, rfl⟩ : ∃ U, u = U + 1 := ⟨u - 1, by omega⟩
    have hidx : idxP (fun m : Cl => decide (m.own = o)) cls = (k : Int) := idxP_at hkx (by simpa using hxo) (fun j y hj hy => by simpa using hbef j y hj hy)
    rw [hidx] at HIX
    obtain ⟨g, off, hA, _⟩ := hsl.2.2.2.2 (by omega)
    have hoff : off = 0 := by
      rcases hown.2 with ⟨h1, _⟩ | ⟨g', cap, cur, h1, _⟩
      · cases h1
      · rw [hA] at h1
        injection h1 with h1
        injection h1 with h1
        injection h1 with _ h1 _
    subst hoff hA
    have HFL : RowKit.Hid (cls.filter (fun c => !decide (c.own = o)) = erL cls k) := Lib.hid (filt_erL hn hkx hxo)
    have HUN : RowKit.Hid (∀ (j : Nat) (y : Cl), j ≠ k → cls[j]? = some y → (y.own == o) = false ∧ y.ok) := Lib.hid (fun j y hj hy => ⟨by
      have h3 : y.own ≠ o := fun e => by
        have h4 := cmX_own hn hy
        have h5 := cmX_own hn hkx
        rw [e] at h4
        rw [hxo, h4] at h5
        cases h5
        exact hj rfl
      simpa using h3, hok y (List.mem_of_getElem? hy)⟩)
    have hkl : k < cls.length := by omega
    have HKL := Lib.hid hkl
    have HL := Lib.hid hl
    have HB := Lib.hid hB
    have hk1' : ((k : Int) == -1) = false := by simp
    have M0 := Lib.hid (mtL_zero hkl)
    rw [HFL.out]
    clear hown hsl hk0 hob hn hok hno hidx hbef hkx hxo hkl hl hB
    go_enter Tryz.func127, Tryz.ntmps127
    go_wp2_with fail
    refine HIX.out.mono ?_
    rintro e w1 ⟨rfl, hk1⟩
    have HO1 := Lib.hid (own_kept HO.out hk1)
    have K1 := Lib.hid (HK0.out.trans hk1)
    clear hk1
    go_wp2_with fail
    go_loopw [5, 6, 7] (fun i j _ wr => ∃ t : Nat, t ≤ U - k ∧ i = .int .i64 ((k : Int) + (t : Int)) ∧ j = .int .i64 ((k : Int) + 1 + (t : Int)) ∧ wr.ownsRow B 94 2 (.slice (some ⟨g, 0, none⟩) (U + 1) c) (U + 1) ((mtL cls k t).flatMap clC) ∧ Kept w0 wr) (fun _ j _ _ => U + 1 - (intOf j).toNat)
    case atStart => exact ⟨0, by omega, by first | rfl | go_num | (congr 1; omega), by first | rfl | go_num | (congr 1; omega), by rw [M0.out]; exact HO1.out, K1.out⟩
    case round =>
      obtain ⟨t, ht, rfl, rfl, hown, hkr⟩ := hrel
      have HOR := Lib.hid hown
      have HKR := Lib.hid hkr
      clear hown hkr
      by_cases hlt : t < U - k
      · obtain ⟨y, hy⟩ : ∃ y, cls[k + 1 + t]? = some y := ⟨_, List.getElem?_eq_getElem (by have := HL.out; omega)⟩
        have HY := Lib.hid hy
        obtain ⟨hyo, hyok⟩ := HUN.out _ y (by omega) hy
        have HYK := Lib.hid hyok
        have hm : (mtL cls k t)[k + 1 + t]? = some y := by rw [mtL_at HKL.out (by have := HL.out; omega)]; exact hy
        have hr := own_rowC HOR.out
        have c0 := (hr ((k + 1 + t) * 2 + 0) _ (flat_at clC_two _ _ y 0 _ hm rfl)).1
        have c1 := (hr ((k + 1 + t) * 2 + 1) _ (flat_at clC_two _ _ y 1 _ hm rfl)).1
        rw [Nat.add_zero] at c0
        have lc := cell_lt c0
        have hge := (HOR.out.lt _ rfl).1
        have HGE := Lib.hid hge
        have HC : RowKit.Hid (∀ W, Kept w0 W → Calls Tryz.prog 129 #[.agg #[.int .i64 y.own, .int .i64 y.num], .pointer (some ⟨ob, 0, none⟩)] W fun e w' => e = .returned (.bool false) ∧ Kept W w') := Lib.hid (fun W hW => (HP.out W y HYK.out hW).mono fun e w' h => ⟨by rw [h.1]; exact congrArg (fun b => Ending.returned (.bool b)) (show decide (y.own = o) = false by simpa using hyo), h.2⟩)
        have hj0 : (0 : Int) ≤ (k : Int) + 1 + (t : Int) := by omega
        have hj1 : (k : Int) + 1 + (t : Int) < ((U + 1 : Nat) : Int) := by omega
        have hjn : ((k : Int) + 1 + (t : Int)).toNat = k + 1 + t := by omega
        have hi0 : (0 : Int) ≤ (k : Int) + (t : Int) := by omega
        have hi1 : (k : Int) + (t : Int) < ((U + 1 : Nat) : Int) := by omega
        have hin : ((k : Int) + (t : Int)).toNat = k + t := by omega
        clear hy hyok hm hr hyo hge
        go_upto_region 8 with (fail)
        obtain ⟨W2, hW2⟩ : ∃ W2, W2 = wr.alloc (.cells #[.int .i64 y.own, .int .i64 y.num] 94) := ⟨_, rfl⟩
        rw [← hW2]
        have k2 : Kept wr W2 := by rw [hW2]; exact (Kept.refl _).alloc _
        have RX := Lib.hid (show RowC W2 wr.heap.size (clC y) by rw [hW2]; exact RowC.new wr (clC y) 94)
        have HK2 := Lib.hid (HKR.out.trans k2)
        have HO2 := Lib.hid (own_kept HOR.out k2)
        have HLT := Lib.hid lc
        clear hW2 k2 c0 c1 lc
        have x0 := (RX.out 0 _ rfl).1
        have x1 := (RX.out 1 _ rfl).1
        have lx := cell_lt x0
        go_wp2_with fail
        refine (HC.out _ HK2.out).mono ?_
        rintro e w3 ⟨rfl, hk3⟩
        have HK3 := Lib.hid (HK2.out.trans hk3)
        have HO3 := Lib.hid (own_kept HO2.out hk3)
        have RX3 := Lib.hid (RX.out.kept hk3)
        clear hk3 x0 x1 lx
        have x0 := (RX3.out 0 _ rfl).1
        have x1 := (RX3.out 1 _ rfl).1
        have lx := cell_lt x0
        have hlen : k + t < (mtL cls k t).length := by rw [mtL_len HKL.out (by have := HL.out; omega)]; have := HL.out; omega
        have hr := own_rowC HO3.out
        obtain ⟨z0, hz0⟩ : ∃ z, (mtL cls k t)[k + t]? = some z := ⟨_, List.getElem?_eq_getElem hlen⟩
        have d0 := hr ((k + t) * 2 + 0) _ (flat_at clC_two _ _ z0 0 _ hz0 rfl)
        have d1 := hr ((k + t) * 2 + 1) _ (flat_at clC_two _ _ z0 1 _ hz0 rfl)
        rw [Nat.add_zero] at d0
        obtain ⟨d0c, d0f⟩ := d0
        obtain ⟨d1c, d1f⟩ := d1
        have ld := cell_lt d0c
        have HMS := Lib.hid (mtL_succ HKL.out HY.out)
        have HLEN := Lib.hid hlen
        clear hr hz0 hlen
        go_wp2_with fail
        have s1 := (HO3.out.stored ((k + t) * 2) (.int .i64 y.own)).1
        have s2 := (s1.stored ((k + t) * 2 + 1) (.int .i64 y.num)).1
        rw [flat_set2 HLEN.out, HMS.out] at s2
        have kk := (HK3.out.setCell (p := ⟨g, (k + t) * 2, none⟩) (Nat.le_trans HB.out HGE.out) (.int .i64 y.own)).setCell (p := ⟨g, (k + t) * 2 + 1, none⟩) (Nat.le_trans HB.out HGE.out) (.int .i64 y.num)
        go_roundw
        case rel => exact ⟨t + 1, by omega, by first | go_num | (congr 1; push_cast; omega), by first | go_num | (congr 1; push_cast; omega), s2, kk⟩
        case measure => simp [intOf]; omega
      · obtain rfl : t = U - k := by omega
        have hGE := (HOR.out.lt _ rfl).1
        have HGE := Lib.hid hGE
        have hr := own_rowC HOR.out
        have hlen : (mtL cls k (U - k)).length = U + 1 := by rw [mtL_len HKL.out (by have := HL.out; omega), HL.out]
        obtain ⟨z0, hz0⟩ : ∃ z, (mtL cls k (U - k))[U]? = some z := ⟨_, List.getElem?_eq_getElem (by omega)⟩
        have d0 := hr (U * 2 + 0) _ (flat_at clC_two _ _ z0 0 _ hz0 rfl)
        have d1 := hr (U * 2 + 1) _ (flat_at clC_two _ _ z0 1 _ hz0 rfl)
        rw [Nat.add_zero] at d0
        obtain ⟨d0c, d0f⟩ := d0
        obtain ⟨d1c, d1f⟩ := d1
        have ld := cell_lt d0c
        have hsi : (k : Int) + ((U - k : Nat) : Int) = (U : Int) := by omega
        have hsj : (k : Int) + 1 + ((U - k : Nat) : Int) = ((U + 1 : Nat) : Int) := by omega
        have hUc : U + 1 ≤ c := huc
        have HEND := Lib.hid (mtL_end HKL.out HL.out)
        have HEL : RowKit.Hid ((erL cls k).length = U) := Lib.hid (by rw [erL_len _ _ HKL.out, HL.out]; omega)
        clear hr hz0 hlen
        rw [hsi, hsj]
        have hU0 : (0 : Int) ≤ (U : Int) := by omega
        have hU1 : (U : Int) ≤ ((U + 1 : Nat) : Int) := by omega
        have hU2 : (U : Int) ≤ (c : Int) := by omega
        have hcU : ¬ c = U := by omega
        have hUn : U + 1 - U = 1 := by omega
        have hzv : ∀ w, (zeroValue 94).run Tryz.prog w = .ok (.agg #[.int .i64 0, .int .i64 0]) w := fun w => by kernel_rfl
        have hzc : (Builtin.zeroCells #[.int .i64 0, .int .i64 0] 1).toList = [.int .i64 0, .int .i64 0] := by kernel_rfl
        have hst := run_storeCells_cells (P := Tryz.prog) g (U * 2) [.int .i64 0, .int .i64 0] 0 wr (fun j hj => by
          rcases j with _ | _ | j
          · simp [d0c]
          · simp [d1c]
          · have : j + 1 + 1 < 2 := hj
            omega) (fun j hj => by
          rcases j with _ | _ | j
          · simp [d0f]
          · simp [d1f]
          · have : j + 1 + 1 < 2 := hj
            omega) (by simp [Value.oneCell'])
        have hclr : ∀ ty, (Builtin.clear_ #[70] ty #[.slice (some ⟨g, U * 2, none⟩) 1 (c - U)]).run Tryz.prog wr = .ok (.tuple #[]) ((wr.setCell ⟨g, U * 2, none⟩ (.int .i64 0)).setCell ⟨g, U * 2 + 1, none⟩ (.int .i64 0)) := fun ty => by
          unfold Builtin.clear_
          simp only [Nat.add_zero, World.setCells] at hst
          simp [run_underlying Tryz.underlying70, hzv, Result.andThen, go_sem]
          simp only [hzc, hst]
        have s1 := (HOR.out.stored (U * 2) (.int .i64 0)).1
        have s2 := (s1.stored (U * 2 + 1) (.int .i64 0)).1
        have s3 := own_less s2 (show U ≤ U + 1 by omega)
        rw [List.take_set_of_le (by omega), List.take_set_of_le (by omega), HEND.out] at s3
        have kk := (HKR.out.setCell (p := ⟨g, U * 2, none⟩) (Nat.le_trans HB.out HGE.out) (.int .i64 0)).setCell (p := ⟨g, U * 2 + 1, none⟩) (Nat.le_trans HB.out HGE.out) (.int .i64 0)
        clear d0c d0f d1c d1f hzc hst s1 s2
        have HS := Lib.hid s3
        have HKK := Lib.hid kk
        clear s3 kk
        go_wp2_with fail
        go_ret
        rw [HEL.out]
        exact ⟨⟨_, rfl, HS.out⟩, HKK.out⟩
end Go.Proofs.YtologmoanaccpaaGreatDoor
