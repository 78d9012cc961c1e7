/-
  what the iterator of a set yields, collected: list
-/
import Derived.Test.YtologmoanaccpaaGreatDoorNA
import Derived.ChangeAlike
namespace Go.Proofs.YtologmoanaccpaaGreatDoor
set_option linter.all false
open Go.RowKit Go.Shelf
attribute [local go_sem] Oper.semAt_some

theorem own_row {w : World} {base n size : Nat} {e : TypeId} {v : Value} {xs : List Value} (h : w.ownsRow base e size v n xs) : ∀ j, v.ownBlock = some j → base ≤ j := fun j ej => by
  rcases h.2 with ⟨rfl, _⟩ | ⟨g, cap, cur, rfl, hb, _, _⟩
  · simp [Value.ownBlock] at ej
  · obtain rfl : g = j := by simpa [Value.ownBlock] using ej
    exact hb
theorem appendedB {W w1 : World} {n0 n2 B : Nat} {t e : TypeId} {size : Nat} {v v' : Value} {k m : Nat} {xs ys : List Value} {tmp : Obj}
    (hv : Boxed W B t v) (hte : t ≠ e) (hrow : W.ownsRow n2 e size v k xs) (hn0 : n0 ≤ B) (hB : B < n2)
    (hown' : w1.ownsRow n2 e size v' m ys) (hgrow : (W.alloc tmp).grownBy w1 v.ownBlock) :
    Boxed w1 B t v ∧ Boxed (w1.setCell ⟨B, 0, none⟩ v') B t v' ∧ (w1.setCell ⟨B, 0, none⟩ v').ownsRow n2 e size v' m ys ∧ KpB n0 W (w1.setCell ⟨B, 0, none⟩ v') ∧ KeepsOthers W (w1.setCell ⟨B, 0, none⟩ v') := by
  have hob : ∀ j, v.ownBlock = some j → n2 ≤ j := fun j ej => own_row hrow j ej
  have hBl := hv.lt
  have hv1 : Boxed w1 B t v := (hv.alloc tmp).kept hgrow (hv.not_row hte hrow)
  have hko : KeepsOthers W (w1.setCell ⟨B, 0, none⟩ v') := by
    refine ((KeepsOthers.alloc W tmp).trans (KeepsOthers.of_grownBy hgrow fun j o ej hj => ?_)).trans (KeepsOthers.setCell _ _ _)
    rcases (hrow.alloc tmp).2 with ⟨rfl, _⟩ | ⟨g, cap, cur, rfl, _, hgb, _⟩
    · simp [Value.ownBlock] at ej
    · obtain rfl : g = j := by simpa [Value.ownBlock] using ej
      rw [hgb] at hj; cases hj; rfl
  refine ⟨hv1, hv1.set v', hown'.kept (grownBy_setCell' w1 B v') (.inr (hv1.not_row hte hown').symm), ?_, hko⟩
  exact (((Below.refl n0 W).alloc (by omega) tmp).grown hgrow (by simp; omega) (fun j ej => by have := hob j ej; omega)).setCell (p := ⟨B, 0, none⟩) hn0 v'

theorem Kept.putDeferred {w V : World} {D : Nat} {o o' : Obj} (h : Kept w V) (hD : w.heap.size ≤ D) (hK : V.heap[D]? = some o') (hc : o'.isCells = false) (hw : o'.isWalk = false) : Kept w (V.putObj D o) :=
  h.below.trans (belowK_b (w := w) (Nat.le_refl _) V D _ _ hD hK hc hw)
theorem own_le {w : World} {b b' : Nat} {e : TypeId} {s : Nat} {v : Value} {n : Nat} {ys : List Value} (h : w.ownsRow b e s v n ys) (hb : b' ≤ b) : w.ownsRow b' e s v n ys := by
  refine ⟨h.1, ?_⟩
  rcases h.2 with h1 | ⟨g, cap, cur, h1, h2, h3⟩
  · exact .inl h1
  · exact .inr ⟨g, cap, cur, h1, Nat.le_trans hb h2, h3⟩
theorem info3 : (Tryz.prog.info? 3).map (fun i => (i.zero, i.size, i.bytes)) = some (some (.int .i64 0), 1, 8) := by kernel_rfl
def nC (x : Nat) : List Value := [.int .i64 (x : Int)]
theorem nC_len (x : Nat) : (nC x).length = 1 := rfl
def SI (h B n2 : Nat) (w : World) (pre : List Nat) (W : World) : Prop := (∃ v, Boxed W B 43 v ∧ W.ownsRow n2 3 1 v pre.length (pre.flatMap nC) ∧ True) ∧ Below h w W
theorem SI.own (h B n2 : Nat) (w : World) (B' : Nat) (hB : h ≤ B') (hw : h ≤ w.heap.size) : OwnFrom B' (SI h B n2 w) :=
  OwnFrom.and (Own.from (holdsRow_own n2 B 43 3 1 (fun pre : List Nat => pre.length) (fun pre : List Nat => pre.flatMap nC) (fun _ _ => True)) _) (ownFrom_below hw hB)
def SA (B bp : Nat) (x : Nat) (a' : Act) (W : World) : Prop :=
  a' = { tmps := #[.slice none 0 0, .func (.func 200) #[] #[.pointer (some ⟨bp, 0, none⟩)], .pointer (some ⟨B, 0, none⟩), undef, .slice none 0 0, .int .i64 (x : Int), .func (.func 200) #[] #[.pointer (some ⟨bp, 0, none⟩)], .int .i64 (x : Int), undef, undef, undef, undef, undef], defers := [] }
theorem SA.own (B bp : Nat) (x : Nat) (a' : Act) (B' : Nat) : OwnFrom B' (fun (_ : Unit) W => SA B bp x a' W) := by
  rintro s W W' row h hg hr
  exact h
def NatsRes (w : World) (xs : List Nat) (e : Ending) (w' : World) : Prop :=
  ∃ v, e = .returned v ∧ w'.ownsRow w.heap.size 3 1 v xs.length (xs.flatMap nC) ∧ Kept w w'

set_option maxRecDepth 100000 in
set_option maxHeartbeats 2000000 in
theorem appendSeq_any (bp s : Nat) (hs : s < 2 ^ 64) (w : World) (hE : EnvT w) (hl : w.cell? ⟨bp, 0, none⟩ = some (.int .u64 s)) :
    Calls Tryz.prog 199 #[.slice none 0 0, .func (.func 200) #[] #[.pointer (some ⟨bp, 0, none⟩)]] w (NatsRes w (bitsK s 64)) := by
  have hbp := cell_lt hl
  obtain ⟨W2, hW2⟩ : ∃ W2, W2 = w.alloc (.cells #[.slice none 0 0] 43) := ⟨_, rfl⟩
  have kW : Kept w W2 := by rw [hW2]; exact (Kept.refl _).alloc _
  have zB : W2.heap.size = w.heap.size + 1 := by rw [hW2]; simp
  have r11 : Boxed W2 w.heap.size 43 (.slice none 0 0) := by rw [hW2]; exact Boxed.new w 43 (.slice none 0 0)
  have hI0 : SI w.heap.size w.heap.size (w.heap.size + 1) w [] W2 := ⟨⟨_, r11, World.ownsRow_nil _ _ _ _, trivial⟩, kW.below⟩
  have hseq := each_stops 7 (by omega) bp s hs w hE W2 kW ((kW.cells _ _ hbp).trans hl)
  have HK := Lib.hid kW
  have HW2 := Lib.hid hW2
  have ZB := Lib.hid zB
  have HLN : RowKit.Hid ((bitsK s 64).length ≤ 64) := Lib.hid (bitsK_len s 64)
  clear hs hl hE hW2 kW zB r11
  refine (callsIn_wide (n := 8)).1 ?_
  refine callsIn_of_wp_marks Tryz.func199 rfl trivial ?_ rfl
  simp only [Tryz.ntmps199, List.size_toArray, List.length_cons, List.length_nil, Nat.reduceAdd, Nat.reduceSub, Array.replicate_succ, Array.replicate_zero, List.push_toArray, List.append_toArray, List.nil_append, List.cons_append]
  gi_wp2_with fail
  rw [← HW2.out]
  refine wpIn_rangeFunc_ownH rfl (by omega) (gf := 200) (lb := #[.pointer (some ⟨bp, 0, none⟩)]) rfl trivial (enters_of Tryz.func200 (by kernel_rfl) rfl)
    hseq KpB.trans (KpB.put HK.out.size) (Below.refl _ _) (fun _ => rfl)
    (SI w.heap.size w.heap.size (w.heap.size + 1) w) (fun _ _ _ => False) (SI.own _ _ _ _ _ HK.out.size (Nat.le_refl _)) (fun _ _ _ _ _ hs _ _ => hs) hI0 (SA w.heap.size bp) (fun x a' => SA.own _ _ _ _ _) ?assign ?body ?done ?stop
  case assign =>
    intro l pre x V K hi hK
    gi_wp2
    exact hK _ _ (KeepsFrom.refl _ _) (Below.refl _ _) hi rfl
  case body =>
    rintro l pre x a' V hl2 - hi rfl hlt2
    obtain ⟨i0, hnf, hz0, hz1, hz2⟩ := info_parts info3
    have hlen : (bitsK s 64).length ≤ 64 := HLN.out
    obtain ⟨⟨v, hv, hrow, _⟩, hkV⟩ := hi
    have hc := hv.cell
    have hBV := hv.lt
    have HKV := Lib.hid (show Kept w V from hkV)
    have hszw := HKV.out.size
    have HA1 : RowKit.Hid (∀ j u, (nC x)[j]? = some u → (V.alloc (.cells (nC x).toArray 3)).cell? ((⟨V.heap.size, 0, none⟩ : Addr).add j) = some u) := Lib.hid (fun j u hu => by
      have e : (⟨V.heap.size, 0, none⟩ : Addr).add j = ⟨V.heap.size, j, none⟩ := by simp [Addr.add]; try omega
      rw [e]
      exact (RowC.new V (nC x) 3 j u hu).1)
    have HA2 : RowKit.Hid (∀ u ∈ nC x, u.oneCell' = true) := Lib.hid (fun u hu => by simp [nC] at hu; subst hu; rfl)
    have HA3 : RowKit.Hid (pre.length + 1 ≤ maxLen) := Lib.hid (by unfold maxLen; omega)
    have HA4 : RowKit.Hid ((pre.length + 1) * 8 ≤ 140737488355328) := Lib.hid (by omega)
    have HA5 : RowKit.Hid (w.heap.size + 1 ≤ (V.alloc (.cells (nC x).toArray 3)).heap.size) := Lib.hid (by simp; omega)
    have HV := Lib.hid hv
    have HR := Lib.hid hrow
    have HR2 := Lib.hid (hrow.alloc (.cells (nC x).toArray 3))
    clear hI0 hseq hrow hkV
    gi_wp2_with (gi_at_builtin; refine wpListIn_append_own _ rfl _ _ 43 rfl (w.heap.size + 1) 3 i0 (.int .i64 0) 1 8 Tryz.underlying43 hnf hz0 hz1 hz2 rfl (by decide) _ _ _ rfl HR2.out ⟨V.heap.size, 0, none⟩ 1 1 (nC x) rfl rfl HA1.out HA2.out HA3.out HA4.out HA5.out ?_; intro v' w4 hown' hgrow _; obtain ⟨g', cap', rfl⟩ := ownsRow_succ hown'; obtain ⟨hv1, hv2, hr2, hk2, ho2⟩ := appendedB (n0 := w.heap.size) HV.out (by decide) HR.out (Nat.le_refl _) (by omega) hown' hgrow; have hc1 := hv1.cell; have hf1 := hv1.frozen)
    exact ⟨ho2.from _, hk2, ⟨_, hv2, by rw [List.length_append, List.flatMap_append]; simpa using hr2, trivial⟩, HKV.out.below.trans hk2⟩
  case done =>
    rintro D ys V hD rfl ⟨⟨v, hv, hrow, _⟩, hkV⟩ hK
    have hc := hv.cell
    gi_wp2
    refine ⟨by simp, .inl ⟨_, _, rfl, run_takeDeferred hK, ?_⟩⟩
    have hr2 := ownsRow_putObj hrow (.deferred none) hK rfl
    exact ⟨_, results_tmp rfl _ _ _, v, rfl, own_le hr2 (by omega), (show Kept w V from hkV).putDeferred (by have := HK.out.size; omega) hK rfl rfl⟩
  case stop =>
    rintro D c pre V hD hp h _
    exact h.elim

theorem list_any (s : Nat) (hs : s < 2 ^ 64) (w : World) (hE : EnvT w) : Calls Tryz.prog 96 #[.int .u64 s] w (NatsRes w (bitsK s 64)) := by
  obtain ⟨W2, hW2⟩ : ∃ W2, W2 = w.alloc (.cells #[.int .u64 s] 117) := ⟨_, rfl⟩
  have k2 : Kept w W2 := by rw [hW2]; exact (Kept.refl _).alloc _
  have y1 : W2.cell? ⟨w.heap.size, 0, none⟩ = some (.int .u64 s) := by rw [hW2]; exact (RowC.new w [.int .u64 s] 117 0 _ rfl).1
  have HA := Lib.hid (appendSeq_any w.heap.size s hs W2 (hE.kept k2) y1)
  have HW2 := Lib.hid hW2
  clear hW2
  have HC : RowKit.Hid (Calls Tryz.prog 159 #[.func (.func 200) #[] #[.pointer (some ⟨w.heap.size, 0, none⟩)]] W2 (NatsRes W2 (bitsK s 64))) := Lib.hid (by
    clear y1 k2
    go_enter Tryz.func159, Tryz.ntmps159
    go_wp2_with fail
    refine HA.out.mono ?_
    rintro e w1 ⟨v, rfl, h3, h4⟩
    go_wp2
    go_ret
    exact ⟨v, rfl, h3, h4⟩)
  have HK := Lib.hid k2
  clear k2 y1 HA
  go_enter Tryz.func96, Tryz.ntmps96
  go_wp2_with fail
  refine (each_any s w).mono ?_
  rintro e w1 ⟨rfl, rfl⟩
  rw [← HW2.out]
  go_wp2_with fail
  refine HC.out.mono ?_
  rintro e w1 ⟨v, rfl, h3, h4⟩
  go_wp2
  go_ret
  exact ⟨v, rfl, own_le h3 HK.out.size, HK.out.trans h4⟩
end Go.Proofs.YtologmoanaccpaaGreatDoor
