/- Counting: what an iterator yields, appended -/
import Derived.Test.YtjaicilnlgjdcaaWb
namespace Go.Proofs.Ytjaicilnlgjdcaa
set_option linter.all false
open Go.RowKit Go.Shelf
attribute [local go_sem] Oper.semAt_some

/-- 'out = append(out, x)' in a round: the slice's own row lies at n2 or beyond -/
theorem appendedC {W w1 : World} {n0 n2 B bs : Nat} {t e : TypeId} {size : Nat} {v v' : Value} {k m : Nat} {xs ys : List Value} {tmp : Obj}
    (hv : Boxed W B t v) (hte : t ≠ e) (hrow : W.ownsRow n2 e size v k xs) (hn0 : n0 ≤ B) (hB : B < n2) (hbs : bs < n2) (hne : B ≠ bs)
    (hown' : w1.ownsRow n2 e size v' m ys) (hgrow : (W.alloc tmp).grownBy w1 v.ownBlock) :
    Boxed w1 B t v ∧ Boxed (w1.setCell ⟨B, 0, none⟩ v') B t v' ∧ (w1.setCell ⟨B, 0, none⟩ v').ownsRow n2 e size v' m ys ∧ KpC n0 bs W (w1.setCell ⟨B, 0, none⟩ v') ∧ KeepsOthers W (w1.setCell ⟨B, 0, none⟩ v') := by
  have hob : ∀ j, v.ownBlock = some j → n2 ≤ j := fun j ej => own_row hrow j ej
  have hBl := hv.lt
  have hv1 : Boxed w1 B t v := (hv.alloc tmp).kept hgrow (hv.not_row hte hrow)
  have hko : KeepsOthers W (w1.setCell ⟨B, 0, none⟩ v') := by
    refine ((KeepsOthers.alloc W tmp).trans (KeepsOthers.of_grownBy hgrow fun j o ej hj => ?_)).trans (KeepsOthers.setCell _ _ _)
    rcases (hrow.alloc tmp).2 with ⟨rfl, _⟩ | ⟨g, cap, cur, rfl, _, hgb, _⟩
    · simp [Value.ownBlock] at ej
    · obtain rfl : g = j := by simpa [Value.ownBlock] using ej
      rw [hgb] at hj; cases hj; rfl
  have hcell : ∀ b j, b < n2 → b < W.heap.size → w1.cell? ⟨b, j, none⟩ = W.cell? ⟨b, j, none⟩ := fun b j hb hbW => by
    unfold World.cell?
    rw [show (⟨b, j, none⟩ : Addr).block = b from rfl, (hgrow.block b (by simp; omega) (fun e => by have := hob b e.symm; omega)).trans (Below.heap_alloc W tmp b hbW)]
  refine ⟨hv1, hv1.set v', hown'.kept (grownBy_setCell' w1 B v') (.inr (hv1.not_row hte hown').symm), ⟨?_, fun u hu => ?_⟩, hko⟩
  · exact (((Below.refl n0 W).alloc (by omega) tmp).grown hgrow (by simp; omega) (fun j ej => by have := hob j ej; omega)).setCell (p := ⟨B, 0, none⟩) hn0 v'
  · rw [World.cell?_setCell_far _ _ _ _ (by simpa using hne), hcell bs 0 hbs (cell_lt hu)]; exact hu

def SI (h B n2 : Nat) (w : World) (pre : List Rcn) (W : World) : Prop := (∃ v, Boxed W B 56 v ∧ W.ownsRow n2 76 6 v pre.length (pre.flatMap rcCells) ∧ True) ∧ Below h w W
theorem SI.own (h B n2 : Nat) (w : World) (B' : Nat) (hB : h ≤ B') (hw : h ≤ w.heap.size) : OwnFrom B' (SI h B n2 w) :=
  OwnFrom.and (Own.from (holdsRow_own n2 B 56 76 6 (fun pre : List Rcn => pre.length) (fun pre : List Rcn => pre.flatMap rcCells) (fun _ _ => True)) _) (ownFrom_below hw hB)
def SA (B bl bk : Nat) (x : Rcn) (a' : Act) (W : World) : Prop :=
  ∃ Bx, B < Bx ∧ RowC W Bx (rcCells x) ∧ a' = { tmps := #[.slice none 0 0, .func (.func 107) #[] #[.pointer (some ⟨bl, 0, none⟩), .pointer (some ⟨bk, 0, none⟩)], .pointer (some ⟨B, 0, none⟩), undef, .slice none 0 0, .pointer (some ⟨Bx, 0, none⟩), .func (.func 107) #[] #[.pointer (some ⟨bl, 0, none⟩), .pointer (some ⟨bk, 0, none⟩)], rcV x, undef, undef, undef, undef, undef], defers := [] }
theorem SA.own (B bl bk : Nat) (x : Rcn) (a' : Act) (B' : Nat) : OwnFrom B' (fun (_ : Unit) W => SA B bl bk x a' W) := by
  rintro s W W' row ⟨Bx, h1, h2, h3⟩ hg hr
  exact ⟨Bx, h1, RowC.own B' Bx (fun (_ : Unit) => rcCells x) s W W' row h2 hg hr, h3⟩

set_option maxRecDepth 100000 in
set_option maxHeartbeats 2000000 in
theorem appendSeq_any (bl bk : Nat) (A : Option Addr) (nn c : Nat) (xs : List Rcn) (known : Int) (w : World) (hT : RcA w A nn c xs) (hlt : nn ≤ 1000000) (hl : w.cell? ⟨bl, 0, none⟩ = some (.slice A nn c)) (hk : w.cell? ⟨bk, 0, none⟩ = some (.int .i64 known)) :
    Calls Try.prog 106 #[.slice none 0 0, .func (.func 107) #[] #[.pointer (some ⟨bl, 0, none⟩), .pointer (some ⟨bk, 0, none⟩)]] w (RecsRes w (cntS xs known)) := by
  have HT := Lib.hid hT
  have hbl := cell_lt hl
  have hbk := cell_lt hk
  obtain ⟨W2, hW2⟩ : ∃ W2, W2 = w.alloc (.cells #[.slice none 0 0] 56) := ⟨_, rfl⟩
  have kW : Kept w W2 := by rw [hW2]; exact (Kept.refl _).alloc _
  have zB : W2.heap.size = w.heap.size + 1 := by rw [hW2]; simp
  have r11 : Boxed W2 w.heap.size 56 (.slice none 0 0) := by rw [hW2]; exact Boxed.new w 56 (.slice none 0 0)
  have hI0 : SI w.heap.size w.heap.size (w.heap.size + 1) w [] W2 := ⟨⟨_, r11, World.ownsRow_nil _ _ _ _, trivial⟩, kW.below⟩
  have hseq := counting_stops 7 (by omega) bl bk A nn c xs known w hT hlt W2 kW ((kW.cells _ _ hbl).trans hl) ((kW.cells _ _ hbk).trans hk)
  have HK := Lib.hid kW
  have HW2 := Lib.hid hW2
  have ZB := Lib.hid zB
  clear hT hl hk hW2 kW zB r11
  refine (callsIn_wide (n := 8)).1 ?_
  refine callsIn_of_wp_marks Try.func106 rfl trivial ?_ rfl
  simp only [Try.ntmps106, List.size_toArray, List.length_cons, List.length_nil, Nat.reduceAdd, Nat.reduceSub, Array.replicate_succ, Array.replicate_zero, List.push_toArray, List.append_toArray, List.nil_append, List.cons_append]
  gi_wp2_with fail
  rw [← HW2.out]
  refine wpIn_rangeFunc_ownH rfl (by omega) (gf := 107) (lb := #[.pointer (some ⟨bl, 0, none⟩), .pointer (some ⟨bk, 0, none⟩)]) rfl trivial (enters_of Try.func107 (by kernel_rfl) rfl)
    hseq KpC.trans (KpC.put HK.out.size) (Below.refl _ _) (fun _ => rfl)
    (SI w.heap.size w.heap.size (w.heap.size + 1) w) (fun _ _ _ => False) (SI.own _ _ _ _ _ HK.out.size (Nat.le_refl _)) (fun _ _ _ _ _ hs _ _ => hs) hI0 (SA w.heap.size bl bk) (fun x a' => SA.own _ _ _ _ _ _) ?assign ?body ?done ?stop
  case assign =>
    intro l pre x V K hi hK
    dsimp only [rcV]
    gi_wp2
    have hst : w.heap.size < V.heap.size := by obtain ⟨⟨v, hv, _⟩, _⟩ := hi; exact hv.lt
    exact hK _ _ ((KeepsOthers.alloc _ _).from _) (KpC.of_kept ((Kept.refl V).alloc _) hi.2.size) (OwnFrom.alloc (B := W2.heap.size) (SI.own _ _ _ _ _ HK.out.size (Nat.le_refl _)) _ hi) ⟨V.heap.size, hst, RowC.new V (rcCells x) 76, rfl⟩
  case body =>
    rintro l pre x a' V hl2 - hi ⟨Bx, hBx, bX, rfl⟩ hlt2
    obtain ⟨i0, hnf, hz0, hz1, hz2⟩ := info_parts info76
    have hlen : (cntS xs known).length ≤ 1000000 := by have := List.length_filter_le (fun x : Rcn => decide (x.kn ≤ known)) xs; have := HT.out.1; unfold cntS; omega
    have x0 := (bX 0 _ rfl).1
    have x1 := (bX 1 _ rfl).1
    have x2 := (bX 2 _ rfl).1
    have x3 := (bX 3 _ rfl).1
    have x4 := (bX 4 _ rfl).1
    have x5 := (bX 5 _ rfl).1
    have hxV := cell_lt x0
    obtain ⟨⟨v, hv, hrow, _⟩, hkV⟩ := hi
    have hc := hv.cell
    have hBV := hv.lt
    have HKV := Lib.hid (show Kept w V from hkV)
    have hszw := HKV.out.size
    have HA1 : RowKit.Hid (∀ j u, (rcCells x)[j]? = some u → (V.alloc (.cells (rcCells x).toArray 76)).cell? ((⟨V.heap.size, 0, none⟩ : Addr).add j) = some u) := Lib.hid (fun j u hu => by
      have e : (⟨V.heap.size, 0, none⟩ : Addr).add j = ⟨V.heap.size, j, none⟩ := by simp [Addr.add]; try omega
      rw [e]
      exact (RowC.new V (rcCells x) 76 j u hu).1)
    have HA2 : RowKit.Hid (∀ u ∈ rcCells x, u.oneCell' = true) := Lib.hid (rc_one x)
    have HA3 : RowKit.Hid (pre.length + 1 ≤ maxLen) := Lib.hid (by unfold maxLen; omega)
    have HA4 : RowKit.Hid ((pre.length + 1) * 48 ≤ 140737488355328) := Lib.hid (by omega)
    have HA5 : RowKit.Hid (w.heap.size + 1 ≤ (V.alloc (.cells (rcCells x).toArray 76)).heap.size) := Lib.hid (by simp; omega)
    have HV := Lib.hid hv
    have HR := Lib.hid hrow
    have HR2 := Lib.hid (hrow.alloc (.cells (rcCells x).toArray 76))
    have HBK := Lib.hid hbk
    clear bX hI0 hseq hrow hkV
    gi_wp2_with (gi_at_builtin; refine wpListIn_append_own _ rfl _ _ 56 rfl (w.heap.size + 1) 76 i0 (.agg #[.int .i64 0, .int .i64 0, .int .i64 0, .int .i64 0, .int .i64 0, .int .i64 0]) 6 48 Try.underlying56 hnf hz0 hz1 hz2 rfl (by decide) _ _ _ rfl HR2.out ⟨V.heap.size, 0, none⟩ 1 1 (rcCells x) rfl rfl HA1.out HA2.out HA3.out HA4.out HA5.out ?_; intro v' w4 hown' hgrow _; obtain ⟨g', cap', rfl⟩ := ownsRow_succ hown'; obtain ⟨hv1, hv2, hr2, hk2, ho2⟩ := appendedC (n0 := w.heap.size) (bs := bk) HV.out (by decide) HR.out (Nat.le_refl _) (by omega) (by have := HBK.out; omega) (by have := HBK.out; omega) hown' hgrow; have hc1 := hv1.cell; have hf1 := hv1.frozen)
    exact ⟨ho2.from _, hk2, ⟨_, hv2, by rw [List.length_append, List.flatMap_append]; simpa using hr2, trivial⟩, HKV.out.below.trans hk2.1⟩
  case done =>
    rintro D ys V hD rfl ⟨⟨v, hv, hrow, _⟩, hkV⟩ hK
    have hc := hv.cell
    gi_wp2
    refine ⟨by simp, .inl ⟨_, _, rfl, run_takeDeferred hK, ?_⟩⟩
    have hr2 := ownsRow_putObj hrow (.deferred none) hK rfl
    obtain ⟨A', c', rfl, hs⟩ := own_outK rc_len (by decide) hr2
    exact ⟨_, results_tmp rfl _ _ _, A', (cntS xs known).length, c', rfl, sli_recs hs, fun a ha => by subst ha; have := own_row hr2 a.block rfl; omega, (show Kept w V from hkV).putDeferred (by have := HK.out.size; omega) hK rfl rfl⟩
  case stop =>
    rintro D c pre V hD hp h _
    exact h.elim

/-- the code's Counting -/
theorem ccounting_any (A : Option Addr) (n c : Nat) (xs : List Rcn) (known : Int) (w : World) (hT : RcA w A n c xs) (hlt : n ≤ 1000000) :
    Calls Try.prog 47 #[.slice A n c, .int .i64 known] w (RecsRes w (cntS xs known)) := by
  have HT := Lib.hid hT
  clear hT
  have H93 : RowKit.Hid (∀ (bl bk : Nat) (W : World), Kept w W → W.cell? ⟨bl, 0, none⟩ = some (.slice A n c) → W.cell? ⟨bk, 0, none⟩ = some (.int .i64 known) → Calls Try.prog 93 #[.func (.func 107) #[] #[.pointer (some ⟨bl, 0, none⟩), .pointer (some ⟨bk, 0, none⟩)]] W (RecsRes W (cntS xs known))) := Lib.hid (fun bl bk W hW h1 h2 => by
    have H := Lib.hid (appendSeq_any bl bk A n c xs known W (HT.out.kept hW) hlt h1 h2)
    go_enter Try.func93, Try.ntmps93
    go_wp2_with fail
    refine H.out.mono ?_
    rintro e w1 ⟨A', n', c', rfl, h3, h4, h5⟩
    go_wp2
    go_ret
    exact ⟨A', n', c', rfl, h3, h4, h5⟩)
  obtain ⟨W2, hW2⟩ : ∃ W2, W2 = (w.alloc (.cells #[.slice A n c] 56)).alloc (.cells #[.int .i64 known] 3) := ⟨_, rfl⟩
  have k2 : Kept w W2 := by rw [hW2]; exact ((Kept.refl _).alloc _).alloc _
  have y1 : W2.cell? ⟨w.heap.size, 0, none⟩ = some (.slice A n c) := by rw [hW2]; exact cellOldK (cellNew rfl rfl)
  have y2 : W2.cell? ⟨w.heap.size + 1, 0, none⟩ = some (.int .i64 known) := by rw [hW2]; exact cellNew (by simp) rfl
  have HC := Lib.hid (H93.out _ _ W2 k2 y1 y2)
  have HW2 := Lib.hid hW2
  have HK := Lib.hid k2
  clear hW2 k2 y1 y2
  go_enter Try.func47, Try.ntmps47
  go_wp2_with fail
  refine (counting_any A n c known w).mono ?_
  rintro e w1 ⟨rfl, rfl⟩
  rw [← HW2.out]
  go_wp2_with fail
  refine HC.out.mono ?_
  rintro e w3 ⟨A', n', c', rfl, h3, h4, h5⟩
  go_wp2
  go_ret
  exact ⟨A', n', c', rfl, h3, fun a ha => Nat.le_trans HK.out.size (h4 a ha), HK.out.trans h5⟩
end Go.Proofs.Ytjaicilnlgjdcaa
