/- the re-counts of a shepherd that count: the iterator -/
import Derived.Test.YtdeokdlkjgpffaaGreatDoorTn
namespace Go.Proofs.YtdeokdlkjgpffaaGreatDoor
set_option linter.all false
open Go.RowKit Go.Shelf
attribute [local go_sem] Oper.semAt_some

theorem cellOldK {W : World} {o : Obj} {b j : Nat} {v : Value} (h : W.cell? ⟨b, j, none⟩ = some v) : (W.alloc o).cell? ⟨b, j, none⟩ = some v := (((Kept.refl W).alloc o).cells _ _ (cell_lt h)).trans h
theorem roundInR {F : Fence} {m : Nat} {P : Program} {l : Nat} {f : FuncId} {tmps : Array Value} {assign body : Code} {w : World} {R : Ending → World → Prop} (k : Nat) (h : RoundIn F m P l f tmps assign body w R) : RoundIn (F.inRound k) m P l f tmps assign body w R := h
theorem yieldRound {m m' : Nat} {P : Program} {l : Nat} {f : FuncId} {tmps : Array Value} {assign body : Code} {w : World} {R : Ending → World → Prop} (h : RoundIn Fence.wide m P l f tmps assign body w R) : RoundIn Fence.wide m' P l f tmps assign body w R := ⟨h.1, fun c cs _ => h.2 c cs (roomW _)⟩
theorem filter_snoc_yes {α : Type} {p : α → Bool} {xs : List α} {x : α} (h : p x = true) : (xs ++ [x]).filter p = xs.filter p ++ [x] := by rw [List.filter_append]; simp [h]
theorem filter_snoc_no {α : Type} {p : α → Bool} {xs : List α} {x : α} (h : p x = false) : (xs ++ [x]).filter p = xs.filter p := by rw [List.filter_append]; simp [h]

/-- countingOf's own variables between two rounds -/
def OI (sh : Int) (J : List Rcn → World → Prop) (w0 : World) (by' l : Nat) (pre : List Rcn) (W : World) : Prop :=
  J (pre.filter (fun x => decide (x.sh = sh))) W ∧ RowC W by' [.func (.yield l) #[] #[]] ∧ Below w0.heap.size w0 W
def OA (l bl bk bs by' : Nat) (A : Option Addr) (nn c : Nat) (known : Int) (b1 b2 : Nat) (x : Rcn) (a' : Act) (W : World) : Prop :=
  ∃ Bx, by' < Bx ∧ RowC W Bx (rcCells x) ∧ a' = { tmps := #[.func (.yield l) #[] #[], .pointer (some ⟨bl, 0, none⟩), .pointer (some ⟨bk, 0, none⟩), .pointer (some ⟨bs, 0, none⟩), .pointer (some ⟨by', 0, none⟩), .pointer (some ⟨Bx, 0, none⟩), .slice A nn c, .int .i64 known, .func (.func 75) #[] #[.pointer (some ⟨b1, 0, none⟩), .pointer (some ⟨b2, 0, none⟩)], rcV x, undef, undef, undef, undef, undef, undef, undef, undef, undef, undef], defers := [] }
theorem OA.own (l bl bk bs by' : Nat) (A : Option Addr) (nn c : Nat) (known : Int) (b1 b2 : Nat) (x : Rcn) (a' : Act) (B : Nat) : OwnFrom B (fun (_ : Unit) W => OA l bl bk bs by' A nn c known b1 b2 x a' W) := by
  rintro s W W' row ⟨Bx, h1, h2, h3⟩ hg hr
  exact ⟨Bx, h1, RowC.own B Bx (fun (_ : Unit) => rcCells x) s W W' row h2 hg hr, h3⟩

theorem Far.cell {n1 b j : Nat} {W W' : World} {v : Value} (h : Far n1 W W') (hb : n1 ≤ b) (hr : W.cell? ⟨b, j, none⟩ = some v) : W'.cell? ⟨b, j, none⟩ = some v := by
  have e := h.2 b hb (cell_lt hr)
  unfold World.cell? at hr ⊢
  rw [show (⟨b, j, none⟩ : Addr).block = b from rfl] at hr ⊢
  rw [e]; exact hr

set_option maxRecDepth 100000 in
set_option maxHeartbeats 2000000 in
theorem countOf_at (n : Nat) (hn : 4 ≤ n) (bl bk bs : Nat) (A : Option Addr) (nn c : Nat) (xs : List Rcn) (known sh : Int) (w0 : World) (hl : w0.cell? ⟨bl, 0, none⟩ = some (.slice A nn c)) (hk : w0.cell? ⟨bk, 0, none⟩ = some (.int .i64 known)) (hs : w0.cell? ⟨bs, 0, none⟩ = some (.int .i64 sh)) (hT : RcA w0 A nn c xs) (hlt : nn ≤ 1000000) (w : World) (hw : Kept w0 w) (n1 : Nat) (hn1 : w0.heap.size ≤ n1) :
    SeqAt n 64 #[.pointer (some ⟨bl, 0, none⟩), .pointer (some ⟨bk, 0, none⟩), .pointer (some ⟨bs, 0, none⟩)] (fun x : Rcn => #[rcV x]) w0.heap.size n1 (fun ys => ys = ofS xs known sh) (fun pre => pre <+: ofS xs known sh) (cntS xs known).length w := by
  intro l J Jx W hW hn1W hJ hJx hY h0
  show CallsIn Fence.wide n Tryz.prog 64 #[.func (.yield l) #[] #[], .pointer (some ⟨bl, 0, none⟩), .pointer (some ⟨bk, 0, none⟩), .pointer (some ⟨bs, 0, none⟩)] W _
  have hkW : Kept w0 W := hw.trans hW
  have HT := Lib.hid hT
  have HY := Lib.hid hY
  have HJ := Lib.hid hJ
  have HJx := Lib.hid hJx
  have Hs := Lib.hid hs
  have F1 := Lib.hid ((hkW.cells _ _ (cell_lt hl)).trans hl)
  have F2 := Lib.hid ((hkW.cells _ _ (cell_lt hk)).trans hk)
  have hbl := cell_lt hl
  have hbk := cell_lt hk
  have hbs := cell_lt hs
  have hz := hkW.size
  obtain ⟨W1, hW1⟩ : ∃ W1 : World, W1 = W.alloc (.cells #[.func (.yield l) #[] #[]] 62) := ⟨_, rfl⟩
  have hk1 : Kept W W1 := by rw [hW1]; exact (Kept.refl _).alloc _
  have g1 : W1.cell? ⟨bl, 0, none⟩ = some (.slice A nn c) := ((hkW.trans hk1).cells _ _ hbl).trans hl
  have g2 : W1.cell? ⟨bk, 0, none⟩ = some (.int .i64 known) := ((hkW.trans hk1).cells _ _ hbk).trans hk
  have z1 : W1.heap.size = W.heap.size + 1 := by rw [hW1]; simp
  obtain ⟨W2, hW2⟩ : ∃ W2 : World, W2 = (W1.alloc (.cells #[.slice A nn c] 49)).alloc (.cells #[.int .i64 known] 3) := ⟨_, rfl⟩
  have hk2 : Kept W1 W2 := by rw [hW2]; exact ((Kept.refl _).alloc _).alloc _
  have z2 : W2.heap.size = W.heap.size + 1 + 1 + 1 := by rw [hW2]; simp [z1]
  have r0 : RowC W1 W.heap.size [.func (.yield l) #[] #[]] := by rw [hW1]; exact RowC.new W _ 62
  have y1 : W2.cell? ⟨W1.heap.size, 0, none⟩ = some (.slice A nn c) := by rw [hW2]; exact cellOldK (cellNew rfl rfl)
  have y2 : W2.cell? ⟨W1.heap.size + 1, 0, none⟩ = some (.int .i64 known) := by rw [hW2]; exact cellNew (by simp) rfl
  have hkW2 : Kept w0 W2 := (hkW.trans hk1).trans hk2
  have I0 : OI sh J w0 W.heap.size l [] W2 := ⟨HJ.out _ _ _ none h0 (kept_grown (hk1.trans hk2)) (fun r e => by cases e), r0.kept hk2, hkW2.below⟩
  have hI : OwnFrom W2.heap.size (OI sh J w0 W.heap.size l) := OwnFrom.and (fun s X Y row h hg hr => HJ.out _ X Y row h hg (fun r e => ⟨by have := (hr r e).1; omega, (hr r e).2⟩)) (OwnFrom.and (RowC.own _ _ (fun _ => [.func (.yield l) #[] #[]])) (ownFrom_below (Nat.le_refl _) hkW2.size))
  have HI := Lib.hid hI
  have Y1 := Lib.hid y1
  have Y2 := Lib.hid y2
  have HW1 := Lib.hid hW1
  have HW2 := Lib.hid hW2
  have HkW2 := Lib.hid hkW2
  have HT2 := Lib.hid (HT.out.kept hkW2)
  have Z1 := Lib.hid z1
  have Z2 := Lib.hid z2
  have HI0 := Lib.hid I0
  clear hT hY hJ hJx hs hl hk hW1 hW2 hkW2 z1 z2 y1 y2 r0 hI I0 hk1 hk2
  refine callsIn_of_wp_marks Tryz.func64 rfl trivial ?_ rfl
  simp only [Tryz.ntmps64, List.size_toArray, List.length_cons, List.length_nil, Nat.reduceAdd, Nat.reduceSub, Array.replicate_succ, Array.replicate_zero, List.push_toArray, List.append_toArray, List.nil_append, List.cons_append]
  have f1 : W.cell? ⟨bl, 0, none⟩ = some (.slice A nn c) := F1.out
  have f2 : W.cell? ⟨bk, 0, none⟩ = some (.int .i64 known) := F2.out
  have hblW : bl < W.heap.size := by omega
  have hbkW : bk < W.heap.size := by omega
  gi_wp2_with fail
  rw [← HW1.out]
  refine ⟨trivial, fun _ => by omega, ?_⟩
  refine (callsIn_wide.2 (counting_any A nn c known W1)).mono ?_
  rintro e w2 ⟨rfl, rfl⟩
  gi_wp2_with fail
  rw [← HW2.out]
  refine wpIn_rangeFunc_ownH rfl (by omega) (gf := 75) (lb := #[.pointer (some ⟨W1.heap.size, 0, none⟩), .pointer (some ⟨W1.heap.size + 1, 0, none⟩)]) rfl trivial (enters_of Tryz.func75 (by kernel_rfl) rfl)
    (counting_stops (n - 1) (by omega) _ _ A nn c xs known w0 HT.out hlt W2 HkW2.out Y1.out Y2.out) KpC.trans (KpC.put HkW2.out.size) (Below.refl _ _) (fun _ => rfl)
    (OI sh J w0 W.heap.size l) (fun c pre V => Jx (pre.filter (fun x => decide (x.sh = sh))) V ∧ c = .ret) HI.out (fun c => OwnFrom.and (fun s X Y row h hg hr => HJx.out _ X Y row h hg (fun r e => ⟨by have := (hr r e).1; have := Z2.out; omega, (hr r e).2⟩)) (ownFrom_pure _ _)) HI0.out (OA l bl bk bs W.heap.size A nn c known W1.heap.size (W1.heap.size + 1)) (fun x a' => OA.own _ _ _ _ _ _ _ _ _ _ _ _ _ _) ?assign ?body ?done ?stop
  case assign =>
    intro l2 pre x V K hi hK
    dsimp only [rcV]
    gi_wp2
    have hst : W.heap.size < V.heap.size := cell_lt (hi.2.1 0 _ rfl).1
    exact hK _ _ ((KeepsOthers.alloc _ _).from _) (KpC.of_kept ((Kept.refl V).alloc _) hi.2.2.size) (OwnFrom.alloc (B := W2.heap.size) HI.out _ hi) ⟨V.heap.size, hst, RowC.new V (rcCells x) 25, rfl⟩
  case body =>
    rintro l2 pre x a' V hl2 ⟨r, hr⟩ hi ⟨Bx, hBx, bX, rfl⟩ hlt2
    have x0 := (bX 0 _ rfl).1
    have x1 := (bX 1 _ rfl).1
    have x2 := (bX 2 _ rfl).1
    have x3 := (bX 3 _ rfl).1
    have x4 := (bX 4 _ rfl).1
    have x5 := (bX 5 _ rfl).1
    have hkV : Kept w0 V := hi.2.2
    have sV := (hkV.cells _ _ hbs).trans Hs.out
    have yb := (hi.2.1 0 _ rfl).1
    have HI3 := Lib.hid hi
    have BX := Lib.hid bX
    clear bX
    by_cases hsh : (x.sh == sh) = true
    · obtain ⟨fn, tmps, assign, body, hy, hR⟩ := HY.out _ x V hi.1 (Nat.lt_of_le_of_lt (List.length_filter_le _ _) hlt2)
      have HP := Lib.hid (filter_snoc_yes (p := fun x : Rcn => decide (x.sh = sh)) (xs := pre) (x := x) (by simpa using hsh))
      simp only [rcV] at hy
      gi_wp2
      refine ⟨fun _ => by omega, (roundInR l2 (yieldRound hR)).mono ?_⟩
      rintro e V3 (⟨rfl, hJ3, hk3⟩ | ⟨rfl, hJx3, hk3⟩)
      · gi_wp2
        exact ⟨keepsFrom_le hk3.2.keeps (by have := Z2.out; omega), ⟨hk3.1, fun v hv => hk3.2.cell (by have := Z1.out; omega) hv⟩, by rw [HP.out]; exact hJ3, hk3.2.row hn1W HI3.out.2.1, HI3.out.2.2.trans hk3.1⟩
      · gi_wp2
        exact ⟨keepsFrom_le hk3 (by have := Z2.out; omega), by rw [HP.out]; exact hJx3, rfl⟩
    · have HP := Lib.hid (filter_snoc_no (p := fun x : Rcn => decide (x.sh = sh)) (xs := pre) (x := x) (by simpa using hsh))
      have hsh' : (x.sh == sh) = false := by simpa using hsh
      clear hsh
      gi_wp2
      refine ⟨fun _ h => (by cases h), ?_⟩
      gi_wp2
      exact ⟨KeepsFrom.refl _ _, KpC.of_kept (Kept.refl _) hkV.size, by rw [HP.out]; exact HI3.out.1, HI3.out.2.1, HI3.out.2.2⟩
  case done =>
    rintro D ys V hD rfl hi hK
    gi_wp2
    refine ⟨by simp, .inl ⟨_, _, rfl, run_takeDeferred hK, ?_⟩⟩
    exact ⟨_, results_none rfl _ _ _, ⟨_, rfl⟩, .inl ⟨_, rfl, HJ.out.putObj _ hi.1 (by have := Z2.out; omega) hK rfl⟩⟩
  case stop =>
    rintro D c pre V hD hp ⟨hJ3, rfl⟩ hK
    gi_wp2
    refine ⟨by simp, .inl ⟨_, _, rfl, run_takeDeferred hK, ?_⟩⟩
    exact ⟨_, results_none rfl _ _ _, ⟨_, rfl⟩, .inr ⟨_, List.IsPrefix.filter _ hp, HJx.out.putObj _ hJ3 (by have := Z2.out; omega) hK rfl⟩⟩
end Go.Proofs.YtdeokdlkjgpffaaGreatDoor
