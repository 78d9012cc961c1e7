/- Passage -/
import Derived.Test.YtjaicilnlgjdcaaWj
import Derived.Deep.RegionLaw
import Derived.Deep.AppendLies
namespace Go.Proofs.Ytjaicilnlgjdcaa
set_option linter.all false
open Go.RowKit Go.Shelf

def ocV (r : Rt) (c : Ct) : Iv := ⟨(ocI r.m r.d c.id c.dy c.sh c.nu c.wo).1, (ocI r.m r.d c.id c.dy c.sh c.nu c.wo).2.1, (ocI r.m r.d c.id c.dy c.sh c.nu c.wo).2.2⟩
def okV (r : Rt) (c : Ct) : Bool := ocOk r.m r.d c.id c.dy c.sh c.nu c.wo
def spn (rs : List Rt) (cs : List Ct) : List Iv := List.zipWith ocV rs cs
def iv0 : Iv := ⟨0, 0, false⟩
def PassRes (rs : List Rt) (cs : List Ct) (x : Iv) (ids : List Int) (er : Int) : Prop :=
  (er = 2 ∧ 200 < cs.length ∧ x = iv0 ∧ ids = []) ∨
  (er = 1 ∧ cs.length ≤ 200 ∧ (cs.length = 0 ∨ rs.length ≠ cs.length ∨ ∃ (k : Nat) (r : Rt) (c : Ct), rs[k]? = some r ∧ cs[k]? = some c ∧ okV r c = false) ∧ x = iv0 ∧ ids = []) ∨
  (er = 0 ∧ cs.length ≤ 200 ∧ 0 < cs.length ∧ rs.length = cs.length ∧ (∀ (k : Nat) (r : Rt) (c : Ct), rs[k]? = some r → cs[k]? = some c → okV r c = true) ∧ x = foldB ⟨0, 100000, true⟩ (spn rs cs) ∧ ApRes (spn rs cs) ids)
def PassOut (w : World) (rs : List Rt) (cs : List Ct) (e : Ending) (w' : World) : Prop :=
  ∃ (x : Iv) (ids : List Int) (er : Int) (A : Option Addr) (n c : Nat), e = .returned (.tuple #[.agg #[.int .i64 x.lo, .int .i64 x.hi, .bool x.so], .slice A n c, .int .i64 er]) ∧ IntA w' A n c ids ∧ PassRes rs cs x ids er ∧ Kept w w'
theorem spn_at {rs : List Rt} {cs : List Ct} {k : Nat} {r : Rt} {c : Ct} (hr : rs[k]? = some r) (hc : cs[k]? = some c) : (spn rs cs)[k]? = some (ocV r c) := by
  unfold spn; rw [List.getElem?_zipWith, hr, hc]
theorem spn_len (rs : List Rt) (cs : List Ct) (h : rs.length = cs.length) : (spn rs cs).length = cs.length := by unfold spn; simp [h]

theorem ocV_good {r : Rt} {c : Ct} (h : okV r c = true) : ocV r c = ⟨spL (leastOf r.d c.nu) (mostOf r.m (c.nu + c.wo)), spH (leastOf r.d c.nu) (mostOf r.m (c.nu + c.wo)), spS (leastOf r.d c.nu) (mostOf r.m (c.nu + c.wo))⟩ := by
  have h' : ocOk r.m r.d c.id c.dy c.sh c.nu c.wo = true := h
  have e : ocI r.m r.d c.id c.dy c.sh c.nu c.wo = spI (leastOf r.d c.nu) (mostOf r.m (c.nu + c.wo)) := by unfold ocI; rw [if_pos h']
  unfold ocV; rw [e]; unfold spI; dsimp only
theorem IntA.far {W : World} {A : Option Addr} {n c B j : Nat} {xs : List Int} {u : Value} (h : IntA W A n c xs) (hf : ∀ a, A = some a → B < a.block) : IntA (W.setCell ⟨B, j, none⟩ u) A n c xs :=
  ⟨h.1, h.2.1, h.2.2.1, fun hn => by
    obtain ⟨b, off, e, ht⟩ := h.2.2.2 hn
    have hb : B < b := hf _ e
    exact ⟨b, off, e, fun i x hx => (World.cell?_setCell_far _ _ _ _ (by simp; omega)).trans (ht i x hx)⟩⟩
theorem iv_one (x : Iv) : ∀ u ∈ ivCells x, u.oneCell' = true := by
  intro u hu
  simp [ivCells] at hu
  rcases hu with h | h | h <;> subst h <;> rfl

set_option maxRecDepth 100000 in
set_option maxHeartbeats 4000000 in
theorem passage_any (A : Option Addr) (n1 c1 : Nat) (rs : List Rt) (B : Option Addr) (n c : Nat) (cs : List Ct) (w : World) (hR : SliK 2 rtCells w A n1 c1 rs) (hC : SliK 5 ctCells w B n c cs) (hlt : n ≤ 1000000) :
    Calls Try.prog 37 #[.slice A n1 c1, .slice B n c] w (PassOut w rs cs) := by
  have HR := Lib.hid hR
  have HC := Lib.hid hC
  have hnc := hC.2.1
  have hcm := hC.2.2.1
  have hnc1 := hR.2.1
  have hcm1 := hR.2.2.1
  clear hR hC
  obtain ⟨i0, hnf, hz0, hz1, hz2⟩ := info_parts info83
  obtain ⟨W0, hW0⟩ : ∃ W0, W0 = w.alloc (.cells #[.int .i64 0, .int .i64 0, .bool false] 34) := ⟨_, rfl⟩
  have K0 : RowKit.Hid (Kept w W0) := Lib.hid (by rw [hW0]; exact (Kept.refl _).alloc _)
  have R0 : RowKit.Hid (RowC W0 w.heap.size [.int .i64 0, .int .i64 0, .bool false]) := Lib.hid (by rw [hW0]; exact RowC.new w [.int .i64 0, .int .i64 0, .bool false] 34)
  have Z0 : RowKit.Hid (W0.heap.size = w.heap.size + 1) := Lib.hid (by rw [hW0]; simp)
  have HW := Lib.hid hW0
  clear hW0
  have a0 := (R0.out 0 _ rfl).1
  have a1 := (R0.out 1 _ rfl).1
  have a2 := (R0.out 2 _ rfl).1
  have f0 := (R0.out 0 _ rfl).2
  have f1 := (R0.out 1 _ rfl).2
  have f2 := (R0.out 2 _ rfl).2
  have la := cell_lt a0
  by_cases h200 : 200 < n
  · go_enter Try.func37, Try.ntmps37
    go_upto_region 1 with (fail)
    rw [← HW.out]
    go_wp2
    refine bodyPost_ret (v := .tuple #[.agg #[.int .i64 0, .int .i64 0, .bool false], .slice none 0 0, .int .i64 2]) (by simp [results, Try.results37, go_sem, a0, a1, a2]) rfl ⟨iv0, [], 2, none, 0, 0, rfl, IntA.nil _, .inl ⟨rfl, by rw [HC.out.1]; exact h200, rfl, rfl⟩, ?_⟩
    exact ((K0.out.setCell (by simp; try omega) _).setCell (by simp; try omega) _).setCell (by simp; try omega) _
  by_cases h00 : n = 0
  · subst h00
    go_enter Try.func37, Try.ntmps37
    go_upto_region 1 with (fail)
    rw [← HW.out]
    go_wp2
    refine bodyPost_ret (v := .tuple #[.agg #[.int .i64 0, .int .i64 0, .bool false], .slice none 0 0, .int .i64 1]) (by simp [results, Try.results37, go_sem, a0, a1, a2]) rfl ⟨iv0, [], 1, none, 0, 0, rfl, IntA.nil _, .inr (.inl ⟨rfl, by rw [HC.out.1]; omega, .inl HC.out.1, rfl, rfl⟩), ?_⟩
    exact ((K0.out.setCell (by simp; try omega) _).setCell (by simp; try omega) _).setCell (by simp; try omega) _
  by_cases h11 : n1 = n
  · subst h11
    go_enter Try.func37, Try.ntmps37
    go_upto_region 1 with (fail)
    rw [← HW.out]
    have hzb : ((n1 : Int) == 0) = false := by simp; omega
    go_wp2_with fail
    go_loopw [7, 28] (fun v i wr => ∃ k : Nat, k ≤ n1 ∧ i = .int .i64 k ∧ Kept W0 wr ∧ wr.ownsRow W0.heap.size 83 3 v k (((spn rs cs).take k).flatMap ivCells) ∧ (∀ (j : Nat) (r : Rt) (c : Ct), j < k → rs[j]? = some r → cs[j]? = some c → okV r c = true)) (fun _ i _ => n1 - (intOf i).toNat)
    case atStart => exact ⟨0, by omega, by first | rfl | go_num, Kept.refl _, World.ownsRow_nil _ _ _ _, fun _ _ _ h => absurd h (Nat.not_lt_zero _)⟩
    case round =>
      obtain ⟨k, hk, rfl, hkr, hown, hok⟩ := hrel
      have HOWN := Lib.hid hown
      have HOK := Lib.hid hok
      have HKR := Lib.hid hkr
      have hzr := hkr.size
      clear hown hok a0 a1 a2 f0 f1 f2 la
      by_cases hlt2 : k < n1
      · obtain ⟨b, off, hA, htab⟩ := HR.out.2.2.2 (by omega)
        obtain ⟨b2, off2, hB, htab2⟩ := HC.out.2.2.2 (by omega)
        subst hA hB
        obtain ⟨r, hr⟩ : ∃ r, rs[k]? = some r := ⟨rs[k]'(by rw [HR.out.1]; exact hlt2), List.getElem?_eq_getElem (by rw [HR.out.1]; exact hlt2)⟩
        obtain ⟨x, hx⟩ : ∃ x, cs[k]? = some x := ⟨cs[k]'(by rw [HC.out.1]; exact hlt2), List.getElem?_eq_getElem (by rw [HC.out.1]; exact hlt2)⟩
        have HRK := Lib.hid hr
        have HXK := Lib.hid hx
        have kw := K0.out.trans hkr
        have p0 := (kw.cells _ _ (cell_lt (htab k r hr 0 _ rfl))).trans (htab k r hr 0 _ rfl)
        have p1 := (kw.cells _ _ (cell_lt (htab k r hr 1 _ rfl))).trans (htab k r hr 1 _ rfl)
        have q0 := (kw.cells _ _ (cell_lt (htab2 k x hx 0 _ rfl))).trans (htab2 k x hx 0 _ rfl)
        have q1 := (kw.cells _ _ (cell_lt (htab2 k x hx 1 _ rfl))).trans (htab2 k x hx 1 _ rfl)
        have q2 := (kw.cells _ _ (cell_lt (htab2 k x hx 2 _ rfl))).trans (htab2 k x hx 2 _ rfl)
        have q3 := (kw.cells _ _ (cell_lt (htab2 k x hx 3 _ rfl))).trans (htab2 k x hx 3 _ rfl)
        have q4 := (kw.cells _ _ (cell_lt (htab2 k x hx 4 _ rfl))).trans (htab2 k x hx 4 _ rfl)
        simp only [Nat.add_zero] at p0 q0
        have lp := cell_lt p0
        have lq := cell_lt q0
        clear htab htab2 hr hx kw
        have hi0 : (0 : Int) ≤ (k : Int) := by omega
        have hi1 : (k : Int) < (n1 : Int) := by omega
        obtain ⟨rb, hrb⟩ : ∃ rb, rb = rateB r.m r.d := ⟨_, rfl⟩
        obtain ⟨cb, hcb⟩ : ∃ cb, cb = countB x.id x.dy x.sh x.nu x.wo := ⟨_, rfl⟩
        have H59 : RowKit.Hid (∀ W, Calls Try.prog 59 #[.agg #[.int .i64 r.m, .int .i64 r.d]] W fun e w' => e = .returned (.bool rb) ∧ Kept W w') := Lib.hid (fun W => by rw [hrb]; exact isRate_any _ _ W)
        have H70 : RowKit.Hid (∀ W, Calls Try.prog 70 #[.agg #[.int .i64 x.id, .int .i64 x.dy, .int .i64 x.sh, .int .i64 x.nu, .int .i64 x.wo]] W fun e w' => e = .returned (.bool cb) ∧ Kept W w') := Lib.hid (fun W => by rw [hcb]; exact isCount_any _ _ _ _ _ W)
        have HRB := Lib.hid hrb
        have HCB := Lib.hid hcb
        clear hrb hcb
        obtain ⟨W8, hW8⟩ : ∃ W8, W8 = wr.alloc (.cells #[.int .i64 x.id, .int .i64 x.dy, .int .i64 x.sh, .int .i64 x.nu, .int .i64 x.wo] 25) := ⟨_, rfl⟩
        have k8 : Kept wr W8 := by rw [hW8]; exact (Kept.refl _).alloc _
        have RX : RowKit.Hid (RowC W8 wr.heap.size (ctCells x)) := Lib.hid (by rw [hW8]; exact RowC.new wr (ctCells x) 25)
        have K8 := Lib.hid k8
        have HW8 := Lib.hid hW8
        clear hW8 k8 hkr
        go_upto_region 9 with (fail)
        rw [← HW8.out]
        replace p0 := (K8.out.cells _ _ lp).trans p0
        replace p1 := (K8.out.cells _ _ lp).trans p1
        replace lp := cell_lt p0
        clear q0 q1 q2 q3 q4 lq
        go_wp2_with fail
        refine (H59.out _).mono ?_
        rintro e w5 ⟨rfl, hk5⟩
        have K5 := Lib.hid (K8.out.trans hk5)
        replace p0 := (hk5.cells _ _ lp).trans p0
        replace p1 := (hk5.cells _ _ lp).trans p1
        replace lp := cell_lt p0
        replace RX := Lib.hid (RX.out.kept hk5)
        clear hk5
        cases rb
        · have HBAD : RowKit.Hid (okV r x = false) := Lib.hid (by unfold okV ocOk; rw [← HRB.out]; rfl)
          have R5 := R0.out.kept (HKR.out.trans K5.out)
          have a0 := (R5 0 _ rfl).1
          have a1 := (R5 1 _ rfl).1
          have a2 := (R5 2 _ rfl).1
          have f0 := (R5 0 _ rfl).2
          have f1 := (R5 1 _ rfl).2
          have f2 := (R5 2 _ rfl).2
          have KX := Lib.hid (K0.out.trans (HKR.out.trans K5.out))
          clear R5
          go_wp2
          refine bodyPost_ret (v := .tuple #[.agg #[.int .i64 0, .int .i64 0, .bool false], .slice none 0 0, .int .i64 1]) (by simp [results, Try.results37, go_sem, a0, a1, a2]) rfl ⟨iv0, [], 1, none, 0, 0, rfl, IntA.nil _, .inr (.inl ⟨rfl, by rw [HC.out.1]; omega, .inr (.inr ⟨k, r, x, HRK.out, HXK.out, HBAD.out⟩), rfl, rfl⟩), ?_⟩
          exact ((KX.out.setCell (by simp; try omega) _).setCell (by simp; try omega) _).setCell (by simp; try omega) _
        have x0 := (RX.out 0 _ rfl).1
        have x1 := (RX.out 1 _ rfl).1
        have x2 := (RX.out 2 _ rfl).1
        have x3 := (RX.out 3 _ rfl).1
        have x4 := (RX.out 4 _ rfl).1
        have lx := cell_lt x0
        go_wp2_with fail
        refine (H70.out _).mono ?_
        rintro e w6 ⟨rfl, hk6⟩
        replace K5 := Lib.hid (K5.out.trans hk6)
        replace p0 := (hk6.cells _ _ lp).trans p0
        replace p1 := (hk6.cells _ _ lp).trans p1
        replace lp := cell_lt p0
        replace RX := Lib.hid (RX.out.kept hk6)
        clear hk6 x0 x1 x2 x3 x4 lx
        cases cb
        · have HBAD : RowKit.Hid (okV r x = false) := Lib.hid (by unfold okV ocOk; rw [← HRB.out, ← HCB.out]; rfl)
          have R5 := R0.out.kept (HKR.out.trans K5.out)
          have a0 := (R5 0 _ rfl).1
          have a1 := (R5 1 _ rfl).1
          have a2 := (R5 2 _ rfl).1
          have f0 := (R5 0 _ rfl).2
          have f1 := (R5 1 _ rfl).2
          have f2 := (R5 2 _ rfl).2
          have KX := Lib.hid (K0.out.trans (HKR.out.trans K5.out))
          clear R5
          go_wp2
          refine bodyPost_ret (v := .tuple #[.agg #[.int .i64 0, .int .i64 0, .bool false], .slice none 0 0, .int .i64 1]) (by simp [results, Try.results37, go_sem, a0, a1, a2]) rfl ⟨iv0, [], 1, none, 0, 0, rfl, IntA.nil _, .inr (.inl ⟨rfl, by rw [HC.out.1]; omega, .inr (.inr ⟨k, r, x, HRK.out, HXK.out, HBAD.out⟩), rfl, rfl⟩), ?_⟩
          exact ((KX.out.setCell (by simp; try omega) _).setCell (by simp; try omega) _).setCell (by simp; try omega) _
        have HGOOD : RowKit.Hid (okV r x = true) := Lib.hid (by unfold okV ocOk; rw [← HRB.out, ← HCB.out]; rfl)
        obtain ⟨⟨sl, sh, so⟩, hS⟩ : ∃ S : Iv, S = ocV r x := ⟨_, rfl⟩
        have H75 : RowKit.Hid (∀ W, Calls Try.prog 75 #[.agg #[.int .i64 r.m, .int .i64 r.d], .agg #[.int .i64 x.id, .int .i64 x.dy, .int .i64 x.sh, .int .i64 x.nu, .int .i64 x.wo]] W fun e w' => e = .returned (.agg #[.int .i64 sl, .int .i64 sh, .bool so]) ∧ Kept W w') := Lib.hid (fun W => by
          obtain ⟨⟨m0, m1⟩, d0, d1⟩ := rateB_bd HRB.out.symm
          obtain ⟨⟨u0, u1⟩, v0, v1⟩ := countB_bd HCB.out.symm
          have := allowedBy_any r.m r.d x.id x.dy x.sh x.nu x.wo m0 m1 d0 d1 u0 (by omega) v0 v1 W
          have hg := ocV_good HGOOD.out
          generalize leastOf r.d x.nu = L at this hg
          generalize mostOf r.m (x.nu + x.wo) = M at this hg
          rw [hg] at hS
          injection hS with h1 h2 h3
          rwa [← h1, ← h2, ← h3] at this)
        have HSN : RowKit.Hid ((spn rs cs).take (k + 1) = (spn rs cs).take k ++ [⟨sl, sh, so⟩]) := Lib.hid (by rw [take_snoc' (spn_at HRK.out HXK.out), hS])
        have x0 := (RX.out 0 _ rfl).1
        have x1 := (RX.out 1 _ rfl).1
        have x2 := (RX.out 2 _ rfl).1
        have x3 := (RX.out 3 _ rfl).1
        have x4 := (RX.out 4 _ rfl).1
        have lx := cell_lt x0
        have HO6 := Lib.hid (own_kept HOWN.out K5.out)
        have K6D : RowKit.Hid (∀ W, Kept w6 W → wr.heap.size ≤ W.heap.size) := Lib.hid (fun W hW => (K5.out.trans hW).size)
        clear hS H59 H70
        have HA3 : RowKit.Hid (k + 1 ≤ maxLen) := Lib.hid (by unfold maxLen; omega)
        have HA4 : RowKit.Hid ((k + 1) * 24 ≤ 140737488355328) := Lib.hid (by omega)
        have HWW : RowKit.Hid (∀ W, Kept w6 W → Kept W0 W) := Lib.hid (fun W hW => HKR.out.trans (K5.out.trans hW))
        go_upto_region 11 with (fail)
        go_region_law (first
          | (rw [if_pos (by rfl)]; go_simp; refine (H75.out _).mono ?_; rintro e w9 ⟨rfl, hk9⟩; have kk9 := (Kept.refl w6).drew.trans hk9; go_wp2_with fail)
          | (refine step_append_lies _ (by rfl) (.tmp 45) (.tmp 52) _ (by rfl) W0.heap.size 83 i0 _ 3 24 Try.underlying87 hnf hz0 hz1 hz2 rfl (by decide) _ k _ (by rfl) (own_kept HO6.out (kk9.alloc _)) ⟨w9.heap.size, 0, none⟩ 1 1 (ivCells ⟨sl, sh, so⟩) (by rfl) (by rfl) (World.news_of_block (heap_alloc_new w9 _)) (iv_one _) (by decide) HA3.out HA4.out ((HWW.out _ (kk9.alloc _)).size) _ rfl ?_; intro g cap w10 hown10 hgrow10 hat10 hlt10)
          | fail)
        all_goals
          have HO10 := Lib.hid hown10
          have HK10 := Lib.hid ((HWW.out _ (kk9.alloc _)).grown hgrow10 (fun j ej => own_row HO6.out j ej))
          clear hown10 hgrow10 hat10 hlt10 kk9 hk9 x0 x1 x2 x3 x4 lx p0 p1 lp
          go_wp2
          go_roundw
          case rel =>
            refine ⟨k + 1, by omega, by go_num, HK10.out, by rw [HSN.out, List.flatMap_append]; simpa using HO10.out, fun j r' c' hj hr' hc' => ?_⟩
            rcases Nat.lt_or_eq_of_le (Nat.le_of_lt_succ hj) with h | h
            · exact HOK.out j r' c' h hr' hc'
            · subst h
              rw [HRK.out] at hr'
              rw [HXK.out] at hc'
              cases hr'
              cases hc'
              exact HGOOD.out
          case measure => simp [intOf] <;> omega
      · obtain rfl : k = n1 := by omega
        have hlen : (spn rs cs).length = k := by rw [spn_len rs cs (by rw [HR.out.1, HC.out.1]), HC.out.1]
        have htk : (spn rs cs).take k = spn rs cs := List.take_of_length_le (by rw [hlen]; exact Nat.le_refl _)
        have hown := HOWN.out
        rw [htk] at hown
        obtain ⟨A7, c7, rfl, hs7⟩ := own_outK iv_len (by decide) hown
        have HS7 := Lib.hid hs7
        obtain ⟨⟨ja, jb, js⟩, hJ⟩ : ∃ J : Iv, J = foldB ⟨0, 100000, true⟩ (spn rs cs) := ⟨_, rfl⟩
        have HJ := Lib.hid hJ
        have H80 : RowKit.Hid (∀ W, Kept wr W → Calls Try.prog 80 #[.agg #[.int .i64 0, .int .i64 100000, .bool true], .slice A7 k c7, .func (.func 85) #[] #[]] W fun e w' => e = .returned (.agg #[.int .i64 ja, .int .i64 jb, .bool js]) ∧ Kept W w') := Lib.hid (fun W hW => by
          have := joinedBoth_any ⟨0, 100000, true⟩ A7 k c7 (spn rs cs) W (HS7.out.kept hW) hlt
          rwa [← hJ] at this)
        have H87 : RowKit.Hid (∀ W, Kept wr W → Calls Try.prog 87 #[.slice A7 k c7] W (ApOut W (spn rs cs))) := Lib.hid (fun W hW => firstApart_any A7 k c7 (spn rs cs) W (HS7.out.kept hW) hlt)
        have HTo : RowKit.Hid (∀ W, Calls Try.prog 81 #[.int .i64 0, .int .i64 100000] W fun e w' => e = .returned (.agg #[.int .i64 0, .int .i64 100000, .bool true]) ∧ Kept W w') := Lib.hid (fun W => by
          have := to_any 0 100000 W
          rwa [show spL 0 100000 = 0 by decide, show spH 0 100000 = 100000 by decide, show spS 0 100000 = true by decide] at this)
        clear hown hs7 hJ htk hlen hkr
        go_wp2_with fail
        refine (HTo.out _).mono ?_
        rintro e w5 ⟨rfl, hk5⟩
        go_wp2_with fail
        refine (H80.out _ hk5).mono ?_
        rintro e w6 ⟨rfl, hk6⟩
        obtain ⟨W7, hW7⟩ : ∃ W7, W7 = w6.alloc (.cells #[.int .i64 ja, .int .i64 jb, .bool js] 83) := ⟨_, rfl⟩
        have RJ : RowKit.Hid (RowC W7 w6.heap.size [.int .i64 ja, .int .i64 jb, .bool js]) := Lib.hid (by rw [hW7]; exact RowC.new w6 [.int .i64 ja, .int .i64 jb, .bool js] 83)
        have K7 := Lib.hid ((hk5.trans hk6).trans (show Kept w6 W7 by rw [hW7]; exact (Kept.refl _).alloc _))
        have HW7 := Lib.hid hW7
        have R7 := Lib.hid (R0.out.kept (HKR.out.trans K7.out))
        clear hk5 hk6 hW7 H80 HTo
        go_upto_region 14 with (fail)
        rw [← HW7.out]
        have a0 := (R7.out 0 _ rfl).1
        have a1 := (R7.out 1 _ rfl).1
        have a2 := (R7.out 2 _ rfl).1
        have f0 := (R7.out 0 _ rfl).2
        have f1 := (R7.out 1 _ rfl).2
        have f2 := (R7.out 2 _ rfl).2
        have j0 := (RJ.out 0 _ rfl).1
        have j1 := (RJ.out 1 _ rfl).1
        have j2 := (RJ.out 2 _ rfl).1
        have la := cell_lt a0
        have lj := cell_lt j0
        have KX := Lib.hid (K0.out.trans (HKR.out.trans K7.out))
        go_region_law (first
          | (rw [if_pos (by rfl)]; go_simp; refine (H87.out _ K7.out.drew).mono ?_; rintro e w9 ⟨ids, A9, n9, c9, rfl, hi9, hap, hfr, hk9⟩; have kk9 := (Kept.refl W7).drew.trans hk9; replace a0 := (kk9.cells _ _ la).trans a0; replace a1 := (kk9.cells _ _ la).trans a1; replace a2 := (kk9.cells _ _ la).trans a2; replace f0 := (kk9.frozens _ _ la).trans f0; replace f1 := (kk9.frozens _ _ la).trans f1; replace f2 := (kk9.frozens _ _ la).trans f2; replace j0 := (kk9.cells _ _ lj).trans j0; replace j1 := (kk9.cells _ _ lj).trans j1; replace j2 := (kk9.cells _ _ lj).trans j2; replace la := cell_lt a0; replace lj := cell_lt j0; go_wp2_with fail)
          | fail)
        all_goals
          have HI9 := Lib.hid hi9
          have HAP := Lib.hid hap
          have HFR : RowKit.Hid (∀ a, A9 = some a → w.heap.size < a.block) := Lib.hid (fun a ha => by have h1 := hfr a ha; have h2 := cell_lt (R7.out 0 _ rfl).1; simp at h1; omega)
          have KK9 := Lib.hid (KX.out.trans kk9)
          clear hi9 hap hfr kk9 hk9
          go_wp2
          refine bodyPost_ret (v := .tuple #[.agg #[.int .i64 ja, .int .i64 jb, .bool js], .slice A9 n9 c9, .int .i64 0]) (by simp [results, Try.results37, go_sem, a0, a1, a2]) rfl ⟨⟨ja, jb, js⟩, ids, 0, A9, n9, c9, rfl, ((HI9.out.far HFR.out).far HFR.out).far HFR.out, .inr (.inr ⟨rfl, by rw [HC.out.1]; omega, by rw [HC.out.1]; omega, by rw [HR.out.1, HC.out.1], fun j r' c' hr' hc' => HOK.out j r' c' (by have := (List.getElem?_eq_some_iff.1 hc').1; rw [HC.out.1] at this; exact this) hr' hc', HJ.out, HAP.out⟩), ?_⟩
          exact ((KK9.out.setCell (by simp; try omega) _).setCell (by simp; try omega) _).setCell (by simp; try omega) _
  · go_enter Try.func37, Try.ntmps37
    go_upto_region 1 with (fail)
    rw [← HW.out]
    have hzb : ((n : Int) == 0) = false := by simp; omega
    have hnb : ((n1 : Int) == (n : Int)) = false := by simp; omega
    go_wp2
    refine bodyPost_ret (v := .tuple #[.agg #[.int .i64 0, .int .i64 0, .bool false], .slice none 0 0, .int .i64 1]) (by simp [results, Try.results37, go_sem, a0, a1, a2]) rfl ⟨iv0, [], 1, none, 0, 0, rfl, IntA.nil _, .inr (.inl ⟨rfl, by rw [HC.out.1]; omega, .inr (.inl (by rw [HR.out.1, HC.out.1]; exact h11)), rfl, rfl⟩), ?_⟩
    exact ((K0.out.setCell (by simp; try omega) _).setCell (by simp; try omega) _).setCell (by simp; try omega) _
end Go.Proofs.Ytjaicilnlgjdcaa
