/-
  Append, of the reference, where the table takes the record.
-/
import Derived.Test.YtcjpecdnenemaaaGreatDoorRs2
import Derived.Deep.AppendLies
import Derived.Deep.RegionLaw
namespace Go.Proofs.YtcjpecdnenemaaaGreatDoor
set_option linter.all false
open Go.RowKit Go.Shelf

theorem nb2 (x : Eqv) (w : World) : ((w.drew.alloc (.cells #[] 37)).alloc (boxX x)).heap[w.heap.size + 1]? = some (boxX x) := by
  have h := heap_alloc_new (w.drew.alloc (.cells #[] 37)) (boxX x)
  rw [show (w.drew.alloc (.cells #[] 37)).heap.size = w.heap.size + 1 by simp] at h
  exact h
theorem nb3 (x : Eqv) (w : World) : ((w.drew.alloc (boxX x)).alloc (.cells #[] 37)).heap[w.heap.size]? = some (boxX x) := by
  have h := heap_alloc_new w.drew (boxX x)
  exact (((Kept.refl (w.drew.alloc (boxX x))).alloc (.cells #[] 37)).block w.heap.size (by simp)).trans h
theorem plain_at (b i : Nat) : (⟨b, 0, none⟩ : Addr).add i = ⟨b, i, none⟩ := by
  unfold Addr.add
  split <;> simp_all
theorem own0 (W : World) (B : Nat) (hB : W.heap.size = B) : (W.alloc (.cells #[] 37)).ownsRow B 37 7 (.slice (some ⟨B, 0, none⟩) 0 0) 0 [] := by
  subst hB
  exact ⟨rfl, .inr ⟨W.heap.size, 0, #[], rfl, Nat.le_refl _, heap_alloc_new _ _, by omega, by simp [maxLen], rfl, rfl⟩⟩
set_option maxRecDepth 100000 in
set_option maxHeartbeats 3200000 in
theorem rappend_pos (A : Option Addr) (n c : Nat) (xs : List Eqv) (x : Eqv) (hs : x.sort.size ≤ 9223372036854775807) (h0 : (chkS (xs ++ [x])).2 = 0) (w : World) (h : TabA w A n c xs) (hpos : 0 < n) :
    Calls Tryz.prog 39 #[.slice A n c, eqV x] w (TabRes w (xs ++ [x])) := by
  obtain ⟨i0, hi0, hz0, hz1, hz2⟩ := info_parts info37
  have HT := Lib.hid h
  have X0 := Lib.hid (RowC.new w (eqCells x) 37)
  have KB := Lib.hid ((Kept.refl w).alloc (boxX x))
  have hln := h.1
  have CK := Lib.hid (fun W h => rcheck_any A n c xs W h)
  have hc := chk_pre h0
  have hl := chk_len hc
  have hr := chk_last h0
  have RF := Lib.hid (fun W h => rrefused_any A n c xs x 0 hr hs (by omega) W h)
  rw [hc] at CK
  clear h hc h0 hr
  obtain ⟨F, hF⟩ : ∃ F, (chkS xs).1 = F := ⟨_, rfl⟩
  rw [hF] at CK
  clear hF
  obtain ⟨id, frm, kno, srt, num, den, off⟩ := x
  unfold boxX at KB
  unfold eqV at RF ⊢
  dsimp only at KB RF ⊢
  go_enter Tryz.func39, Tryz.ntmps39
  go_wp2_with fail
  refine (CK.out _ (HT.out.kept KB.out)).mono ?_
  rintro e w1 ⟨rfl, hk1⟩
  have K1 := Lib.hid (KB.out.trans hk1)
  have X1 := Lib.hid (X0.out.kept hk1)
  have x0 := (X1.out 0 _ rfl).1
  have x1 := (X1.out 1 _ rfl).1
  have x2 := (X1.out 2 _ rfl).1
  have x3 := (X1.out 3 _ rfl).1
  have x4 := (X1.out 4 _ rfl).1
  have x5 := (X1.out 5 _ rfl).1
  have x6 := (X1.out 6 _ rfl).1
  clear hk1
  go_wp2_with fail
  refine (RF.out _ (HT.out.kept K1.out)).mono ?_
  rintro e w2 ⟨rfl, hk2⟩
  have K2 := Lib.hid (K1.out.trans hk2)
  have X2 := Lib.hid (X1.out.kept hk2)
  clear hk2 x0 x1 x2 x3 x4 x5 x6
  have x0 := (X2.out 0 _ rfl).1
  have x1 := (X2.out 1 _ rfl).1
  have x2 := (X2.out 2 _ rfl).1
  have x3 := (X2.out 3 _ rfl).1
  have x4 := (X2.out 4 _ rfl).1
  have x5 := (X2.out 5 _ rfl).1
  have x6 := (X2.out 6 _ rfl).1
  obtain ⟨b, of, hB, htab⟩ := HT.out.2.2.2.2 hpos
  subst hB
  have HL := Lib.hid (show (flat7 xs).length = n * 7 by rw [flat_len, hln])
  have HN := Lib.hid (fun (W : World) (hW : Kept w2 W) => (htab.kept (K2.out.trans hW)).news)
  have HB := Lib.hid hpos
  have HM := Lib.hid (show n ≤ 200 by omega)
  clear htab hl hpos
  have hlt2 : w.heap.size < w2.heap.size := cell_lt x0
  have hne2 : ¬ w2.heap.size = w.heap.size := by omega
  go_wp2_with fail
  go_upto_region 7 with fail
  go_region_law (first
    | (refine step_append_lies _ (by rfl) (.tmp 23) (.tmp 24) _ (by rfl) w2.heap.size 37 i0 _ 7 64 Tryz.underlying35 hi0 hz0 hz1 hz2 rfl (by decide) (.slice (some ⟨w2.heap.size, 0, none⟩) 0 0) 0 [] (by rfl) (own_base (own0 w2.drew w2.heap.size rfl) (by simp)) ⟨b, of, none⟩ n c (flat7 xs) (by rfl) HL.out (HN.out _ (((Kept.refl _).drew).alloc _)) (flat_one xs) HB.out (by have := HM.out; simp only [maxLen]; omega) (by have := HM.out; omega) (by simp) _ rfl ?_; intro g cap w3 hown3 hgrow3 hat3 hlt3; have KK : Kept w2 w3 := ((((Kept.refl w2).drew).alloc (.cells #[] 37))).grown hgrow3 (fun k hk => by simp [Value.ownBlock] at hk; all_goals omega); have X3 := X2.out.kept KK; have y0 := (X3 0 _ rfl).1; have y1 := (X3 1 _ rfl).1; have y2 := (X3 2 _ rfl).1; have y3 := (X3 3 _ rfl).1; have y4 := (X3 4 _ rfl).1; have y5 := (X3 5 _ rfl).1; have y6 := (X3 6 _ rfl).1)
    | (refine step_append_lies _ (by rfl) (.tmp 23) (.tmp 24) _ (by rfl) w2.heap.size 37 i0 _ 7 64 Tryz.underlying35 hi0 hz0 hz1 hz2 rfl (by decide) (.slice (some ⟨w2.heap.size, 0, none⟩) 0 0) 0 [] (by rfl) (own_kept (own_base (own0 w2.drew w2.heap.size rfl) (by simp)) ((Kept.refl _).alloc _)) ⟨b, of, none⟩ n c (flat7 xs) (by rfl) HL.out (HN.out _ ((((Kept.refl _).drew).alloc _).alloc _)) (flat_one xs) HB.out (by have := HM.out; simp only [maxLen]; omega) (by have := HM.out; omega) (by first | (simp; done) | (simp; omega)) _ rfl ?_; intro g cap w3 hown3 hgrow3 hat3 hlt3; have NB : ∀ j u, (eqCells ⟨id, frm, kno, srt, num, den, off⟩)[j]? = some u → w3.cell? ((⟨w2.heap.size + 1, 0, none⟩ : Addr).add j) = some u := fun j u hu => (by have h0 := news_block (nb2 ⟨id, frm, kno, srt, num, den, off⟩ w2) j u hu; rw [plain_at] at h0 ⊢; exact (hgrow3.cell_far _ (by first | (simp; done) | (simp; omega)) (by first | (simp [Value.ownBlock]; done) | (simp [Value.ownBlock]; omega))).trans h0); have KK : Kept w2 w3 := (((((Kept.refl w2).drew).alloc (.cells #[] 37)).alloc (boxX ⟨id, frm, kno, srt, num, den, off⟩))).grown hgrow3 (fun k hk => by simp [Value.ownBlock] at hk; all_goals omega); have X3 := X2.out.kept KK; have y0 := (X3 0 _ rfl).1; have y1 := (X3 1 _ rfl).1; have y2 := (X3 2 _ rfl).1; have y3 := (X3 3 _ rfl).1; have y4 := (X3 4 _ rfl).1; have y5 := (X3 5 _ rfl).1; have y6 := (X3 6 _ rfl).1)
    | (refine step_append_lies _ (by rfl) (.tmp 23) (.tmp 24) _ (by rfl) w2.heap.size 37 i0 _ 7 64 Tryz.underlying35 hi0 hz0 hz1 hz2 rfl (by decide) (.slice (some ⟨w2.heap.size + 1, 0, none⟩) 0 0) 0 [] (by rfl) (own_base (own0 (w2.drew.alloc (boxX ⟨id, frm, kno, srt, num, den, off⟩)) (w2.heap.size + 1) (by simp)) (by simp)) ⟨b, of, none⟩ n c (flat7 xs) (by rfl) HL.out (HN.out _ ((((Kept.refl _).drew).alloc _).alloc _)) (flat_one xs) HB.out (by have := HM.out; simp only [maxLen]; omega) (by have := HM.out; omega) (by first | (simp; done) | (simp; omega)) _ rfl ?_; intro g cap w3 hown3 hgrow3 hat3 hlt3; have NB : ∀ j u, (eqCells ⟨id, frm, kno, srt, num, den, off⟩)[j]? = some u → w3.cell? ((⟨w2.heap.size, 0, none⟩ : Addr).add j) = some u := fun j u hu => (by have h0 := news_block (nb3 ⟨id, frm, kno, srt, num, den, off⟩ w2) j u hu; rw [plain_at] at h0 ⊢; exact (hgrow3.cell_far _ (by first | (simp; done) | (simp; omega)) (by first | (simp [Value.ownBlock]; done) | (simp [Value.ownBlock]; omega))).trans h0); have KK : Kept w2 w3 := (((((Kept.refl w2).drew).alloc (boxX ⟨id, frm, kno, srt, num, den, off⟩)).alloc (.cells #[] 37))).grown hgrow3 (fun k hk => by simp [Value.ownBlock] at hk; all_goals omega); have X3 := X2.out.kept KK; have y0 := (X3 0 _ rfl).1; have y1 := (X3 1 _ rfl).1; have y2 := (X3 2 _ rfl).1; have y3 := (X3 3 _ rfl).1; have y4 := (X3 4 _ rfl).1; have y5 := (X3 5 _ rfl).1; have y6 := (X3 6 _ rfl).1)
    | (refine step_append_lies _ (by rfl) (.tmp 25) (.tmp 27) _ (by rfl) w2.heap.size 37 i0 _ 7 64 Tryz.underlying35 hi0 hz0 hz1 hz2 rfl (by decide) (.slice (some ⟨g, 0, none⟩) n cap) n (flat7 xs) (by first | rfl | (simp; done)) ((fun (h : World.ownsRow _ w2.heap.size 37 7 (.slice (some ⟨g, 0, none⟩) (0 + n) cap) (0 + n) ([] ++ flat7 xs)) => by simpa using h) (own_kept hown3 ((Kept.refl w3).alloc _))) ⟨w3.heap.size, 0, none⟩ 1 1 (eqCells ⟨id, frm, kno, srt, num, den, off⟩) (by rfl) (by rfl) (news_block (heap_alloc_new w3 _)) (eq_one ⟨id, frm, kno, srt, num, den, off⟩) (by omega) (by have := HM.out; simp only [maxLen]; omega) (by have := HM.out; omega) (by have := KK.size; first | (simp; done) | (simp; omega)) _ rfl ?_; intro g4 cap4 w4 hown4 hgrow4 hat4 hlt4)
    | (refine step_append_lies _ (by rfl) (.tmp 25) (.tmp 27) _ (by rfl) w2.heap.size 37 i0 _ 7 64 Tryz.underlying35 hi0 hz0 hz1 hz2 rfl (by decide) (.slice (some ⟨g, 0, none⟩) n cap) n (flat7 xs) (by first | rfl | (simp; done)) ((fun (h : World.ownsRow _ w2.heap.size 37 7 (.slice (some ⟨g, 0, none⟩) (0 + n) cap) (0 + n) ([] ++ flat7 xs)) => by simpa using h) (hown3)) ⟨w2.heap.size + 1, 0, none⟩ 1 1 (eqCells ⟨id, frm, kno, srt, num, den, off⟩) (by rfl) (by rfl) (NB) (eq_one ⟨id, frm, kno, srt, num, den, off⟩) (by omega) (by have := HM.out; simp only [maxLen]; omega) (by have := HM.out; omega) (KK.size) _ rfl ?_; intro g4 cap4 w4 hown4 hgrow4 hat4 hlt4)
    | (refine step_append_lies _ (by rfl) (.tmp 25) (.tmp 27) _ (by rfl) w2.heap.size 37 i0 _ 7 64 Tryz.underlying35 hi0 hz0 hz1 hz2 rfl (by decide) (.slice (some ⟨g, 0, none⟩) n cap) n (flat7 xs) (by first | rfl | (simp; done)) ((fun (h : World.ownsRow _ w2.heap.size 37 7 (.slice (some ⟨g, 0, none⟩) (0 + n) cap) (0 + n) ([] ++ flat7 xs)) => by simpa using h) (hown3)) ⟨w2.heap.size, 0, none⟩ 1 1 (eqCells ⟨id, frm, kno, srt, num, den, off⟩) (by rfl) (by rfl) (NB) (eq_one ⟨id, frm, kno, srt, num, den, off⟩) (by omega) (by have := HM.out; simp only [maxLen]; omega) (by have := HM.out; omega) (KK.size) _ rfl ?_; intro g4 cap4 w4 hown4 hgrow4 hat4 hlt4)
    | fail)
  all_goals
    have hk4 : Kept w2 w4 := by
      first
        | exact KK.grown hgrow4 (fun k hk => (hown3.lt k hk).1)
        | exact (KK.alloc _).grown hgrow4 (fun k hk => (hown3.lt k hk).1)
    have hown5 : w4.ownsRow w.heap.size 37 7 (.slice (some ⟨g4, 0, none⟩) (n + 1) cap4) (n + 1) (flat7 xs ++ eqCells ⟨id, frm, kno, srt, num, den, off⟩) := own_base hown4 K2.out.size
    have HO5 := Lib.hid hown5
    have HK4 := Lib.hid hk4
    clear hown4 hown5 hk4 hgrow4 hat4 hlt4
    go_wp2
    go_ret2
    refine ⟨_, rfl, ?_, K2.out.trans HK4.out⟩
    have h := HO5.out
    rw [← flat_snoc] at h
    rw [show (xs ++ [(⟨id, frm, kno, srt, num, den, off⟩ : Eqv)]).length = n + 1 by simp [hln]]
    exact h
end Go.Proofs.YtcjpecdnenemaaaGreatDoor
