/-
  Excess and Uses where something is not in range.
-/
import Derived.Test.YtcjpecdnenemaaaGreatDoorSm1
import Derived.Test.YtcjpecdnenemaaaGreatDoorRv
import Derived.Deep.RegionHeld3
namespace Go.Proofs.YtcjpecdnenemaaaGreatDoor
set_option linter.all false
open Go.RowKit Go.Shelf

theorem take_atU {P : Program} {ops : Array Oper} {Q : Exit → Act → World → Prop} {md : Region.Mode} {S : World → Prop} {i : Nat} {oi : Oper} {d : Option Tmp} {v : Value} {fuel : Nat} {listed : Array Bool} {a : Act} {w : World} (hi : ops[i]? = some oi) (hd : oi.dst = d)
    (hs : Region.noSelect ops = true) (hf : Region.free md ops listed i = true) (hr : (Region.ready md ops listed).contains i = true)
    (hQ : ∀ c a w, Q (.panic c) (a.put oi.dst v) w → Q (.panic c) a w) (hy : YieldsIf P ops S oi v a) (hS : S w)
    (h : wpAnyH P md ops Q S fuel (listed.setIfInBounds i true) (a.put d v) w) : wpAnyH P md ops Q S (fuel + 1) listed a w := by
  subst hd
  exact wpAnyH_take hi hs hf hr hQ hy hS h

theorem usesF_none_of {es : List ((Int × Int) × Int)} {k : Nat} (h : usesF (es.take k) = none) : usesF es = none := by
  have : usesF es = (es.drop k).foldl stepU (usesF (es.take k)) := by unfold usesF; rw [← List.foldl_append, List.take_append_drop]
  rw [this, h, stepU_none]
set_option maxRecDepth 100000 in
set_option maxHeartbeats 6400000 in
theorem exc1_lim (bh be bs : Nat) (B : Option Addr) (hn hc : Nat) (hs : List Hd) (v : Value) (es : List (Int × Int)) (sn sd : Int) (w : World) (hB : w.cell? ⟨bh, 0, none⟩ = some (.slice B hn hc)) (hH : HeadsA w B hn hc hs) (hE : w.cell? ⟨be, 0, none⟩ = some v) (hF : FrA w v es) (hlen : es.length = hs.length)
    (hS0 : w.cell? ⟨bs, 0, none⟩ = some (.int .i64 sn)) (hS1 : w.cell? ⟨bs, 1, none⟩ = some (.int .i64 sd)) (hsv : vld sn sd = true) (hev : ∀ p ∈ es, vld p.1 p.2 = true) (hnv : ∀ h ∈ hs, 0 ≤ h.num ∧ h.num ≤ 100000) (h12 : hn ≤ 12)
    (hr : excF (es.zip (hs.map (·.num))) sn sd = none) :
    Calls Tryz.prog 128 #[.pointer (some ⟨bh, 0, none⟩), .pointer (some ⟨be, 0, none⟩), .pointer (some ⟨bs, 0, none⟩)] w fun e w' => e = .panicked limPanic ∧ Kept w w' := by
  have hmf : ∀ (fn : Fn) (first cap : Array Value) (w : World), (Instr.makeFunc fn first cap).run Tryz.prog w = .ok (.func fn first cap) w := fun _ _ _ _ => rfl
  obtain ⟨A, c, rfl, hac, hcm, hfc⟩ := hF
  have HB := Lib.hid hB
  have HH := Lib.hid hH
  have HE := Lib.hid hE
  have HF := Lib.hid hfc
  have HLn := Lib.hid hlen
  have HS0 := Lib.hid hS0
  have HS1 := Lib.hid hS1
  have HR := Lib.hid hr
  have HSV := Lib.hid hsv
  have HEV := Lib.hid hev
  have HNV := Lib.hid hnv
  have lh := cell_lt hB
  have le := cell_lt hE
  have ls := cell_lt hS0
  have hnc := hH.2.1
  have hcm2 := hH.2.2.1
  clear hB hH hE hfc hlen hS0 hS1 hr hsv hev hnv
  go_enter Tryz.func128, Tryz.ntmps128
  go_wp2_with fail
  refine (whole_any 0 _).mono ?_
  rintro e w1 ⟨rfl, hk1⟩
  have k1 : Kept w w1 := ((Kept.refl _).alloc _).trans hk1
  have R4 := RowC.new w1 [.int .i64 0, .int .i64 1] 92
  have R3 := ((RowC.new w [.int .i64 0, .int .i64 0] 92).kept hk1).kept ((Kept.refl _).alloc (.cells #[.int .i64 0, .int .i64 1] 92))
  have H4 := Lib.hid R4
  have H3 := Lib.hid R3
  have g1 := (k1.cells _ _ lh).trans HB.out
  have hz1 := k1.size
  have lh1 : bh < w1.heap.size := by omega
  have hz1' : w.heap.size < w1.heap.size := by have := hk1.size; simp at this; omega
  clear R4 R3
  go_wp2
  go_loopw [12] (fun i wr => ∃ (k : Nat) (a b : Int), k ≤ hn ∧ i = .int .i64 k ∧ usesF ((es.zip (hs.map (·.num))).take k) = some (a, b) ∧ RowC wr w1.heap.size [.int .i64 a, .int .i64 b] ∧ RowC wr w.heap.size [.int .i64 0, .int .i64 0] ∧ Kept w wr ∧ w1.heap.size < wr.heap.size) (fun i _ => hn - (intOf i).toNat)
  case atStart => exact ⟨0, 0, 1, by omega, by first | rfl | go_num, rfl, H4.out, H3.out, k1.alloc _, by simp⟩
  case round =>
    obtain ⟨k, a, b, hk, rfl, hu, hr4, hr3, hkr, hzr⟩ := hrel
    have HUk := Lib.hid hu
    have H4 := Lib.hid hr4
    have H3 := Lib.hid hr3
    clear hu hr4 hr3
    have q1 := (hkr.cells _ _ le).trans HE.out
    have hler : be < wr.heap.size := by omega
    by_cases hlt : k < hn
    · obtain ⟨bb, off, hB, hcc⟩ := HH.out.2.2.2.2 (by omega)
      subst hB
      have hxl : k < hs.length := by rw [HH.out.1]; exact hlt
      obtain ⟨hd, hhd⟩ : ∃ hd, hs[k]? = some hd := ⟨hs[k]'hxl, List.getElem?_eq_getElem hxl⟩
      obtain ⟨p, hp⟩ : ∃ p, es[k]? = some p := ⟨_, List.getElem?_eq_getElem (by rw [HLn.out]; exact hxl)⟩
      obtain ⟨g, hA, hfl⟩ := HF.out (by rw [HLn.out]; omega)
      subst hA
      have f0 := hfl _ _ (fl2_at hp).1
      have f1 := hfl _ _ (fl2_at hp).2
      have lg := cell_lt f0
      have v0 := (hkr.cells _ _ lg).trans f0
      have v1 := (hkr.cells _ _ lg).trans f1
      have q0 := (hkr.cells _ _ (cell_lt (hcc k hd hhd).1)).trans (hcc k hd hhd).1
      have q2 := (hkr.cells _ _ (cell_lt (hcc k hd hhd).2)).trans (hcc k hd hhd).2
      have hpv := vld_bd (HEV.out p (List.mem_of_getElem? hp))
      obtain ⟨n0, n1⟩ := HNV.out hd (List.mem_of_getElem? hhd)
      have hzip : (es.zip (hs.map (·.num)))[k]? = some (p, hd.num) := by
        rw [List.getElem?_zip_eq_some]
        exact ⟨hp, by rw [List.getElem?_map, hhd]; rfl⟩
      have hav := vld_bd (usesF_vld _ (0, 1) (a, b) (by decide) HUk.out)
      have hsn : usesF ((es.zip (hs.map (·.num))).take (k + 1)) = stepU (some (a, b)) (p, hd.num) := by rw [take_snoc' hzip, usesF_snoc, HUk.out]
      have hz0 := HH.out.1
      obtain ⟨Wh, hWh⟩ : ∃ Wh : World, Wh = wr.alloc (.cells #[.string hd.sort, .int .i64 hd.num] 84) := ⟨_, rfl⟩
      have kh : Kept wr Wh := by rw [hWh]; exact (Kept.refl _).alloc _
      have s1 := (kh.cells _ _ hler).trans q1
      have s2 := (kh.cells _ _ (cell_lt v0)).trans v0
      have s3 := (kh.cells _ _ (cell_lt v1)).trans v1
      have s4 : Wh.cell? ⟨wr.heap.size, 1, none⟩ = some (.int .i64 hd.num) := by rw [hWh]; exact (RowC.new wr [.string hd.sort, .int .i64 hd.num] 84 1 _ rfl).1
      have S1 := Lib.hid s1
      have S2 := Lib.hid s2
      have S3 := Lib.hid s3
      have S4 := Lib.hid s4
      have HWh := Lib.hid hWh
      have KH := Lib.hid kh
      have H4h := Lib.hid (H4.out.kept kh)
      clear s1 s2 s3 s4 hWh kh v0 v1
      have i0 : (0 : Int) ≤ (k : Int) := by omega
      have i1 : (k : Int) < (es.length : Int) := by have := HLn.out; omega
      have it : (k : Int).toNat = k := by omega
      have nb1 : be ≠ w1.heap.size := by omega
      have nb2 : g ≠ w1.heap.size := by omega
      have nb3 : wr.heap.size ≠ w1.heap.size := by omega
      have NB := Lib.hid (And.intro nb1 (And.intro nb2 nb3))
      have KB := Lib.hid (hkr.trans KH.out)
      clear nb1 nb2 nb3
      rcases hmm : mulF p.1 p.2 hd.num 1 with _ | m
      · have T1 : RowKit.Hid (∀ W, Calls Tryz.prog 96 #[.agg #[.int .i64 p.1, .int .i64 p.2], .agg #[.int .i64 hd.num, .int .i64 1]] W fun e w' => e = .panicked limPanic ∧ Kept W w') := Lib.hid (fun W => times_none _ _ _ _ hpv ⟨by omega, by omega⟩ hmm W)
        clear hfl hcc hhd hp f0 f1 hpv hzip hmm hav hsn
        go_wp2_with fail
        rw [← HWh.out]
        refine wp_region_held_drew (S := (fun w' => w'.cell? ⟨be, 0, none⟩ = some (.slice (some ⟨g, 0, none⟩) es.length c) ∧ w'.cell? ⟨g, k * 2, none⟩ = some (.int .i64 p.1) ∧ w'.cell? ⟨g, k * 2 + 1, none⟩ = some (.int .i64 p.2) ∧ w'.cell? ⟨wr.heap.size, 1, none⟩ = some (.int .i64 hd.num) ∧ But w1.heap.size Wh w')) (by kernel_rfl) (SX_of S1.out S2.out S3.out S4.out NB.out.1 NB.out.2.1 NB.out.2.2 (But.of_kept ((Kept.refl _).drew))) (fun hHeld => ?_)
        refine take_atU (i := 0) (d := some 17) (v := ?_) rfl rfl (by kernel_rfl) (by kernel_rfl) (by kernel_rfl) (fun _ _ _ h => h) (Or.inl ⟨by rfl, ?_⟩) hHeld ?_
        rotate_left
        · intro w hSw
          try dsimp only at hSw
          go_simp
          try (with_reducible rfl)
        try simp only [Act.put, List.setIfInBounds_toArray, List.set_cons_zero, List.set_cons_succ]
        refine take_atU (i := 1) (d := some 18) (v := ?_) rfl rfl (by kernel_rfl) (by kernel_rfl) (by kernel_rfl) (fun _ _ _ h => h) (Or.inl ⟨by rfl, ?_⟩) hHeld ?_
        rotate_left
        · intro w hSw
          try dsimp only at hSw
          go_simp
          try (with_reducible rfl)
        try simp only [Act.put, List.setIfInBounds_toArray, List.set_cons_zero, List.set_cons_succ]
        refine take_atU (i := 2) (d := some 19) (v := ?_) rfl rfl (by kernel_rfl) (by kernel_rfl) (by kernel_rfl) (fun _ _ _ h => h) (Or.inl ⟨by rfl, ?_⟩) hHeld ?_
        rotate_left
        · intro w hSw
          try dsimp only at hSw
          go_simp
          try (with_reducible rfl)
        try simp only [Act.put, List.setIfInBounds_toArray, List.set_cons_zero, List.set_cons_succ]
        refine take_atU (i := 3) (d := some 20) (v := ?_) rfl rfl (by kernel_rfl) (by kernel_rfl) (by kernel_rfl) (fun _ _ _ h => h) (Or.inl ⟨by rfl, ?_⟩) hHeld ?_
        rotate_left
        · intro w hSw
          try dsimp only at hSw
          go_simp
          try (with_reducible rfl)
        try simp only [Act.put, List.setIfInBounds_toArray, List.set_cons_zero, List.set_cons_succ]
        refine take_atU (i := 4) (d := some 21) (v := ?_) rfl rfl (by kernel_rfl) (by kernel_rfl) (by kernel_rfl) (fun _ _ _ h => h) (Or.inl ⟨by rfl, ?_⟩) hHeld ?_
        rotate_left
        · intro w hSw
          try dsimp only at hSw
          go_simp
          try (with_reducible rfl)
        try simp only [Act.put, List.setIfInBounds_toArray, List.set_cons_zero, List.set_cons_succ]
        refine take_atU (i := 5) (d := some 22) (v := ?_) rfl rfl (by kernel_rfl) (by kernel_rfl) (by kernel_rfl) (fun _ _ _ h => h) (Or.inl ⟨by rfl, ?_⟩) hHeld ?_
        rotate_left
        · intro w hSw
          try dsimp only at hSw
          go_simp
          try (with_reducible rfl)
        try simp only [Act.put, List.setIfInBounds_toArray, List.set_cons_zero, List.set_cons_succ]
        refine take_atU (i := 6) (d := some 23) (v := ?_) rfl rfl (by kernel_rfl) (by kernel_rfl) (by kernel_rfl) (fun _ _ _ h => h) (Or.inl ⟨by rfl, ?_⟩) hHeld ?_
        rotate_left
        · intro w hSw
          try dsimp only at hSw
          go_simp
          try (with_reducible rfl)
        try simp only [Act.put, List.setIfInBounds_toArray, List.set_cons_zero, List.set_cons_succ]
        refine wpAnyH_ready (rs := [7]) (by kernel_rfl) (by simp) ?_
        refine AllReadyH.cons rfl (fun K hK => ?_) AllReadyH.nil
        rw [if_pos (by rfl)]
        go_simp
        refine (whole_any _ _).mono ?_
        rintro e wa ⟨rfl, hka⟩
        go_wp2_with fail
        refine hK.out _ _ (SX_of S1.out S2.out S3.out S4.out NB.out.1 NB.out.2.1 NB.out.2.2 (But.of_kept (((Kept.refl _).drew).trans hka))) (fun hHeld => ?_)
        clear hK K
        try simp only [Act.put, List.setIfInBounds_toArray, List.set_cons_zero, List.set_cons_succ]
        refine wpAnyH_ready (rs := [8]) (by kernel_rfl) (by simp) ?_
        refine AllReadyH.cons rfl (fun K hK => ?_) AllReadyH.nil
        rw [if_pos (by rfl)]
        go_simp
        refine (T1.out _).mono ?_
        rintro e wb ⟨rfl, hkb⟩
        exact ⟨rfl, rfl, KB.out.trans ((((Kept.refl _).drew).trans hka).trans hkb)⟩
      have hm := hmm
      rcases hst : addO (some (a, b)) m with _ | r2
      · have hmv := vld_bd (mulF_vld hm)
        have T1 : RowKit.Hid (∀ W, Calls Tryz.prog 96 #[.agg #[.int .i64 p.1, .int .i64 p.2], .agg #[.int .i64 hd.num, .int .i64 1]] W fun e w' => e = .returned (.agg #[.int .i64 m.1, .int .i64 m.2]) ∧ Kept W w') := Lib.hid (fun W => times_some _ _ _ _ _ _ hpv ⟨by omega, by omega⟩ hm W)
        have T2 : RowKit.Hid (∀ W, RowC W w1.heap.size [.int .i64 a, .int .i64 b] → Calls Tryz.prog 101 #[.pointer (some ⟨w1.heap.size, 0, none⟩), .agg #[.int .i64 m.1, .int .i64 m.2]] W fun e w' => e = .panicked limPanic ∧ Kept W w') := Lib.hid (fun W hW => take_none _ _ _ _ _ hav hmv hst W hW)
        clear hfl hcc hhd hp f0 f1 hpv hzip hmm hm hmv hav hsn hst
        go_wp2_with fail
        rw [← HWh.out]
        refine wp_region_held_drew (S := (fun w' => w'.cell? ⟨be, 0, none⟩ = some (.slice (some ⟨g, 0, none⟩) es.length c) ∧ w'.cell? ⟨g, k * 2, none⟩ = some (.int .i64 p.1) ∧ w'.cell? ⟨g, k * 2 + 1, none⟩ = some (.int .i64 p.2) ∧ w'.cell? ⟨wr.heap.size, 1, none⟩ = some (.int .i64 hd.num) ∧ But w1.heap.size Wh w')) (by kernel_rfl) (SX_of S1.out S2.out S3.out S4.out NB.out.1 NB.out.2.1 NB.out.2.2 (But.of_kept ((Kept.refl _).drew))) (fun hHeld => ?_)
        refine take_atU (i := 0) (d := some 17) (v := ?_) rfl rfl (by kernel_rfl) (by kernel_rfl) (by kernel_rfl) (fun _ _ _ h => h) (Or.inl ⟨by rfl, ?_⟩) hHeld ?_
        rotate_left
        · intro w hSw
          try dsimp only at hSw
          go_simp
          try (with_reducible rfl)
        try simp only [Act.put, List.setIfInBounds_toArray, List.set_cons_zero, List.set_cons_succ]
        refine take_atU (i := 1) (d := some 18) (v := ?_) rfl rfl (by kernel_rfl) (by kernel_rfl) (by kernel_rfl) (fun _ _ _ h => h) (Or.inl ⟨by rfl, ?_⟩) hHeld ?_
        rotate_left
        · intro w hSw
          try dsimp only at hSw
          go_simp
          try (with_reducible rfl)
        try simp only [Act.put, List.setIfInBounds_toArray, List.set_cons_zero, List.set_cons_succ]
        refine take_atU (i := 2) (d := some 19) (v := ?_) rfl rfl (by kernel_rfl) (by kernel_rfl) (by kernel_rfl) (fun _ _ _ h => h) (Or.inl ⟨by rfl, ?_⟩) hHeld ?_
        rotate_left
        · intro w hSw
          try dsimp only at hSw
          go_simp
          try (with_reducible rfl)
        try simp only [Act.put, List.setIfInBounds_toArray, List.set_cons_zero, List.set_cons_succ]
        refine take_atU (i := 3) (d := some 20) (v := ?_) rfl rfl (by kernel_rfl) (by kernel_rfl) (by kernel_rfl) (fun _ _ _ h => h) (Or.inl ⟨by rfl, ?_⟩) hHeld ?_
        rotate_left
        · intro w hSw
          try dsimp only at hSw
          go_simp
          try (with_reducible rfl)
        try simp only [Act.put, List.setIfInBounds_toArray, List.set_cons_zero, List.set_cons_succ]
        refine take_atU (i := 4) (d := some 21) (v := ?_) rfl rfl (by kernel_rfl) (by kernel_rfl) (by kernel_rfl) (fun _ _ _ h => h) (Or.inl ⟨by rfl, ?_⟩) hHeld ?_
        rotate_left
        · intro w hSw
          try dsimp only at hSw
          go_simp
          try (with_reducible rfl)
        try simp only [Act.put, List.setIfInBounds_toArray, List.set_cons_zero, List.set_cons_succ]
        refine take_atU (i := 5) (d := some 22) (v := ?_) rfl rfl (by kernel_rfl) (by kernel_rfl) (by kernel_rfl) (fun _ _ _ h => h) (Or.inl ⟨by rfl, ?_⟩) hHeld ?_
        rotate_left
        · intro w hSw
          try dsimp only at hSw
          go_simp
          try (with_reducible rfl)
        try simp only [Act.put, List.setIfInBounds_toArray, List.set_cons_zero, List.set_cons_succ]
        refine take_atU (i := 6) (d := some 23) (v := ?_) rfl rfl (by kernel_rfl) (by kernel_rfl) (by kernel_rfl) (fun _ _ _ h => h) (Or.inl ⟨by rfl, ?_⟩) hHeld ?_
        rotate_left
        · intro w hSw
          try dsimp only at hSw
          go_simp
          try (with_reducible rfl)
        try simp only [Act.put, List.setIfInBounds_toArray, List.set_cons_zero, List.set_cons_succ]
        refine wpAnyH_ready (rs := [7]) (by kernel_rfl) (by simp) ?_
        refine AllReadyH.cons rfl (fun K hK => ?_) AllReadyH.nil
        rw [if_pos (by rfl)]
        go_simp
        refine (whole_any _ _).mono ?_
        rintro e wa ⟨rfl, hka⟩
        go_wp2_with fail
        refine hK.out _ _ (SX_of S1.out S2.out S3.out S4.out NB.out.1 NB.out.2.1 NB.out.2.2 (But.of_kept (((Kept.refl _).drew).trans hka))) (fun hHeld => ?_)
        clear hK K
        try simp only [Act.put, List.setIfInBounds_toArray, List.set_cons_zero, List.set_cons_succ]
        refine wpAnyH_ready (rs := [8]) (by kernel_rfl) (by simp) ?_
        refine AllReadyH.cons rfl (fun K hK => ?_) AllReadyH.nil
        rw [if_pos (by rfl)]
        go_simp
        refine (T1.out _).mono ?_
        rintro e wb ⟨rfl, hkb⟩
        go_wp2_with fail
        refine hK.out _ _ (SX_of S1.out S2.out S3.out S4.out NB.out.1 NB.out.2.1 NB.out.2.2 (But.of_kept ((((Kept.refl _).drew).trans hka).trans hkb))) (fun hHeld => ?_)
        clear hK K
        try simp only [Act.put, List.setIfInBounds_toArray, List.set_cons_zero, List.set_cons_succ]
        refine wpAnyH_ready (rs := [9]) (by kernel_rfl) (by simp) ?_
        refine AllReadyH.cons rfl (fun K hK => ?_) AllReadyH.nil
        rw [if_pos (by rfl)]
        go_simp
        refine (T2.out _ (by exact H4h.out.kept ((((Kept.refl _).drew).trans hka).trans hkb))).mono ?_
        rintro e wt ⟨rfl, hkt⟩
        exact ⟨rfl, rfl, KB.out.trans (((((Kept.refl _).drew).trans hka).trans hkb).trans hkt)⟩
      have hadd : lowF (a * m.2 + m.1 * b) (b * m.2) = some r2 := hst
      have hr2 : usesF ((es.zip (hs.map (·.num))).take (k + 1)) = some r2 := by
        rw [hsn]
        unfold stepU
        dsimp only
        rw [hm]
        exact hst
      have hmv := vld_bd (mulF_vld hm)
      have HR2 := Lib.hid hr2
      have T1 : RowKit.Hid (∀ W, Calls Tryz.prog 96 #[.agg #[.int .i64 p.1, .int .i64 p.2], .agg #[.int .i64 hd.num, .int .i64 1]] W fun e w' => e = .returned (.agg #[.int .i64 m.1, .int .i64 m.2]) ∧ Kept W w') := Lib.hid (fun W => times_some _ _ _ _ _ _ hpv ⟨by omega, by omega⟩ hm W)
      have T2 : RowKit.Hid (∀ W, RowC W w1.heap.size [.int .i64 a, .int .i64 b] → Calls Tryz.prog 101 #[.pointer (some ⟨w1.heap.size, 0, none⟩), .agg #[.int .i64 m.1, .int .i64 m.2]] W fun e w' => e = .returned (.tuple #[]) ∧ But w1.heap.size W w' ∧ RowC w' w1.heap.size [.int .i64 r2.1, .int .i64 r2.2]) := Lib.hid (fun W hW => take_ok _ _ _ _ _ _ _ hav hmv hadd W hW)
      clear hfl hcc hhd hp f0 f1 hpv hzip hr2 hst hm hadd hmv hav hmm hsn
      go_wp2_with fail
      rw [← HWh.out]
      go_region_held3 (fun w' => w'.cell? ⟨be, 0, none⟩ = some (.slice (some ⟨g, 0, none⟩) es.length c) ∧ w'.cell? ⟨g, k * 2, none⟩ = some (.int .i64 p.1) ∧ w'.cell? ⟨g, k * 2 + 1, none⟩ = some (.int .i64 p.2) ∧ w'.cell? ⟨wr.heap.size, 1, none⟩ = some (.int .i64 hd.num) ∧ But w1.heap.size Wh w')
        (first
          | exact SX_of S1.out S2.out S3.out S4.out NB.out.1 NB.out.2.1 NB.out.2.2 (But.of_kept ((Kept.refl _).drew))
          | exact SX_of S1.out S2.out S3.out S4.out NB.out.1 NB.out.2.1 NB.out.2.2 (But.of_kept (((Kept.refl _).drew).trans hka))
          | exact SX_of S1.out S2.out S3.out S4.out NB.out.1 NB.out.2.1 NB.out.2.2 (But.of_kept ((((Kept.refl _).drew).trans hka).trans hkb))
          | exact SX_of S1.out S2.out S3.out S4.out NB.out.1 NB.out.2.1 NB.out.2.2 (But.trans (But.of_kept ((((Kept.refl _).drew).trans hka).trans hkb)) hbt)
          | fail)
        (first
          | (go_at_call 100; refine (whole_any _ _).mono ?_; rintro e wa ⟨rfl, hka⟩)
          | (go_at_call 96; refine (T1.out _).mono ?_; rintro e wb ⟨rfl, hkb⟩)
          | (go_at_call 101; refine (T2.out _ (by exact H4h.out.kept ((((Kept.refl _).drew).trans hka).trans hkb))).mono ?_; rintro e wt ⟨rfl, hbt, hrow⟩)
          | fail)
      have kb := KB.out
      go_wp2
      go_roundw
      case rel =>
        have hbw : But w1.heap.size Wh wt := But.trans (But.of_kept ((((Kept.refl _).drew).trans hka).trans hkb)) hbt
        refine ⟨k + 1, r2.1, r2.2, by omega, by go_num, HR2.out, hrow, hbw.row (H3.out.kept KH.out) (by omega), kb.but hbw (by omega), ?_⟩
        have := hbw.size
        have := KH.out.size
        omega
      case measure => simp [intOf]; omega
    · obtain rfl : k = hn := by omega
      have hz : (es.zip (hs.map (·.num))).length = k := by rw [List.length_zip, List.length_map, HLn.out, HH.out.1]; omega
      have hu2 := HUk.out
      rw [List.take_of_length_le (by rw [hz]; exact Nat.le_refl _)] at hu2
      have hav := vld_bd (usesF_vld _ (0, 1) (a, b) (by decide) hu2)
      have hsb := vld_bd HSV.out
      have hlow : lowF (a * sd + -sn * b) (b * sd) = none := by
        have h := HR.out
        unfold excF at h
        rw [hu2] at h
        exact h
      have T3 : RowKit.Hid (∀ W, Calls Tryz.prog 95 #[.agg #[.int .i64 a, .int .i64 b], .agg #[.int .i64 sn, .int .i64 sd]] W fun e w' => e = .panicked limPanic ∧ Kept W w') := Lib.hid (fun W => minus_none _ _ _ _ hav hsb hlow W)
      have u0 := (H4.out 0 _ rfl).1
      have u1 := (H4.out 1 _ rfl).1
      have v0 := (hkr.cells _ _ ls).trans HS0.out
      have v1 := (hkr.cells _ _ ls).trans HS1.out
      have lu := cell_lt u0
      have lv := cell_lt v0
      clear hz hu2 hav hsb hlow
      go_wp2_with fail
      refine (T3.out _).mono ?_
      rintro e w5 ⟨rfl, hk5⟩
      exact ⟨rfl, rfl, hkr.trans hk5⟩

def excS (xs : List Eqv) (hs : List Hd) (sn sd day known : Int) : Int × Int × Int :=
  if eachE xs hs sn sd day known = 0 then okL (excF ((eachL xs hs day known).zip (hs.map (·.num))) sn sd) else (0, 0, eachE xs hs sn sd day known)
set_option maxRecDepth 100000 in
set_option maxHeartbeats 1600000 in
theorem excess_lim (A : Option Addr) (n c : Nat) (xs : List Eqv) (B : Option Addr) (hn hc : Nat) (hs : List Hd) (sn sd day known : Int) (w : World) (hT : TabA w A n c xs) (hlt : n ≤ 1000000) (hH : HeadsA w B hn hc hs)
    (he : eachE xs hs sn sd day known = 0) (hr : excF ((eachL xs hs day known).zip (hs.map (·.num))) sn sd = none) :
    Calls Tryz.prog 61 #[.slice A n c, .slice B hn hc, .agg #[.int .i64 sn, .int .i64 sd], .int .i64 day, .int .i64 known] w fun e w' => e = .returned (.tuple #[.agg #[.int .i64 0, .int .i64 0], .int .i64 2]) ∧ Kept w w' := by
  obtain ⟨hchk, hare, hvld, hall⟩ := each_ok he
  have hev := eachL_vld hchk hall
  obtain ⟨h12, hnv⟩ := areS_ok hare
  have hlen : (eachL xs hs day known).length = hs.length := by simp [eachL]
  have hmf : ∀ (fn : Fn) (first cap : Array Value) (w : World), (Instr.makeFunc fn first cap).run Tryz.prog w = .ok (.func fn first cap) w := fun _ _ _ _ => rfl
  obtain ⟨W0, hW0⟩ : ∃ W0 : World, W0 = ((w.alloc (.cells #[.slice B hn hc] 61)).alloc (.cells #[.int .i64 sn, .int .i64 sd] 23)).alloc (.cells #[.int .i64 0, .int .i64 0] 23) := ⟨_, rfl⟩
  have K0 : Kept w W0 := by rw [hW0]; exact (((Kept.refl w).alloc _).alloc _).alloc _
  have r1 : RowC W0 w.heap.size [.slice B hn hc] := by rw [hW0]; exact ((RowC.new w [.slice B hn hc] 61).kept ((Kept.refl _).alloc _)).kept ((Kept.refl _).alloc _)
  have r2 : RowC W0 (w.heap.size + 1) [.int .i64 sn, .int .i64 sd] := by
    have := RowC.new (w.alloc (.cells #[.slice B hn hc] 61)) [.int .i64 sn, .int .i64 sd] 23
    rw [World.size_alloc] at this
    rw [hW0]; exact this.kept ((Kept.refl _).alloc _)
  have r3 : RowC W0 (w.heap.size + 1 + 1) [.int .i64 0, .int .i64 0] := by
    have := RowC.new ((w.alloc (.cells #[.slice B hn hc] 61)).alloc (.cells #[.int .i64 sn, .int .i64 sd] 23)) [.int .i64 0, .int .i64 0] 23
    rw [World.size_alloc, World.size_alloc] at this
    rw [hW0]; exact this
  have z0 : W0.heap.size = w.heap.size + 1 + 1 + 1 := by rw [hW0]; simp
  have HW0 := Lib.hid hW0
  have R1 := Lib.hid r1
  have R2 := Lib.hid r2
  have R3 := Lib.hid r3
  have Z0 := Lib.hid z0
  have HEa : RowKit.Hid (Calls Tryz.prog 127 #[.slice A n c, .slice B hn hc, .agg #[.int .i64 sn, .int .i64 sd], .int .i64 day, .int .i64 known] W0 fun e w' => ∃ v, (e = .returned (.tuple #[v, .int .i64 0]) ∧ w'.ownsRow W0.heap.size 92 2 v hs.length (fl2 (eachL xs hs day known))) ∧ Kept W0 w') := Lib.hid ((eachOf_any A n c xs B hn hc hs sn sd day known W0 (hT.kept K0) hlt (hH.kept K0)).mono (fun e w' h => by
    rcases h with ⟨⟨h1, _⟩ | ⟨_, v, h2, h3⟩, h4⟩
    · exact absurd he h1
    · exact ⟨v, ⟨h2, h3⟩, h4⟩))
  have HX : RowKit.Hid (∀ (be : Nat) (v : Value) (W : World), Kept W0 W → W.cell? ⟨be, 0, none⟩ = some v → FrA W v (eachL xs hs day known) → Calls Tryz.prog 128 #[.pointer (some ⟨w.heap.size, 0, none⟩), .pointer (some ⟨be, 0, none⟩), .pointer (some ⟨w.heap.size + 1, 0, none⟩)] W fun e w' => e = .panicked limPanic ∧ Kept W w') := Lib.hid (fun be v W hk hv hf =>
    exc1_lim w.heap.size be (w.heap.size + 1) B hn hc hs v (eachL xs hs day known) sn sd W (r1.kept hk 0 _ rfl).1 ((hH.kept K0).kept hk) hv hf hlen (r2.kept hk 0 _ rfl).1 (r2.kept hk 1 _ rfl).1 hvld (fun p hp => (hev p hp).1) (fun h hh => (hnv h hh).2) (by rw [← hH.1]; exact h12) hr)
  have b1 := (r1 0 _ rfl).1
  have b2 := (r2 0 _ rfl).1
  have b3 := (r2 1 _ rfl).1
  clear hW0 r1 r2 r3 z0 hT hH he hr hchk hare hvld hall hev h12 hnv hlen
  have g128 := e128
  go_enter Tryz.func61, Tryz.ntmps61
  go_wp2_with fail
  rw [← HW0.out]
  refine HEa.out.mono ?_
  rintro e w1 ⟨v, ⟨rfl, hown⟩, hk1⟩
  have hv := FrA.of_own (es := eachL xs hs day known) (by rw [show (eachL xs hs day known).length = hs.length by simp [eachL]]; exact hown)
  have HV := Lib.hid hv
  clear hown
  obtain ⟨A', c', rfl, _⟩ := hv
  have NB := RowC.new w1 [.slice A' (eachL xs hs day known).length c'] 127
  have HNB := Lib.hid NB
  have kw1 : Kept W0 (w1.alloc (.cells #[.slice A' (eachL xs hs day known).length c'] 127)) := hk1.alloc _
  have HK1 := Lib.hid kw1
  have hz := hk1.size
  have hz0 := Z0.out
  have hwl : w.heap.size < w1.heap.size := by omega
  clear NB kw1 hz hz0 b1 b2 b3
  go_wp2_with fail
  refine (reckon_lim 128 _ _ e128 (fun W hW => HX.out w1.heap.size _ W (HK1.out.trans hW) (HNB.out.kept hW 0 _ rfl).1 ((HV.out.kept ((Kept.refl _).alloc _)).kept hW))).mono ?_
  rintro e w2 ⟨rfl, hk2⟩
  have RR := (R3.out.kept HK1.out).kept hk2
  have e0 := (RR 0 _ rfl).1
  have e1 := (RR 1 _ rfl).1
  have y0 := (RR 0 _ rfl).2
  have y1 := (RR 1 _ rfl).2
  clear RR
  go_wp2
  refine bodyPost_ret (v := .tuple #[.agg #[.int .i64 0, .int .i64 0], .int .i64 2]) (by simp [results, Tryz.results61, go_sem, e0, e1]) rfl ⟨rfl, ?_⟩
  exact (((K0.trans HK1.out).trans hk2).setCell (by simp; omega) _).setCell (by simp; omega) _


set_option maxRecDepth 100000 in
set_option maxHeartbeats 1600000 in
theorem excess_err (A : Option Addr) (n c : Nat) (xs : List Eqv) (B : Option Addr) (hn hc : Nat) (hs : List Hd) (sn sd day known : Int) (w : World) (hT : TabA w A n c xs) (hlt : n ≤ 1000000) (hH : HeadsA w B hn hc hs)
    (he : eachE xs hs sn sd day known ≠ 0) :
    Calls Tryz.prog 61 #[.slice A n c, .slice B hn hc, .agg #[.int .i64 sn, .int .i64 sd], .int .i64 day, .int .i64 known] w fun e w' => e = .returned (.tuple #[.agg #[.int .i64 0, .int .i64 0], .int .i64 (eachE xs hs sn sd day known)]) ∧ Kept w w' := by
  have hmf : ∀ (fn : Fn) (first cap : Array Value) (w : World), (Instr.makeFunc fn first cap).run Tryz.prog w = .ok (.func fn first cap) w := fun _ _ _ _ => rfl
  obtain ⟨W0, hW0⟩ : ∃ W0 : World, W0 = ((w.alloc (.cells #[.slice B hn hc] 61)).alloc (.cells #[.int .i64 sn, .int .i64 sd] 23)).alloc (.cells #[.int .i64 0, .int .i64 0] 23) := ⟨_, rfl⟩
  have K0 : Kept w W0 := by rw [hW0]; exact (((Kept.refl w).alloc _).alloc _).alloc _
  have r1 : RowC W0 w.heap.size [.slice B hn hc] := by rw [hW0]; exact ((RowC.new w [.slice B hn hc] 61).kept ((Kept.refl _).alloc _)).kept ((Kept.refl _).alloc _)
  have r2 : RowC W0 (w.heap.size + 1) [.int .i64 sn, .int .i64 sd] := by
    have := RowC.new (w.alloc (.cells #[.slice B hn hc] 61)) [.int .i64 sn, .int .i64 sd] 23
    rw [World.size_alloc] at this
    rw [hW0]; exact this.kept ((Kept.refl _).alloc _)
  have r3 : RowC W0 (w.heap.size + 1 + 1) [.int .i64 0, .int .i64 0] := by
    have := RowC.new ((w.alloc (.cells #[.slice B hn hc] 61)).alloc (.cells #[.int .i64 sn, .int .i64 sd] 23)) [.int .i64 0, .int .i64 0] 23
    rw [World.size_alloc, World.size_alloc] at this
    rw [hW0]; exact this
  have z0 : W0.heap.size = w.heap.size + 1 + 1 + 1 := by rw [hW0]; simp
  have HW0 := Lib.hid hW0
  have R3 := Lib.hid r3
  have Z0 := Lib.hid z0
  obtain ⟨E, hE⟩ : ∃ E, E = eachE xs hs sn sd day known := ⟨_, rfl⟩
  rw [← hE] at he ⊢
  have HEa : RowKit.Hid (Calls Tryz.prog 127 #[.slice A n c, .slice B hn hc, .agg #[.int .i64 sn, .int .i64 sd], .int .i64 day, .int .i64 known] W0 fun e w' => e = .returned (.tuple #[.slice none 0 0, .int .i64 E]) ∧ Kept W0 w') := Lib.hid ((eachOf_any A n c xs B hn hc hs sn sd day known W0 (hT.kept K0) hlt (hH.kept K0)).mono (fun e w' h => by
    rcases h with ⟨⟨h1, h2⟩ | ⟨h1, _⟩, h4⟩
    · exact ⟨by rw [h2, hE], h4⟩
    · exact absurd (hE.trans h1) he))
  have hne : (E != 0) = true := by simpa using he
  have b1 := (r1 0 _ rfl).1
  have b2 := (r2 0 _ rfl).1
  have b3 := (r2 1 _ rfl).1
  clear hW0 r1 r2 r3 z0 hT hH he hE
  go_enter Tryz.func61, Tryz.ntmps61
  go_wp2_with fail
  rw [← HW0.out]
  refine HEa.out.mono ?_
  rintro e w1 ⟨rfl, hk1⟩
  have RR := (R3.out.kept hk1).kept ((Kept.refl w1).alloc (.cells #[.slice none 0 0] 127))
  have e0 := (RR 0 _ rfl).1
  have e1 := (RR 1 _ rfl).1
  have y0 := (RR 0 _ rfl).2
  have y1 := (RR 1 _ rfl).2
  clear RR
  go_wp2
  refine bodyPost_ret (v := .tuple #[.agg #[.int .i64 0, .int .i64 0], .int .i64 E]) (by simp [results, Tryz.results61, go_sem, e0, e1]) rfl ⟨rfl, ?_⟩
  exact (((K0.trans hk1).alloc _).setCell (by simp; omega) _).setCell (by simp; omega) _
theorem excess_any (A : Option Addr) (n c : Nat) (xs : List Eqv) (B : Option Addr) (hn hc : Nat) (hs : List Hd) (sn sd day known : Int) (w : World) (hT : TabA w A n c xs) (hlt : n ≤ 1000000) (hH : HeadsA w B hn hc hs) :
    Calls Tryz.prog 61 #[.slice A n c, .slice B hn hc, .agg #[.int .i64 sn, .int .i64 sd], .int .i64 day, .int .i64 known] w fun e w' => e = .returned (.tuple #[.agg #[.int .i64 (excS xs hs sn sd day known).1, .int .i64 (excS xs hs sn sd day known).2.1], .int .i64 (excS xs hs sn sd day known).2.2]) ∧ Kept w w' := by
  by_cases he : eachE xs hs sn sd day known = 0
  · rcases hr : excF ((eachL xs hs day known).zip (hs.map (·.num))) sn sd with _ | r
    · have e1 : excS xs hs sn sd day known = (0, 0, 2) := by unfold excS; rw [if_pos he, hr]; rfl
      rw [e1]
      exact excess_lim A n c xs B hn hc hs sn sd day known w hT hlt hH he hr
    · have e1 : excS xs hs sn sd day known = (r.1, r.2, 0) := by unfold excS; rw [if_pos he, hr]; rfl
      rw [e1]
      exact excess_ok A n c xs B hn hc hs sn sd day known r.1 r.2 w hT hlt hH he hr
  · have e1 : excS xs hs sn sd day known = (0, 0, eachE xs hs sn sd day known) := by unfold excS; rw [if_neg he]
    rw [e1]
    exact excess_err A n c xs B hn hc hs sn sd day known w hT hlt hH he
set_option maxRecDepth 100000 in
set_option maxHeartbeats 1600000 in
theorem uses_any (A : Option Addr) (n c : Nat) (xs : List Eqv) (B : Option Addr) (hn hc : Nat) (hs : List Hd) (day known : Int) (w : World) (hT : TabA w A n c xs) (hlt : n ≤ 1000000) (hH : HeadsA w B hn hc hs) :
    Calls Tryz.prog 59 #[.slice A n c, .slice B hn hc, .int .i64 day, .int .i64 known] w fun e w' => e = .returned (.tuple #[.agg #[.int .i64 (excS xs hs 0 1 day known).1, .int .i64 (excS xs hs 0 1 day known).2.1], .int .i64 (excS xs hs 0 1 day known).2.2]) ∧ Kept w w' := by
  obtain ⟨⟨x, y, z⟩, hx⟩ : ∃ r, r = excS xs hs 0 1 day known := ⟨_, rfl⟩
  rw [← hx]
  have HX : RowKit.Hid (∀ W, Kept w W → Calls Tryz.prog 61 #[.slice A n c, .slice B hn hc, .agg #[.int .i64 0, .int .i64 1], .int .i64 day, .int .i64 known] W fun e w' => e = .returned (.tuple #[.agg #[.int .i64 x, .int .i64 y], .int .i64 z]) ∧ Kept W w') := Lib.hid (fun W hW => by have := excess_any A n c xs B hn hc hs 0 1 day known W (hT.kept hW) hlt (hH.kept hW); rw [← hx] at this; exact this)
  have R0 := Lib.hid (RowC.new w [.int .i64 0, .int .i64 0] 23)
  clear hT hH hx
  go_enter Tryz.func59, Tryz.ntmps59
  go_wp2_with fail
  refine (whole_any 0 _).mono ?_
  rintro e w1 ⟨rfl, hk1⟩
  go_wp2_with fail
  refine (HX.out _ (((Kept.refl _).alloc _).trans hk1)).mono ?_
  rintro e w2 ⟨rfl, hk2⟩
  have RR := (R0.out.kept hk1).kept hk2
  have e0 := (RR 0 _ rfl).1
  have e1 := (RR 1 _ rfl).1
  have y0 := (RR 0 _ rfl).2
  have y1 := (RR 1 _ rfl).2
  clear RR
  go_wp2
  refine bodyPost_ret (v := .tuple #[.agg #[.int .i64 x, .int .i64 y], .int .i64 z]) (by simp [results, Tryz.results59, go_sem, e0, e1]) rfl ⟨rfl, ?_⟩
  exact (((((Kept.refl _).alloc _).trans hk1).trans hk2).setCell (Nat.le_refl _) _).setCell (Nat.le_refl _) _
end Go.Proofs.YtcjpecdnenemaaaGreatDoor
