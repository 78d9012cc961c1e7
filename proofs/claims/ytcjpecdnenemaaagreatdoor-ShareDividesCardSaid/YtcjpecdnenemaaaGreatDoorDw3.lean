/- the reference's Whole 73 -/
import Derived.Test.YtcjpecdnenemaaaGreatDoorDw2
import Derived.Test.YtcjpecdnenemaaaGreatDoorPt1
import Derived.Test.YtcjpecdnenemaaaGreatDoorOw
import Derived.Deep.AppendLies
import Derived.BigQuiet
import Derived.Deep.DeepCutAuto
namespace Go.Proofs.YtcjpecdnenemaaaGreatDoor
set_option linter.all false
open Go.RowKit Go.Shelf Go.Sort

theorem ints_row {w : World} {g n c : Nat} {zs : List Int} {M : Int} (hM : M ≤ 4611686018427387904) (hn : zs.length = n) (hc : n ≤ c) (hm : c ≤ maxLen) (hb : BdI zs M) (h : RowC w g (intsV zs)) : IntsA w (some ⟨g, 0, none⟩) n c zs :=
  ⟨hn, hc, by unfold maxLen at hm; omega, fun z hz => by have := hb z hz; omega, fun _ => ⟨g, 0, rfl, fun j z hz => by rw [Nat.zero_add]; exact (h j _ (intsV_at hz)).1⟩⟩
def WPost (w : World) (n : Nat) (R : List Int) (e : Ending) (w' : World) : Prop :=
  (∃ g cap, e = .returned (.tuple #[.slice (some ⟨g, 0, none⟩) n cap, .int .i64 0]) ∧ n ≤ cap ∧ cap ≤ maxLen ∧ RowC w' g (intsV R)) ∧ Kept w w'

set_option maxRecDepth 100000 in
set_option maxHeartbeats 3200000 in
theorem rwhole_err (A : Option Addr) (n c : Nat) (zs : List Int) (total E : Int) (w : World) (h : IntsA w A n c zs) (he : (sumOfS zs (inB total 0 1000000000)).2 = E) (hE : E ≠ 0) :
    Calls Tryz.prog 73 #[.int .i64 total, .slice A n c] w fun e w' => e = .returned (.tuple #[.slice none 0 0, .int .i64 E]) ∧ Kept w w' := by
  have HI := Lib.hid h
  have hE1 : (E != 0) = true := by simpa using hE
  have C135 : RowKit.Hid (∀ W, Kept w W → Calls Tryz.prog 135 #[.slice A n c, .bool (inB total 0 1000000000)] W fun e w' => e = .returned (.int .i64 E) ∧ Kept W w') := Lib.hid (fun W hW => by rw [← he]; exact parted_any A n c zs _ W (HI.out.kept hW))
  clear he hE h
  go_enter Tryz.func73, Tryz.ntmps73
  go_wp2_with fail
  refine (rwithin_any _ _ _ _).mono ?_
  rintro e w1 ⟨rfl, rfl⟩
  go_wp2_with fail
  refine (C135.out _ (Kept.refl _)).mono ?_
  rintro e w2 ⟨rfl, hk2⟩
  go_wp2
  go_ret2
  exact ⟨rfl, hk2⟩

set_option maxRecDepth 100000 in
set_option maxHeartbeats 12800000 in
theorem rwhole_yes (A : Option Addr) (n c : Nat) (zs : List Int) (total s : Int) (Z : List Nat) (hs : zs.sum = s) (hE : (sumOfS zs (inB total 0 1000000000)).2 = 0) (hp : Z.Perm (List.range zs.length)) (hw : Z.Pairwise (ltC total zs.sum zs)) (w : World) (h : IntsA w A n c zs) :
    Calls Tryz.prog 73 #[.int .i64 total, .slice A n c] w (WPost w n (bump (flS total s zs) (Z.take (total - (flS total s zs).sum).toNat))) := by
  obtain ⟨i0, hi0, hz0, hz1, hz2⟩ := info_parts info3
  obtain ⟨htot, hpart, h40, _, hpos, hsb⟩ := sumOf_ok hE
  have htb : 0 ≤ total ∧ total ≤ 1000000000 := by unfold inB at htot; simp at htot; omega
  obtain ⟨ht0, ht1⟩ := htb
  have HI := Lib.hid h
  have HP := Lib.hid hpart
  have hzn : zs.length = n := h.1
  have hn40 : n ≤ 40 := by rw [← hzn]; exact h40
  have hnpos : 0 < n := by
    rcases Nat.eq_zero_or_pos n with h0 | h0
    · rw [h0] at hzn
      rw [List.length_eq_zero_iff.1 hzn] at hpos
      simp at hpos
    · exact h0
  have hnc := h.2.1
  have hcm := h.2.2.1
  have hlb := left_bd (total := total) hpos
  rw [hs] at hpos hsb hlb
  have HPM := Lib.hid hp
  have HPW := Lib.hid hw
  have HS := Lib.hid hs
  have hfb : BdI (flS total s zs) 1000000000000 := by
    intro v hv
    unfold flS at hv
    rw [List.mem_map] at hv
    obtain ⟨z, hz, rfl⟩ := hv
    obtain ⟨q, hq⟩ := List.getElem?_of_mem hz
    obtain ⟨z0, z1⟩ := part_in hpart hq
    exact fl_one ht0 ht1 z0 z1 hpos
  have hcb : ∀ v ∈ zs.map (cutZ total s), 0 ≤ v ∧ v < s := by
    intro v hv
    rw [List.mem_map] at hv
    obtain ⟨z, hz, rfl⟩ := hv
    exact cut_bd hpos
  have HFB := Lib.hid hfb
  have HCB := Lib.hid hcb
  have hfl : (flS total s zs).length = n := by unfold flS; rw [List.length_map, hzn]
  have hcl : (zs.map (cutZ total s)).length = n := by rw [List.length_map, hzn]
  have HFL := Lib.hid hfl
  have HCL := Lib.hid hcl
  have hZl : Z.length = n := by rw [hp.length_eq, List.length_range, hzn]
  have HZL := Lib.hid hZl
  have HZN := Lib.hid hzn
  have C135 : RowKit.Hid (∀ W, Kept w W → Calls Tryz.prog 135 #[.slice A n c, .bool (inB total 0 1000000000)] W fun e w' => e = .returned (.int .i64 0) ∧ Kept W w') := Lib.hid (fun W hW => by have := parted_any A n c zs (inB total 0 1000000000) W (HI.out.kept hW); rw [hE] at this; exact this)
  have C136 : RowKit.Hid (∀ W, Kept w W → Calls Tryz.prog 136 #[.slice A n c] W fun e w' => e = .returned (.int .i64 s) ∧ Kept W w') := Lib.hid (fun W hW => by rw [← HS.out]; exact rsumI_any A n c zs (parts_BdI HP.out) (by omega) W (HI.out.kept hW))
  have hps : RowKit.Hid (0 < s) := Lib.hid hpos
  clear htot hpart h40 hs hE hp hw h hfb hcb hfl hcl hZl hzn
  go_enter Tryz.func73, Tryz.ntmps73
  go_wp2_with fail
  refine (rwithin_any _ _ _ _).mono ?_
  rintro e w1 ⟨rfl, rfl⟩
  go_wp2_with fail
  refine (C135.out _ (Kept.refl _)).mono ?_
  rintro e w2 ⟨rfl, hk2⟩
  have K2 := Lib.hid hk2
  clear hk2
  go_wp2_with fail
  refine (C136.out _ K2.out).mono ?_
  rintro e w3 ⟨rfl, hk3⟩
  have K3 := Lib.hid (K2.out.trans hk3)
  clear hk3
  go_wp2_with fail
  go_loopw [8, 9, 10] (fun v u i wr => ∃ k : Nat, k ≤ n ∧ i = .int .i64 k ∧ wr.ownsRow w.heap.size 3 1 v k (intsV (flS total s (zs.take k))) ∧ wr.ownsRow w.heap.size 3 1 u k (intsV ((zs.take k).map (cutZ total s))) ∧ Apart v u ∧ Kept w wr) (fun _ _ i _ => n - (intOf i).toNat)
  case atStart => exact ⟨0, by omega, by first | rfl | go_num, ⟨by simp [flS, intsV], .inl ⟨rfl, rfl⟩⟩, ⟨by simp [intsV], .inl ⟨rfl, rfl⟩⟩, (fun g hg => by cases hg), K3.out⟩
  case round =>
    obtain ⟨k, hk, rfl, ho8, ho9, hap, hkr⟩ := hrel
    have HO8 := Lib.hid ho8
    have HO9 := Lib.hid ho9
    have HAP := Lib.hid hap
    have HKR := Lib.hid hkr
    clear ho8 ho9 hap hkr
    by_cases hlt : k < n
    · obtain ⟨b, off, hA, hc⟩ := HI.out.2.2.2.2 (by omega)
      subst hA
      obtain ⟨z, hz⟩ : ∃ z, zs[k]? = some z := ⟨_, List.getElem?_eq_getElem (by rw [HZN.out]; exact hlt)⟩
      obtain ⟨z0, z1⟩ := part_in HP.out hz
      have m1 := mul_bd (n := total) (d := z) 1000000000 1000 (by omega) ht1 z0 z1 (by omega)
      obtain ⟨m11, m12⟩ := m1
      have m0 := Int.mul_nonneg ht0 z0
      obtain ⟨f0, f1⟩ := fl_one ht0 ht1 z0 z1 hpos
      obtain ⟨g0, g1⟩ := cut_bd (total := total) (z := z) hpos
      unfold cutZ at g0 g1
      have HZ := Lib.hid hz
      have hcz := hc k z hz
      have HCZ := Lib.hid hcz
      have c0 := (HKR.out.cells _ _ (cell_lt hcz)).trans hcz
      have HN1 := Lib.hid (news_of (W := wr) (cs := [.int .i64 (total * z / s)]) (t := 3) (m := wr.heap.size) rfl)
      have H31 := Lib.hid (one1 (total * z / s))
      have H32 := Lib.hid (one1 (total * z % s))
      have HA3 : RowKit.Hid (k + 1 ≤ maxLen) := Lib.hid (by unfold maxLen; omega)
      have HA4 : RowKit.Hid ((k + 1) * 8 ≤ 140737488355328) := Lib.hid (by omega)
      have HB1 : RowKit.Hid (w.heap.size ≤ (wr.alloc (.cells #[.int .i64 (total * z / s)] 3)).heap.size) := Lib.hid (by have := HKR.out.size; simp; omega)
      clear hz hc hcz
      go_wp2_with (first
        | (at_builtin; refine wpList_append_lies _ rfl (.tmp 29) (.tmp 38) 55 rfl w.heap.size 3 i0 _ 1 8 Tryz.underlying55 hi0 hz0 hz1 hz2 rfl (by decide) _ k _ rfl (own_kept HO8.out ((Kept.refl _).alloc _)) ⟨wr.heap.size, 0, none⟩ 1 1 [.int .i64 (total * z / s)] rfl rfl HN1.out H31.out (by decide) HA3.out HA4.out HB1.out _ rfl ?_; intro g cap w6 hown6 hgrow6 hat6 hlt6
           have HO6 := Lib.hid hown6
           have HC6 := Lib.hid (own_far (own_kept HO9.out ((Kept.refl _).alloc _)) hgrow6 HAP.out.symm)
           have HK6 := Lib.hid ((HKR.out.alloc _).grown hgrow6 (fun r hr => (HO8.out.lt r hr).1))
           have HAP6 := Lib.hid (Apart.next (n := k + 1) (c := cap) HAP.out (fun q hq => own_lt (own_kept HO9.out ((Kept.refl _).alloc _)) hq) hat6)
           have c6 := (HK6.out.cells _ _ (cell_lt HCZ.out)).trans HCZ.out
           have HB2 : RowKit.Hid (w.heap.size ≤ (w6.alloc (.cells #[.int .i64 (total * z % s)] 3)).heap.size) := Lib.hid (by have := HK6.out.size; simp; omega)
           clear hown6 hgrow6 hat6 hlt6)
        | (at_builtin; refine wpList_append_lies _ rfl (.tmp 40) (.tmp 49) 55 rfl w.heap.size 3 i0 _ 1 8 Tryz.underlying55 hi0 hz0 hz1 hz2 rfl (by decide) _ k _ rfl (own_kept HC6.out ((Kept.refl _).alloc _)) ⟨w6.heap.size, 0, none⟩ 1 1 [.int .i64 (total * z % s)] rfl rfl (news_of (W := w6) (cs := [.int .i64 (total * z % s)]) (t := 3) (m := w6.heap.size) rfl) H32.out (by decide) HA3.out HA4.out HB2.out _ rfl ?_; intro g2 cap2 w7 hown7 hgrow7 hat7 hlt7
           have HO7 := Lib.hid hown7
           have HC7 := Lib.hid (own_far (own_kept HO6.out ((Kept.refl _).alloc _)) hgrow7 HAP6.out)
           have HK7 := Lib.hid ((HK6.out.alloc _).grown hgrow7 (fun r hr => (HC6.out.lt r hr).1))
           have HAP7 := Lib.hid (Apart.next (n := k + 1) (c := cap2) HAP6.out.symm (fun q hq => own_lt (own_kept HO6.out ((Kept.refl _).alloc _)) hq) hat7)
           clear hown7 hgrow7 hat7 hlt7)
        | fail)
      go_roundw
      case rel =>
        refine ⟨k + 1, by omega, by go_num, ?_, ?_, HAP7.out.symm, HK7.out⟩
        · rw [take_snoc' HZ.out, flS_snoc, intsV_snoc]; exact HC7.out
        · rw [take_snoc' HZ.out, cuts_snoc, intsV_snoc]; exact HO7.out
      case measure => simp [intOf]; omega
    · obtain rfl : k = n := by omega
      have hT : zs.take k = zs := List.take_of_length_le (by rw [HZN.out]; exact Nat.le_refl _)
      have o8 := HO8.out
      have o9 := HO9.out
      rw [hT] at o8 o9
      obtain ⟨g8, c8, rfl, hg8, hl8, hc8, hm8, R8⟩ := own_rowI o8 hnpos
      obtain ⟨g9, c9, rfl, hg9, hl9, hc9, hm9, R9⟩ := own_rowI o9 hnpos
      have hg : g8 ≠ g9 := fun e => HAP.out g8 rfl (by rw [e]; rfl)
      have X8 := Lib.hid R8
      have X9 := Lib.hid R9
      obtain ⟨fs, hfs⟩ : ∃ fs, (flS total s zs).sum = fs := ⟨_, rfl⟩
      rw [hfs] at hlb
      have HFS := Lib.hid hfs
      have hI8 := ints_row (M := 1000000000000) (by omega) HFL.out hc8 hm8 HFB.out R8
      have HI8 := Lib.hid hI8
      have CS : RowKit.Hid (∀ W, Kept wr W → Calls Tryz.prog 136 #[.slice (some ⟨g8, 0, none⟩) k c8] W fun e w' => e = .returned (.int .i64 fs) ∧ Kept W w') := Lib.hid (fun W hW => by rw [← HFS.out]; exact rsumI_any _ k c8 _ HFB.out (by omega) W (HI8.out.kept hW))
      obtain ⟨L, hL⟩ : ∃ L : Nat, (L : Int) = total - fs := ⟨(total - fs).toNat, by omega⟩
      rw [HZN.out] at hlb
      obtain ⟨hlb0, hlb1⟩ := hlb
      have hfs0 : 0 ≤ fs := by rw [← hfs]; exact (sumI_bd (by omega) _ HFB.out).1
      have HL := Lib.hid hL
      have hLk : L ≤ k := by omega
      unfold maxLen at hm8 hm9
      clear hT o8 o9 R8 R9 hfs hI8
      go_wp2_with fail
      refine (CS.out _ (Kept.refl _)).mono ?_
      rintro e w4 ⟨rfl, hk4⟩
      have Y8 := Lib.hid (X8.out.kept hk4)
      have Y9 := Lib.hid (X9.out.kept hk4)
      have K4 := Lib.hid (HKR.out.trans hk4)
      have hsz4 := hk4.size
      clear hk4 hL
      go_wp2_with fail
      go_loopw [11] (fun l wr => ∃ j : Nat, j ≤ L ∧ l = .int .i64 (total - fs - j) ∧ RowC wr g8 (intsV (bump (flS total s zs) (Z.take j))) ∧ RowC wr g9 (intsV (zeroed (zs.map (cutZ total s)) (Z.take j))) ∧ Kept w wr) (fun l _ => (intOf l).toNat)
      case atStart => exact ⟨0, by omega, by simp, by simpa [bump] using Y8.out, by simpa [zeroed] using Y9.out, K4.out⟩
      case round =>
        obtain ⟨j, hj, rfl, x8, x9, kx⟩ := hrel
        obtain ⟨wo, rfl⟩ : ∃ wo, wo = wr := ⟨_, rfl⟩
        have hLL := HL.out
        by_cases hjL : j < L
        · obtain ⟨o, ho⟩ : ∃ o, Z[j]? = some o := ⟨_, List.getElem?_eq_getElem (by rw [HZL.out]; omega)⟩
          have hok : o < k := by rw [← HZN.out]; exact List.mem_range.1 (HPM.out.mem_iff.1 (List.mem_of_getElem? ho))
          have hbest := best_step (total := total) (L := L) (by rw [HS.out]; exact hps.out) HPM.out HPW.out (by rw [HS.out, HFS.out]; exact hLL) hjL ho
          rw [HS.out] at hbest
          have hbd := zeroed_bd hps.out HCB.out (Z.take j)
          have hcjl : (zeroed (zs.map (cutZ total s)) (Z.take j)).length = k := by rw [zeroed_len, HCL.out]
          have hojl : (bump (flS total s zs) (Z.take j)).length = k := by rw [bump_len, HFL.out]
          have hob := bump_bd (B := 1000000000000) HFB.out (Z.take j)
          have htl : (Z.take j).length ≤ 40 := by rw [List.length_take]; omega
          have e1 : bump (flS total s zs) (Z.take (j + 1)) = (bump (flS total s zs) (Z.take j)).modify o (· + 1) := by rw [take_snoc' ho, bump_snoc]
          have e2 : zeroed (zs.map (cutZ total s)) (Z.take (j + 1)) = (zeroed (zs.map (cutZ total s)) (Z.take j)).set o 0 := by rw [take_snoc' ho, zeroed_snoc]
          obtain ⟨cj, hcj⟩ : ∃ cj, zeroed (zs.map (cutZ total s)) (Z.take j) = cj := ⟨_, rfl⟩
          obtain ⟨oj, hoj⟩ : ∃ oj, bump (flS total s zs) (Z.take j) = oj := ⟨_, rfl⟩
          rw [hcj] at hbest hbd hcjl x9 e2
          rw [hoj] at hojl hob x8 e1
          obtain ⟨x, hx⟩ : ∃ x, oj[o]? = some x := ⟨_, List.getElem?_eq_getElem (by rw [hojl]; exact hok)⟩
          have hxb := hob x (List.mem_of_getElem? hx)
          have hx0 := hxb.1
          have hx1 : x ≤ 1000000000040 := by have := hxb.2; omega
          have hpos1 : 0 < total - fs - (j : Int) := by omega
          have hub1 : total - fs - (j : Int) ≤ 1000000000 := by omega
          have hj0 : decide (0 < total - fs - (j : Int)) = true := decide_eq_true hpos1
          have HBS := Lib.hid hbest
          have HBD := Lib.hid hbd
          have HCJ := Lib.hid hcjl
          have HOJ := Lib.hid hojl
          have HE1 := Lib.hid e1
          have HE2 := Lib.hid e2
          have HX := Lib.hid hx
          have Z8 := Lib.hid x8
          have Z9 := Lib.hid x9
          have HKX := Lib.hid kx
          have hz8 := cell_lt (x8 o _ (intsV_at hx)).1
          have hz9 : g9 < wo.heap.size := by
            obtain ⟨y, hy⟩ : ∃ y, cj[o]? = some y := ⟨_, List.getElem?_eq_getElem (by rw [hcjl]; exact hok)⟩
            exact cell_lt (x9 o _ (intsV_at hy)).1
          clear ho hbest hbd hcjl hojl hob htl e1 e2 hcj hoj hx hxb x8 x9 kx
          go_wp2_with fail
          go_loopw [12, 13] (fun bq i wq => ∃ p q : Nat, 1 ≤ q ∧ q ≤ k ∧ bq = .int .i64 p ∧ i = .int .i64 q ∧ isBest (cj.take q) p ∧ Kept wo wq) (fun _ i _ => k - (intOf i).toNat)
          case atStart => exact ⟨0, 1, by omega, by omega, by first | rfl | go_num, by first | rfl | go_num, best_one (by rw [HCJ.out]; omega), Kept.refl _⟩
          case round =>
            obtain ⟨p, q, hq0, hq, rfl, rfl, hb, kq⟩ := hrel
            have hpq := best_lt hb
            by_cases hqk : q < k
            · obtain ⟨u, hu⟩ : ∃ u, cj[q]? = some u := ⟨_, List.getElem?_eq_getElem (by rw [HCJ.out]; exact hqk)⟩
              obtain ⟨v, hv⟩ : ∃ v, cj[p]? = some v := ⟨_, List.getElem?_eq_getElem (by rw [HCJ.out]; omega)⟩
              have hub := HBD.out u (List.mem_of_getElem? hu)
              have hvb := HBD.out v (List.mem_of_getElem? hv)
              have cu := (Z9.out.kept kq q _ (intsV_at hu)).1
              have cv := (Z9.out.kept kq p _ (intsV_at hv)).1
              have HB := Lib.hid hb
              have HU := Lib.hid hu
              have HV := Lib.hid hv
              have HKQ := Lib.hid kq
              have hq1 : (0 : Int) ≤ (q : Int) := by omega
              have hq2 : (q : Int) < (k : Int) := by omega
              have hp1 : (0 : Int) ≤ (p : Int) := by omega
              have hp2 : (p : Int) < (k : Int) := by omega
              have itq : (q : Int).toNat = q := by omega
              have itp : (p : Int).toNat = p := by omega
              clear hb hu hv kq
              by_cases huv : v < u
              · have hd : decide (v < u) = true := decide_eq_true huv
                go_upto_region 19 with (fail)
                go_quiet (fail)
                go_wp2
                go_roundw
                case rel => exact ⟨q, q + 1, by omega, by omega, rfl, by go_num, best_new HB.out HU.out HV.out huv, HKQ.out.drewN _⟩
                case measure => simp [intOf]; omega
              · have hd : decide (v < u) = false := decide_eq_false huv
                go_upto_region 19 with (fail)
                go_quiet (fail)
                go_wp2
                go_roundw
                case rel => exact ⟨p, q + 1, by omega, by omega, rfl, by go_num, best_old HB.out HU.out HV.out (by omega), HKQ.out.drewN _⟩
                case measure => simp [intOf]; omega
            · obtain rfl : q = k := by omega
              have hpo : p = o := best_uniq (by rw [List.take_of_length_le (by rw [HCJ.out]; exact Nat.le_refl _)] at hb; exact hb) HBS.out
              subst hpo
              obtain ⟨y, hy⟩ : ∃ y, cj[p]? = some y := ⟨_, List.getElem?_eq_getElem (by rw [HCJ.out]; exact hok)⟩
              have y8 := Z8.out.kept kq p _ (intsV_at HX.out)
              obtain ⟨y81, y82⟩ := y8
              have y9 := Z9.out.kept kq p _ (intsV_at hy)
              obtain ⟨y91, y92⟩ := y9
              have W8 := Lib.hid (Z8.out.kept kq)
              have W9 := Lib.hid (Z9.out.kept kq)
              have HKQ := Lib.hid (HKX.out.trans kq)
              have hp1 : (0 : Int) ≤ (p : Int) := by omega
              have hp2 : (p : Int) < (q : Int) := by omega
              have hl8' := cell_lt y81
              have hl9' := cell_lt y91
              clear hb kq hy
              go_wp2
              go_roundw
              case rel =>
                refine ⟨j + 1, by omega, ?_, ?_, ?_, ?_⟩
                · first | go_num | (congr 1; push_cast; omega)
                · rw [HE1.out, intsV_modify HX.out]
                  exact (W8.out.put (by rw [intsV_len, HOJ.out]; exact hok) _).far hg _
                · rw [HE2.out]
                  have := (W9.out.far (Ne.symm hg) (.int .i64 (x + 1)) (j := p)).put (j := p) (by rw [intsV_len, HCJ.out]; exact hok) (.int .i64 0)
                  simpa [intsV] using this
                · exact (HKQ.out.setCell hg8 _).setCell hg9 _
              case measure => simp [intOf]; omega
        · obtain rfl : j = L := by omega
          have hz : total - fs - (j : Int) = 0 := by omega
          have hLt : (total - fs).toNat = j := by omega
          have HLT := Lib.hid hLt
          have Z8 := Lib.hid x8
          have HKX := Lib.hid kx
          rw [hz]
          clear hz hLt x8 x9 kx hLL
          go_wp2
          go_ret2
          refine ⟨⟨g8, c8, rfl, hc8, by unfold maxLen; exact hm8, ?_⟩, HKX.out⟩
          rw [HFS.out, HLT.out]
          exact Z8.out
end Go.Proofs.YtcjpecdnenemaaaGreatDoor
