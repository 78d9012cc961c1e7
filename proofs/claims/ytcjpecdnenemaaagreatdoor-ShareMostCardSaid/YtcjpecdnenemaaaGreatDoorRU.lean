/-
  The reference: what heads take up, their excess, what fits; ShareUses.
-/
import Derived.Test.YtcjpecdnenemaaaGreatDoorGN
import Derived.Test.YtcjpecdnenemaaaGreatDoorRn1
import Derived.Test.YtcjpecdnenemaaaGreatDoorRn7
import Derived.Test.YtcjpecdnenemaaaGreatDoorUs3
import Derived.Deep.RegionHeld3
import Derived.Test.YtcjpecdnenemaaaGreatDoorGP
import Derived.Test.YtcjpecdnenemaaaGreatDoorUf0
import Derived.Test.YtcjpecdnenemaaaGreatDoorUf3
namespace Go.Proofs.YtcjpecdnenemaaaGreatDoor
set_option linter.all false
open Go.RowKit Go.Shelf

def headAt (hs : List Hd) (i : Nat) : Bool := match hs[i]? with | some h => headB (hs.take i) h | none => true
def hdB (hs : List Hd) (k : Nat) : Bool := (List.range k).all (headAt hs)
theorem hdB_all (hs : List Hd) : hdB hs hs.length = areL hs := rfl
theorem hdB_succ {hs : List Hd} {k : Nat} {h : Hd} (hx : hs[k]? = some h) : hdB hs (k + 1) = (hdB hs k && headB (hs.take k) h) := by
  unfold hdB
  rw [List.range_succ, List.all_append]
  simp [headAt, hx]
theorem hdB_fell {hs : List Hd} {k : Nat} (hk : k ≤ hs.length) (h : hdB hs k = false) : areL hs = false := by
  rw [← hdB_all]
  unfold hdB at h ⊢
  rw [List.all_eq_false] at h ⊢
  obtain ⟨i, hi, hf⟩ := h
  exact ⟨i, List.mem_range.2 (by have := List.mem_range.1 hi; omega), hf⟩
def curB (hs : List Hd) (x : Hd) (q : Nat) : Bool := nameB x.sort && inB x.num 0 100000 && !(seenS (hs.take q) x.sort)
theorem curB_zero (hs : List Hd) (x : Hd) : curB hs x 0 = (nameB x.sort && inB x.num 0 100000) := by simp [curB, seenS]
theorem curB_succ {hs : List Hd} {x y : Hd} {q : Nat} (hy : hs[q]? = some y) : curB hs x (q + 1) = (curB hs x q && !(decide (y.sort = x.sort))) := by
  unfold curB
  rw [take_snoc' hy]
  unfold seenS
  rw [List.any_append]
  simp [Bool.and_assoc]
theorem bytes_inj {a b : ByteArray} (h : a.toList = b.toList) : a = b := by
  simp only [ByteArray.toList_eq] at h
  cases a
  cases b
  simp_all
set_option maxRecDepth 100000 in
set_option maxHeartbeats 4000000 in
theorem rheads_any (A : Option Addr) (n c : Nat) (hs : List Hd) (w : World) (h : HeadsA w A n c hs) :
    Calls Tryz.prog 170 #[.slice A n c] w fun e w' => e = .returned (.bool (areS hs)) ∧ Kept w w' := by
  have H := Lib.hid h
  have hnc := h.2.1
  have hm := h.2.2.1
  clear h
  by_cases h12 : 12 < n
  · have HO := Lib.hid (show areS hs = false by unfold areS; rw [decide_eq_false (by rw [H.out.1]; omega)]; rfl)
    have h4 : ¬ (n : Int) ≤ 12 := by omega
    have h5 : decide ((n : Int) ≤ 12) = false := decide_eq_false h4
    go_enter Tryz.func170, Tryz.ntmps170
    go_wp2_with fail
    go_loopw [3, 4] (fun o i wr => o = .bool false ∧ i = .int .i64 0 ∧ Kept w wr) (fun _ _ _ => 0)
    case atStart => exact ⟨by first | rfl | (simp; omega), by first | rfl | go_num, Kept.refl _⟩
    case round =>
      obtain ⟨rfl, rfl, hkr⟩ := hrel
      have h6 : decide ((0 : Int) < (n : Int)) = true := decide_eq_true (by omega)
      go_wp2
      go_ret
      exact ⟨ret_bool (by rw [HO.out]), hkr⟩
  have h4 : (n : Int) ≤ 12 := by omega
  have h5 : decide ((n : Int) ≤ 12) = true := decide_eq_true h4
  have H12 := Lib.hid (show areS hs = areL hs by unfold areS; rw [decide_eq_true (by rw [H.out.1]; omega)]; rfl)
  go_enter Tryz.func170, Tryz.ntmps170
  go_wp2_with fail
  go_loopw [3, 4] (fun o i wr => ∃ k : Nat, k ≤ n ∧ o = .bool (hdB hs k) ∧ i = .int .i64 k ∧ Kept w wr) (fun _ i _ => n - (intOf i).toNat)
  case atStart => exact ⟨0, by omega, by first | rfl | (simp [hdB]; done) | (simp [hdB]; omega), by first | rfl | go_num, Kept.refl _⟩
  case round =>
    obtain ⟨k, hk, rfl, rfl, hkr⟩ := hrel
    have HKR := Lib.hid hkr
    clear hkr h5
    by_cases hlt : k < n
    · have hl1 : decide ((k : Int) < (n : Int)) = true := decide_eq_true (by omega)
      obtain ⟨ob, hob⟩ : ∃ ob, ob = hdB hs k := ⟨_, rfl⟩
      rw [← hob]
      have HOB := Lib.hid hob
      clear hob
      cases ob
      · have HF := Lib.hid (hdB_fell (by rw [H.out.1]; omega) HOB.out.symm)
        go_wp2
        go_ret
        exact ⟨ret_bool (by rw [H12.out, HF.out]), HKR.out⟩
      obtain ⟨b, off, hA, hc⟩ := H.out.2.2.2.2 (by omega)
      have HC := Lib.hid (And.intro hA hc)
      have hxl : k < hs.length := by rw [H.out.1]; exact hlt
      obtain ⟨x, hx⟩ : ∃ x, hs[k]? = some x := ⟨hs[k]'hxl, List.getElem?_eq_getElem hxl⟩
      obtain ⟨bs, bn1, bn2⟩ := H.out.2.2.2.1 x (List.mem_of_getElem? hx)
      have q0 := (HKR.out.cells _ _ (cell_lt (hc k x hx).1)).trans (hc k x hx).1
      have q1 := (HKR.out.cells _ _ (cell_lt (hc k x hx).2)).trans (hc k x hx).2
      have l0 := cell_lt q0
      have HX := Lib.hid hx
      subst hA
      clear hx hc
      go_wp2_with fail
      refine (rname_any x.sort bs _).mono ?_
      rintro e w2 ⟨rfl, hk2⟩
      have K2 := Lib.hid (HKR.out.trans hk2)
      replace q0 := (hk2.cells _ _ l0).trans q0
      replace q1 := (hk2.cells _ _ l0).trans q1
      replace l0 := cell_lt q0
      clear hk2
      go_upto_region 6 with (fail)
      obtain ⟨nb, hnb⟩ : ∃ nb, nb = nameB x.sort := ⟨_, rfl⟩
      have HNB := Lib.hid hnb
      rw [← hnb]
      clear hnb
      go_cut [3] (fun s3 wx => s3 = .bool (curB hs x 0) ∧ Kept w wx)
      case first =>
        cases nb
        · go_wp2
          go_meet
          refine ⟨?_, K2.out⟩
          rw [curB_zero, ← HNB.out]
          first | rfl | (simp; done) | trace_state
        · go_wp2_with fail
          refine (rwithin_any _ _ _ _).mono ?_
          rintro e w3 ⟨rfl, hk3⟩
          go_wp2
          go_meet
          refine ⟨?_, by first | exact K2.out.trans hk3 | (subst hk3; exact K2.out)⟩
          rw [curB_zero, ← HNB.out]
          first | rfl | (simp; done) | trace_state
      obtain ⟨rfl, kc⟩ := hcut
      have KC := Lib.hid kc
      clear kc q0 q1 l0
      obtain ⟨wa, rfl⟩ : ∃ wa, wa = wr := ⟨_, rfl⟩
      go_wp2_with fail
      go_loopw [3, 6] (fun o j wi => ∃ q : Nat, q ≤ k ∧ o = .bool (curB hs x q) ∧ j = .int .i64 q ∧ Kept w wi) (fun _ j _ => k - (intOf j).toNat)
      case atStart => exact ⟨0, by omega, rfl, by first | rfl | go_num, KC.out⟩
      case round =>
        obtain ⟨q, hq, rfl, rfl, hki⟩ := hrel
        have HKI := Lib.hid hki
        clear hki
        by_cases hlq : q < k
        · have hl2 : decide ((q : Int) < (k : Int)) = true := decide_eq_true (by omega)
          have hyl : q < hs.length := by rw [H.out.1]; omega
          obtain ⟨y, hy⟩ : ∃ y, hs[q]? = some y := ⟨hs[q]'hyl, List.getElem?_eq_getElem hyl⟩
          have HY := Lib.hid (curB_succ (x := x) hy)
          have q0 := (HKI.out.cells _ _ (cell_lt (HC.out.2 k x HX.out).1)).trans (HC.out.2 k x HX.out).1
          have p0 := (HKI.out.cells _ _ (cell_lt (HC.out.2 q y hy).1)).trans (HC.out.2 q y hy).1
          have i0 : (0 : Int) ≤ (k : Int) := by omega
          have i1 : (k : Int) < (n : Int) := by omega
          have j0 : (0 : Int) ≤ (q : Int) := by omega
          have j1 : (q : Int) < (n : Int) := by omega
          have it : (k : Int).toNat = k := by omega
          have jt : (q : Int).toNat = q := by omega
          obtain ⟨cb, hcb⟩ : ∃ cb, cb = curB hs x q := ⟨_, rfl⟩
          rw [← hcb]
          rw [← hcb] at HY
          clear hcb hy
          cases cb
          · go_upto_region 10 with (fail)
            go_quiet (fail)
            go_wp2
            go_roundw
            case rel => exact ⟨q + 1, by omega, by rw [HY.out]; rfl, by go_num, by first | exact HKI.out.drewN _ | exact HKI.out.drew | exact HKI.out⟩
            case measure => simp [intOf]; omega
          · by_cases he : y.sort = x.sort
            · have he2 : (y.sort.toList == x.sort.toList) = true := by rw [he]; simp
              have HE := Lib.hid (show decide (y.sort = x.sort) = true from decide_eq_true he)
              clear he
              go_upto_region 10 with (fail)
              go_quiet (fail)
              go_wp2
              go_roundw
              case rel => exact ⟨q + 1, by omega, by rw [HY.out, HE.out]; rfl, by go_num, by first | exact HKI.out.drewN _ | exact HKI.out.drew | exact HKI.out⟩
              case measure => simp [intOf]; omega
            · have he2 : (y.sort.toList == x.sort.toList) = false := by
                rw [beq_eq_false_iff_ne]
                intro h
                exact he (bytes_inj h)
              have HE := Lib.hid (show decide (y.sort = x.sort) = false from decide_eq_false he)
              clear he
              go_upto_region 10 with (fail)
              go_quiet (fail)
              go_wp2
              go_roundw
              case rel => exact ⟨q + 1, by omega, by rw [HY.out, HE.out]; rfl, by go_num, by first | exact HKI.out.drewN _ | exact HKI.out.drew | exact HKI.out⟩
              case measure => simp [intOf]; omega
        · obtain rfl : q = k := by omega
          have hl2 : decide ((q : Int) < (q : Int)) = false := decide_eq_false (by omega)
          have HH := Lib.hid (hdB_succ HX.out)
          go_wp2
          go_roundw
          case rel => exact ⟨q + 1, by omega, by rw [HH.out, ← HOB.out]; rfl, by go_num, HKI.out⟩
          case measure => simp [intOf]; omega
    · obtain rfl : k = n := by omega
      have hl1 : decide ((k : Int) < (k : Int)) = false := decide_eq_false (by omega)
      have HA := Lib.hid (show areS hs = hdB hs k by rw [H12.out, ← hdB_all, H.out.1])
      go_wp2
      go_ret
      exact ⟨ret_bool (by rw [HA.out]), HKR.out⟩
end Go.Proofs.YtcjpecdnenemaaaGreatDoor

namespace Go.Proofs.YtcjpecdnenemaaaGreatDoor
set_option linter.all false
open Go.RowKit Go.Shelf

def askE (xs : List Eqv) (hs : List Hd) (r : Bool) (day known : Int) : Int :=
  if (chkS xs).2 = 0 then (if (areS hs && r) = true then (if eachB xs hs day known = true then 0 else 10) else 1) else (chkS xs).2
theorem askE_each (xs : List Eqv) (hs : List Hd) (sn sd day known : Int) : askE xs hs (vld sn sd) day known = eachE xs hs sn sd day known := rfl
def AskRes (w : World) (xs : List Eqv) (hs : List Hd) (r : Bool) (day known : Int) (e : Ending) (w' : World) : Prop :=
  ∃ v, e = .returned (.tuple #[v, .int .i64 (askE xs hs r day known)]) ∧ (askE xs hs r day known = 0 → w'.ownsRow w.heap.size 23 2 v hs.length (fl2 (eachL xs hs day known))) ∧ Kept w w'
set_option maxRecDepth 100000 in
set_option maxHeartbeats 4000000 in
theorem asked_any (A : Option Addr) (n c : Nat) (xs : List Eqv) (B : Option Addr) (hn hc : Nat) (hs : List Hd) (r : Bool) (day known : Int) (w : World) (hT : TabA w A n c xs) (hH : HeadsA w B hn hc hs) :
    Calls Tryz.prog 126 #[.slice A n c, .slice B hn hc, .bool r, .int .i64 day, .int .i64 known] w (AskRes w xs hs r day known) := by
  have HT := Lib.hid hT
  have HH := Lib.hid hH
  have hhc := hH.2.1
  have hhm := hH.2.2.1
  clear hT hH
  obtain ⟨E, hE⟩ : ∃ E, E = askE xs hs r day known := ⟨_, rfl⟩
  have HEE := Lib.hid hE
  unfold AskRes
  rw [← hE]
  clear hE
  obtain ⟨⟨c0, c1⟩, hck⟩ : ∃ q, q = chkS xs := ⟨_, rfl⟩
  have HCK := Lib.hid hck
  have HC : RowKit.Hid (∀ W, Kept w W → Calls Tryz.prog 37 #[.slice A n c] W fun e w' => e = .returned (.tuple #[.int .i64 c0, .int .i64 c1]) ∧ Kept W w') := Lib.hid (fun W hW => by
    have := rcheck_any A n c xs W (HT.out.kept hW)
    rw [← hck] at this
    exact this)
  clear hck
  by_cases h0 : c1 = 0
  rotate_left
  · have hb : (c1 != 0) = true := by simpa using h0
    have HV : RowKit.Hid (E = c1) := Lib.hid (by rw [HEE.out]; unfold askE; rw [← HCK.out, if_neg h0])
    have HN := Lib.hid h0
    clear h0
    go_enter Tryz.func126, Tryz.ntmps126
    go_wp2_with fail
    refine (HC.out _ (Kept.refl _)).mono ?_
    rintro e w1 ⟨rfl, hk1⟩
    go_wp2
    go_ret2
    exact ⟨.slice none 0 0, by rw [HV.out]; rfl, fun h => absurd (HV.out.symm.trans h) HN.out, hk1⟩
  subst h0
  have HF := Lib.hid (fun x hx => chk_form (x := x) (show (chkS xs).2 = 0 by rw [← HCK.out]) hx)
  have HE2 : RowKit.Hid (E = if (areS hs && r) = true then (if eachB xs hs day known = true then 0 else 10) else 1) := Lib.hid (by rw [HEE.out]; unfold askE; rw [← HCK.out, if_pos rfl])
  have hcz : ((0 : Int) != 0) = false := by decide
  obtain ⟨ab, hab⟩ : ∃ ab, ab = areS hs := ⟨_, rfl⟩
  have HAB := Lib.hid hab
  have HHD : RowKit.Hid (∀ W, Kept w W → Calls Tryz.prog 170 #[.slice B hn hc] W fun e w' => e = .returned (.bool ab) ∧ Kept W w') := Lib.hid (fun W hW => by rw [hab]; exact rheads_any B hn hc hs W (HH.out.kept hW))
  rw [← hab] at HE2
  clear hab
  cases ab
  · have HV : RowKit.Hid (E = 1) := Lib.hid (by rw [HE2.out]; rfl)
    go_enter Tryz.func126, Tryz.ntmps126
    go_wp2_with fail
    refine (HC.out _ (Kept.refl _)).mono ?_
    rintro e w1 ⟨rfl, hk1⟩
    go_wp2_with fail
    refine (HHD.out _ hk1).mono ?_
    rintro e w2 ⟨rfl, hk2⟩
    go_wp2
    go_ret2
    exact ⟨.slice none 0 0, by rw [HV.out]; rfl, fun h => (by rw [HV.out] at h; cases h), hk1.trans hk2⟩
  cases r
  · have HV : RowKit.Hid (E = 1) := Lib.hid (by rw [HE2.out]; rfl)
    go_enter Tryz.func126, Tryz.ntmps126
    go_wp2_with fail
    refine (HC.out _ (Kept.refl _)).mono ?_
    rintro e w1 ⟨rfl, hk1⟩
    go_wp2_with fail
    refine (HHD.out _ hk1).mono ?_
    rintro e w2 ⟨rfl, hk2⟩
    go_wp2
    go_ret2
    exact ⟨.slice none 0 0, by rw [HV.out]; rfl, fun h => (by rw [HV.out] at h; cases h), hk1.trans hk2⟩
  have HE3 : RowKit.Hid (E = if eachB xs hs day known = true then 0 else 10) := Lib.hid (by rw [HE2.out]; rfl)
  have h12 : hn ≤ 12 := by
    have ha := HAB.out.symm
    unfold areS at ha
    simp only [Bool.and_eq_true, decide_eq_true_eq] at ha
    rw [← HH.out.1]; exact ha.1
  obtain ⟨i0, hi0, hz0, hz1, hz2⟩ := info_parts info23
  go_enter Tryz.func126, Tryz.ntmps126
  go_wp2_with fail
  refine (HC.out _ (Kept.refl _)).mono ?_
  rintro e w1 ⟨rfl, hk1⟩
  go_wp2_with fail
  refine (HHD.out _ hk1).mono ?_
  rintro e w2 ⟨rfl, hk2⟩
  have K2 := Lib.hid (hk1.trans hk2)
  clear hk1 hk2
  go_wp2_with fail
  go_loopw [15, 16] (fun v i wr => ∃ k : Nat, k ≤ hn ∧ i = .int .i64 k ∧ (∀ j x, j < k → hs[j]? = some x → (inForceS xs x.sort day known).isSome = true) ∧ wr.ownsRow w.heap.size 23 2 v k (fl2 (eachL xs (hs.take k) day known)) ∧ Kept w wr) (fun _ i _ => hn - (intOf i).toNat)
  case atStart => exact ⟨0, by omega, by first | rfl | go_num, fun j x hj => by omega, by exact ⟨rfl, .inl ⟨rfl, rfl⟩⟩, K2.out⟩
  case round =>
    obtain ⟨k, hk, rfl, ho, hown, hkr⟩ := hrel
    have Ho := Lib.hid ho
    have HO := Lib.hid hown
    have HKR := Lib.hid hkr
    clear ho hown hkr
    by_cases hlt2 : k < hn
    · obtain ⟨b, off, hB, hcc⟩ := HH.out.2.2.2.2 (by omega)
      subst hB
      have hxl : k < hs.length := by rw [HH.out.1]; exact hlt2
      obtain ⟨x, hx⟩ : ∃ x, hs[k]? = some x := ⟨hs[k]'hxl, List.getElem?_eq_getElem hxl⟩
      have q0 := (HKR.out.cells _ _ (cell_lt (hcc k x hx).1)).trans (hcc k x hx).1
      have q1 := (HKR.out.cells _ _ (cell_lt (hcc k x hx).2)).trans (hcc k x hx).2
      have HX := Lib.hid hx
      have HI : RowKit.Hid (∀ W, Kept wr W → Calls Tryz.prog 116 #[.slice A n c, .string x.sort, .int .i64 day, .int .i64 known] W fun e w' => e = .returned (forV (inForceS xs x.sort day known)) ∧ Kept W w') := Lib.hid (fun W hW => rinForce_for A n c xs x.sort day known W (HT.out.kept (HKR.out.trans hW)) HF.out)
      clear hx hcc
      rcases hf : inForceS xs x.sort day known with _ | y
      · have HNo := Lib.hid (show eachB xs hs day known = false by
          unfold eachB
          rw [List.all_eq_false]
          exact ⟨x, List.mem_of_getElem? HX.out, by rw [hf]; simp⟩)
        rw [hf] at HI
        have HV : RowKit.Hid (E = 10) := Lib.hid (by rw [HE3.out, HNo.out]; rfl)
        clear hf
        dsimp only [forV, eqV, Option.getD_none, Option.isSome_none, zeroE] at HI
        go_wp2_with fail
        refine (HI.out _ (Kept.refl _)).mono ?_
        rintro e w5 ⟨rfl, hk5⟩
        have K5 := Lib.hid (HKR.out.trans hk5)
        clear hk5
        go_wp2
        go_ret2
        exact ⟨.slice none 0 0, by rw [HV.out]; rfl, fun h => (by rw [HV.out] at h; cases h), K5.out.alloc _⟩
      · have HS := Lib.hid (show stS (inForceS xs x.sort day known) = (y.num, y.den) by rw [hf]; rfl)
        have HII := Lib.hid (show (inForceS xs x.sort day known).isSome = true by rw [hf]; rfl)
        rw [hf] at HI
        clear hf
        dsimp only [forV, eqV, Option.getD_some, Option.isSome_some] at HI
        go_wp2_with fail
        refine (HI.out _ (Kept.refl _)).mono ?_
        rintro e w5 ⟨rfl, hk5⟩
        have HO5 := Lib.hid (own_kept (own_kept (own_kept HO.out hk5) ((Kept.refl w5).alloc (.cells #[.int .i64 y.id, .int .i64 y.frm, .int .i64 y.kno, .string y.sort, .int .i64 y.num, .int .i64 y.den, .int .i64 y.off] 37))) ((Kept.refl _).alloc (.cells #[.int .i64 y.num, .int .i64 y.den] 23)))
        have HK5 : RowKit.Hid (Kept w (w5.alloc (.cells #[.int .i64 y.id, .int .i64 y.frm, .int .i64 y.kno, .string y.sort, .int .i64 y.num, .int .i64 y.den, .int .i64 y.off] 37))) := Lib.hid ((HKR.out.trans hk5).alloc _)
        have HN := Lib.hid (news_of (W := w5.alloc (.cells #[.int .i64 y.id, .int .i64 y.frm, .int .i64 y.kno, .string y.sort, .int .i64 y.num, .int .i64 y.den, .int .i64 y.off] 37)) (cs := [.int .i64 y.num, .int .i64 y.den]) (t := 23) (m := w5.heap.size + 1) (by simp))
        have H16 := Lib.hid (one2 y.num y.den)
        have HZ := Lib.hid (HK5.out.alloc (.cells #[.int .i64 y.num, .int .i64 y.den] 23)).size
        have HA3 : RowKit.Hid (k + 1 ≤ maxLen) := Lib.hid (by unfold maxLen; omega)
        have HA4 : RowKit.Hid ((k + 1) * 16 ≤ 140737488355328) := Lib.hid (by omega)
        clear hk5
        go_wp2_with (at_builtin; refine wpList_append_lies _ rfl (.tmp 55) (.tmp 58) 32 rfl w.heap.size 23 i0 _ 2 16 Tryz.underlying32 hi0 hz0 hz1 hz2 rfl (by decide) _ k _ rfl HO5.out ⟨w5.heap.size + 1, 0, none⟩ 1 1 [.int .i64 y.num, .int .i64 y.den] rfl rfl HN.out H16.out (by decide) HA3.out HA4.out HZ.out _ rfl ?_; intro g cap w6 hown6 hgrow6 hat6 hlt6)
        have HO6 := Lib.hid hown6
        have HK6 := Lib.hid ((HK5.out.alloc (.cells #[.int .i64 y.num, .int .i64 y.den] 23)).grown hgrow6 (fun r hr => (HO.out.lt r hr).1))
        clear hown6 hgrow6 hat6 hlt6
        go_roundw
        case rel =>
          refine ⟨k + 1, by omega, by go_num, fun j z hj hz => ?_, ?_, HK6.out⟩
          · rcases Nat.lt_or_eq_of_le (Nat.le_of_lt_succ hj) with h | h
            · exact Ho.out j z h hz
            · subst h
              have := HX.out
              rw [hz] at this
              cases this
              exact HII.out
          · have e1 : fl2 (eachL xs (hs.take (k + 1)) day known) = fl2 (eachL xs (hs.take k) day known) ++ [.int .i64 y.num, .int .i64 y.den] := by
              rw [take_snoc' HX.out]
              unfold eachL
              rw [List.map_append, List.map_cons, List.map_nil, fl2_snoc, HS.out]
            rw [e1]; exact HO6.out
        case measure => simp [intOf]; omega
    · obtain rfl : k = hn := by omega
      have HYes := Lib.hid (show eachB xs hs day known = true by
        unfold eachB
        rw [List.all_eq_true]
        intro x hx
        obtain ⟨j, hj⟩ := List.getElem?_of_mem hx
        exact Ho.out j x (by rw [← HH.out.1]; exact (List.getElem?_eq_some_iff.1 hj).1) hj)
      have HT2 := Lib.hid (show hs.take k = hs from List.take_of_length_le (by rw [HH.out.1]; exact Nat.le_refl _))
      have HV : RowKit.Hid (E = 0) := Lib.hid (by rw [HE3.out, HYes.out]; rfl)
      go_wp2
      have hv0 := HV.out
      clear HV
      subst hv0
      go_ret2
      refine ⟨_, rfl, fun _ => ?_, HKR.out⟩
      have := HO.out
      rw [HT2.out] at this
      rw [HH.out.1]
      exact this
end Go.Proofs.YtcjpecdnenemaaaGreatDoor

namespace Go.Proofs.YtcjpecdnenemaaaGreatDoor
set_option linter.all false
open Go.RowKit Go.Shelf

theorem excS_ask {xs : List Eqv} {hs : List Hd} {day known : Int} (h : askE xs hs true day known = 0) : excS xs hs 0 1 day known = okL (usesF (zipE xs hs day known)) := by
  have h2 : eachE xs hs 0 1 day known = 0 := h
  unfold excS
  rw [if_pos h2]
  have := excF_zero (zipE_good h2).1
  unfold zipE at this
  rw [this]
  rfl
theorem excS_askn {xs : List Eqv} {hs : List Hd} {day known : Int} (h : askE xs hs true day known ≠ 0) : excS xs hs 0 1 day known = (0, 0, askE xs hs true day known) := by
  have h2 : eachE xs hs 0 1 day known ≠ 0 := h
  unfold excS
  rw [if_neg h2]
  rfl
theorem mulS_one {p : Int × Int} {n : Int} (hp : vld p.1 p.2 = true) (h1 : 0 ≤ n) (h2 : n ≤ 100000) : mulS n 1 p.1 p.2 = okL (mulF p.1 p.2 n 1) := by
  have hv := vld_whole (k := n) (by omega) (by omega)
  rw [mulS_comm]
  unfold mulS
  rw [if_pos (by rw [hp, hv]; rfl)]
theorem addS_val {a p : Int × Int} (ha : vld a.1 a.2 = true) (hp : vld p.1 p.2 = true) : addS a.1 a.2 p.1 p.2 = okL (addO (some a) p) := by
  unfold addS
  rw [if_pos (by rw [ha, hp]; rfl)]
  rfl
theorem But.row2 {p b : Nat} {w w' : World} {vs : List Value} (h : But p w w') (hr : RowC w b vs) (hne : b ≠ p) : RowC w' b vs := h.row hr hne

set_option maxRecDepth 100000 in
set_option maxHeartbeats 8000000 in
theorem ruses_any (A : Option Addr) (n c : Nat) (xs : List Eqv) (B : Option Addr) (hn hc : Nat) (hs : List Hd) (day known : Int) (w : World) (hT : TabA w A n c xs) (hH : HeadsA w B hn hc hs) :
    Calls Tryz.prog 60 #[.slice A n c, .slice B hn hc, .int .i64 day, .int .i64 known] w fun e w' => e = .returned (.tuple #[.agg #[.int .i64 (excS xs hs 0 1 day known).1, .int .i64 (excS xs hs 0 1 day known).2.1], .int .i64 (excS xs hs 0 1 day known).2.2]) ∧ Kept w w' := by
  obtain ⟨⟨X, Y, Z⟩, hx⟩ : ∃ r, r = excS xs hs 0 1 day known := ⟨_, rfl⟩
  rw [← hx]
  have HX := Lib.hid hx
  clear hx
  obtain ⟨W0, hW0⟩ : ∃ W0 : World, W0 = w.alloc (.cells #[.int .i64 0, .int .i64 0] 23) := ⟨_, rfl⟩
  have K0 : RowKit.Hid (Kept w W0) := Lib.hid (by rw [hW0]; exact (Kept.refl _).alloc _)
  have R0 : RowKit.Hid (RowC W0 w.heap.size [.int .i64 0, .int .i64 0]) := Lib.hid (by rw [hW0]; exact RowC.new w _ 23)
  have Z0 : RowKit.Hid (W0.heap.size = w.heap.size + 1) := Lib.hid (by rw [hW0]; simp)
  have HW0 := Lib.hid hW0
  have HH := Lib.hid (hH.kept K0.out)
  have hhc := hH.2.1
  have hhm := hH.2.2.1
  obtain ⟨E, hE⟩ : ∃ E, E = askE xs hs true day known := ⟨_, rfl⟩
  have HEE := Lib.hid hE
  have HAS : RowKit.Hid (Calls Tryz.prog 126 #[.slice A n c, .slice B hn hc, .bool true, .int .i64 day, .int .i64 known] W0 fun e w' => ∃ v, e = .returned (.tuple #[v, .int .i64 E]) ∧ (E = 0 → w'.ownsRow W0.heap.size 23 2 v hs.length (fl2 (eachL xs hs day known))) ∧ Kept W0 w') := Lib.hid (by
    have := asked_any A n c xs B hn hc hs true day known W0 (hT.kept K0.out) HH.out
    unfold AskRes at this
    rw [← hE] at this
    exact this)
  clear hT hH hW0 hE
  by_cases hz : E = 0
  rotate_left
  · have hzb : (E != 0) = true := by simpa using hz
    have HV : RowKit.Hid ((X, Y, Z) = (0, 0, E)) := Lib.hid (by rw [HX.out, HEE.out]; exact excS_askn (by rw [← HEE.out]; exact hz))
    clear hz
    go_enter Tryz.func60, Tryz.ntmps60
    go_upto_region 1 with (fail)
    rw [← HW0.out]
    go_wp2_with fail
    refine HAS.out.mono ?_
    rintro e w1 ⟨v, rfl, _, hk1⟩
    have RR := R0.out.kept hk1
    have e0 := (RR 0 _ rfl).1
    have e1 := (RR 1 _ rfl).1
    have y0 := (RR 0 _ rfl).2
    have y1 := (RR 1 _ rfl).2
    have le := cell_lt e0
    have K1 := Lib.hid (K0.out.trans hk1)
    clear RR hk1
    have hv := HV.out
    simp only [Prod.mk.injEq] at hv
    obtain ⟨rfl, rfl, rfl⟩ := hv
    go_wp2
    refine bodyPost_ret (v := .tuple #[.agg #[.int .i64 0, .int .i64 0], .int .i64 Z]) (by simp [results, Tryz.results60, go_sem, e0, e1]) rfl ⟨rfl, ?_⟩
    exact (K1.out.setCell (by first | (simp; done) | (simp; omega)) _).setCell (by first | (simp; done) | (simp; omega)) _
  subst hz
  have he0 : askE xs hs true day known = 0 := HEE.out.symm
  have HXU : RowKit.Hid ((X, Y, Z) = okL (usesF (zipE xs hs day known))) := Lib.hid (by rw [HX.out]; exact excS_ask he0)
  obtain ⟨hge, _⟩ := zipE_good (xs := xs) (hs := hs) (sn := 0) (sd := 1) (day := day) (known := known) he0
  have hzl : (zipE xs hs day known).length = hn := by rw [zipE_map, List.length_map, HH.out.1]
  have HGE := Lib.hid hge
  have HZL := Lib.hid hzl
  have hll : (eachL xs hs day known).length = hn := by unfold eachL; rw [List.length_map, HH.out.1]
  have HLL := Lib.hid hll
  have hEL : (eachL xs hs day known).length = hs.length := by unfold eachL; rw [List.length_map]
  clear he0 hge hzl hll
  go_enter Tryz.func60, Tryz.ntmps60
  go_upto_region 1 with (fail)
  rw [← HW0.out]
  go_wp2_with fail
  refine HAS.out.mono ?_
  rintro e w1 ⟨v, rfl, hown, hk1⟩
  obtain ⟨A7, c7, hv7, hf7⟩ := fracs_own (es := eachL xs hs day known) (by rw [hEL]; exact hown trivial)
  rw [HLL.out] at hv7 hf7
  subst hv7
  have HF7 := Lib.hid hf7
  have hc7 := hf7.2.1
  have hm7 := hf7.2.2.1
  have K1 := Lib.hid hk1
  obtain ⟨sb, hsb⟩ : ∃ sb, sb = w1.heap.size := ⟨_, rfl⟩
  have HSB := Lib.hid hsb
  obtain ⟨W2, hW2⟩ : ∃ W2, W2 = w1.alloc (.cells #[.int .i64 0, .int .i64 1] 23) := ⟨_, rfl⟩
  have K2 : RowKit.Hid (Kept w1 W2) := Lib.hid (by rw [hW2]; exact (Kept.refl _).alloc _)
  have R2 : RowKit.Hid (RowC W2 sb [.int .i64 0, .int .i64 1]) := Lib.hid (by rw [hW2, hsb]; exact RowC.new w1 _ 23)
  have Z2 : RowKit.Hid (W2.heap.size = sb + 1) := Lib.hid (by rw [hW2, hsb]; simp)
  have HW2 := Lib.hid hW2
  have hwsb : w.heap.size < sb := by have := hk1.size; have := Z0.out; omega
  clear hown hf7 hk1 hW2 hEL hsb
  go_upto_region 5 with (fail)
  rw [← HW2.out, ← HSB.out]
  go_wp2_with fail
  go_loopw [13] (fun i wr => ∃ (k : Nat) (a b : Int), k ≤ hn ∧ i = .int .i64 k ∧ usesF ((zipE xs hs day known).take k) = some (a, b) ∧ RowC wr sb [.int .i64 a, .int .i64 b] ∧ But sb W2 wr ∧ sb < wr.heap.size) (fun i _ => hn - (intOf i).toNat)
  case atStart => exact ⟨0, 0, 1, by omega, by first | rfl | go_num, rfl, R2.out, But.of_kept (Kept.refl _), by have := Z2.out; omega⟩
  case round =>
    obtain ⟨k, a, b', hk, rfl, hu, hr, hbt, hzr⟩ := hrel
    have HUk := Lib.hid hu
    have HR := Lib.hid hr
    have HBT := Lib.hid hbt
    clear hu hr hbt
    have hK2w : Kept w W2 := (K0.out.trans K1.out).trans K2.out
    have RR := HBT.out.row ((R0.out.kept K1.out).kept K2.out) (by omega)
    have RRH := Lib.hid RR
    have KW2 := Lib.hid hK2w
    clear RR hK2w
    have hdec : decide ((k : Int) < (hn : Int)) = decide (k < hn) := decide_eq_decide.2 (by omega)
    by_cases hlt : k < hn
    · obtain ⟨b, off, hB, hcc⟩ := HH.out.2.2.2.2 (by omega)
      subst hB
      obtain ⟨g, goff, hA7, hfc⟩ := HF7.out.2.2.2 (by omega)
      subst hA7
      have hxl : k < hs.length := by rw [HH.out.1]; exact hlt
      obtain ⟨hd, hhd⟩ : ∃ hd, hs[k]? = some hd := ⟨hs[k]'hxl, List.getElem?_eq_getElem hxl⟩
      have hze := zipE_at (xs := xs) (day := day) (known := known) hhd
      obtain ⟨⟨p0, p1⟩, hpp⟩ : ∃ p, p = stS (inForceS xs hd.sort day known) := ⟨_, rfl⟩
      rw [← hpp] at hze
      have hel : (eachL xs hs day known)[k]? = some (p0, p1) := by unfold eachL; rw [List.getElem?_map, hhd, hpp]; rfl
      obtain ⟨gv, n0, n1⟩ := HGE.out _ (List.mem_of_getElem? hze)
      dsimp only at gv n0 n1
      have hb1 := (((K1.out.trans K2.out).cells _ _ (cell_lt (hcc k hd hhd).2)).trans (hcc k hd hhd).2)
      have hbl : b < sb := by have h1 := cell_lt (hcc k hd hhd).2; have h2 := K1.out.size; have h3 := HSB.out; omega
      have hgl : g < sb := by have h1 := cell_lt (hfc k (p0, p1) hel).1; have h3 := HSB.out; omega
      have q1 := HBT.out.cell hb1 (by omega)
      have u0 := HBT.out.cell ((K2.out.cells _ _ (cell_lt (hfc k (p0, p1) hel).1)).trans (hfc k (p0, p1) hel).1) (by omega)
      have u1 := HBT.out.cell ((K2.out.cells _ _ (cell_lt (hfc k (p0, p1) hel).2)).trans (hfc k (p0, p1) hel).2) (by omega)
      obtain ⟨⟨m0, m1, me⟩, hm⟩ : ∃ m, m = mulS hd.num 1 p0 p1 := ⟨_, rfl⟩
      have HM : RowKit.Hid (∀ W, Calls Tryz.prog 32 #[.agg #[.int .i64 hd.num, .int .i64 1], .agg #[.int .i64 p0, .int .i64 p1]] W fun e w' => e = .returned (.tuple #[.agg #[.int .i64 m0, .int .i64 m1], .int .i64 me]) ∧ Kept W w') := Lib.hid (fun W => by
        have := rmul_any hd.num 1 p0 p1 W
        rw [← hm] at this
        exact this)
      have hms := mulS_one (p := (p0, p1)) gv n0 n1
      have HMS : RowKit.Hid ((m0, m1, me) = okL (mulF p0 p1 hd.num 1)) := Lib.hid (by rw [hm]; exact hms)
      have hav := (uses_val (fun x hx => HGE.out x (List.mem_of_mem_take hx)) HUk.out).2
      have hst : usesF ((zipE xs hs day known).take (k + 1)) = stepU (some (a, b')) ((p0, p1), hd.num) := by rw [take_snoc' hze, usesF_snoc, HUk.out]
      have HST := Lib.hid hst
      have HAV := Lib.hid hav
      have HGV := Lib.hid (And.intro gv (And.intro n0 n1))
      have i0 : (0 : Int) ≤ (k : Int) := by omega
      have i1 : (k : Int) < (hn : Int) := by omega
      have it : (k : Int).toNat = k := by omega
      clear hcc hfc hhd hze hpp hel gv n0 n1 hb1 hm hms hst hav hdec
      go_upto_region 8 with (fail)
      go_cut [14, 15] (fun s14 s15 wx => ∃ bx, s14 = .pointer (some ⟨bx, 0, none⟩) ∧ s15 = .int .i64 me ∧ wr.heap.size ≤ bx ∧ RowC wx bx [.int .i64 m0, .int .i64 m1] ∧ Kept wr wx)
      case first =>
        have SB : RowKit.Hid (∀ W, Kept wr W → W.cell? ⟨b, off + k * 2 + 1, none⟩ = some (.int .i64 hd.num) ∧ W.cell? ⟨g, goff + k * 2, none⟩ = some (.int .i64 p0) ∧ W.cell? ⟨g, goff + k * 2 + 1, none⟩ = some (.int .i64 p1) ∧ Kept wr W) := Lib.hid (fun W hW => ⟨(hW.cells _ _ (cell_lt q1)).trans q1, (hW.cells _ _ (cell_lt u0)).trans u0, (hW.cells _ _ (cell_lt u1)).trans u1, hW⟩)
        have kd : Kept wr wr.drew := (Kept.refl wr).drew
        have kda : Kept wr ((wr.alloc (.cells #[.int .i64 0, .int .i64 0] 23)).drew) := ((Kept.refl wr).alloc _).drew
        have SD := Lib.hid (SB.out _ kd)
        have SDA := Lib.hid (SB.out _ kda)
        go_region_held3 (fun W => W.cell? ⟨b, off + k * 2 + 1, none⟩ = some (.int .i64 hd.num) ∧ W.cell? ⟨g, goff + k * 2, none⟩ = some (.int .i64 p0) ∧ W.cell? ⟨g, goff + k * 2 + 1, none⟩ = some (.int .i64 p1) ∧ Kept wr W)
          (first
            | (with_reducible exact SD.out)
            | (with_reducible exact SDA.out)
            | (with_reducible exact SB.out _ kk9)
            | (with_reducible exact SB.out _ (kk9.alloc _))
            | (with_reducible exact SB.out _ ((kk9.setCell (Nat.le_refl _) _).setCell (Nat.le_refl _) _))
            | (with_reducible exact SB.out _ (((kk9.alloc _).setCell kk9.size _).setCell kk9.size _))
            | fail)
          (first
            | (go_at_call 32; refine (HM.out _).mono ?_; rintro e w9 ⟨rfl, hk9⟩; have kk9 : Kept wr w9 := (by with_reducible exact kd.trans hk9))
            | (go_at_call 32; refine (HM.out _).mono ?_; rintro e w9 ⟨rfl, hk9⟩; have kk9 : Kept wr w9 := (by with_reducible exact kda.trans hk9); have rz := ((RowC.new wr [.int .i64 0, .int .i64 0] 23).drew).kept hk9; have z0 := (rz 0 _ rfl).1; have z1 := (rz 1 _ rfl).1; have y0 := (rz 0 _ rfl).2; have y1 := (rz 1 _ rfl).2; have lz := cell_lt z0)
            | fail)
        all_goals go_wp2
        all_goals go_meet
        all_goals first
          | exact ⟨w9.heap.size, rfl, rfl, kk9.size, RowC.new w9 [.int .i64 m0, .int .i64 m1] 23, kk9.alloc _⟩
          | exact ⟨wr.heap.size, rfl, rfl, Nat.le_refl _, by simpa using ((rz.put (j := 0) (by simp) (.int .i64 m0)).put (j := 1) (by simp) (.int .i64 m1)), (kk9.setCell (Nat.le_refl _) _).setCell (Nat.le_refl _) _⟩
      obtain ⟨bx, rfl, rfl, hbx, rbx, kx⟩ := hcut
      obtain ⟨w4, rfl⟩ : ∃ w4, w4 = wc := ⟨_, rfl⟩
      have RB := Lib.hid rbx
      have KX := Lib.hid kx
      have R4 := Lib.hid (RRH.out.kept kx)
      have S4 := Lib.hid (HR.out.kept kx)
      have BT4 := Lib.hid (HBT.out.trans (But.of_kept kx))
      have hz4 : sb < w4.heap.size := by have := kx.size; omega
      clear q1 u0 u1 rbx kx
      rcases hmm : mulF p0 p1 hd.num 1 with _ | m
      · have hq := HMS.out
        rw [hmm] at hq
        simp only [okL, Prod.mk.injEq] at hq
        obtain ⟨rfl, rfl, rfl⟩ := hq
        have HV : RowKit.Hid ((X, Y, Z) = (0, 0, 2)) := Lib.hid (by
          rw [HXU.out, usesF_none_of (k := k + 1) (by rw [HST.out]; unfold stepU; dsimp only; rw [hmm])]
          rfl)
        have hv := HV.out
        simp only [Prod.mk.injEq] at hv
        obtain ⟨rfl, rfl, rfl⟩ := hv
        have e0 := (R4.out 0 _ rfl).1
        have e1 := (R4.out 1 _ rfl).1
        have y0 := (R4.out 0 _ rfl).2
        have y1 := (R4.out 1 _ rfl).2
        have le := cell_lt e0
        clear hmm
        go_wp2
        refine bodyPost_ret (v := .tuple #[.agg #[.int .i64 0, .int .i64 0], .int .i64 2]) (by simp [results, Tryz.results60, go_sem, e0, e1]) rfl ⟨rfl, ?_⟩
        exact ((KW2.out.but BT4.out (by omega)).setCell (by first | (simp; done) | (simp; omega)) _).setCell (by first | (simp; done) | (simp; omega)) _
      have hq := HMS.out
      rw [hmm] at hq
      obtain ⟨m0', m1'⟩ := m
      simp only [okL, Prod.mk.injEq] at hq
      obtain ⟨rfl, rfl, rfl⟩ := hq
      have hmv := (mulF_val (p := (p0, p1)) HGV.out.1 (by have := HGV.out.2; omega) (by have := HGV.out.2; omega) hmm).2
      obtain ⟨⟨s0, s1, se⟩, hs'⟩ : ∃ m, m = addS a b' m0 m1 := ⟨_, rfl⟩
      have HA : RowKit.Hid (∀ W, Calls Tryz.prog 28 #[.agg #[.int .i64 a, .int .i64 b'], .agg #[.int .i64 m0, .int .i64 m1]] W fun e w' => e = .returned (.tuple #[.agg #[.int .i64 s0, .int .i64 s1], .int .i64 se]) ∧ Kept W w') := Lib.hid (fun W => by
        have := radd_any a b' m0 m1 W
        rw [← hs'] at this
        exact this)
      have HAS' : RowKit.Hid ((s0, s1, se) = okL (addO (some (a, b')) (m0, m1))) := Lib.hid (by rw [hs']; exact addS_val (a := (a, b')) (p := (m0, m1)) HAV.out hmv)
      have HST2 : RowKit.Hid (usesF ((zipE xs hs day known).take (k + 1)) = addO (some (a, b')) (m0, m1)) := Lib.hid (by rw [HST.out]; unfold stepU; dsimp only; rw [hmm])
      have t0 := (S4.out 0 _ rfl).1
      have t1 := (S4.out 1 _ rfl).1
      have v0 := (RB.out 0 _ rfl).1
      have v1 := (RB.out 1 _ rfl).1
      have lt := cell_lt t0
      have lv := cell_lt v0
      clear hmm hmv hs'
      go_wp2_with fail
      refine (HA.out _).mono ?_
      rintro e w5 ⟨rfl, hk5⟩
      obtain ⟨W6, hW6⟩ : ∃ W6, W6 = w5.alloc (.cells #[.int .i64 s0, .int .i64 s1] 23) := ⟨_, rfl⟩
      have k6 : Kept w4 W6 := by rw [hW6]; exact hk5.alloc _
      have R6 := Lib.hid (R4.out.kept k6)
      have S6 := Lib.hid (S4.out.kept k6)
      have BT6 := Lib.hid (BT4.out.trans (But.of_kept k6))
      have X6 : RowKit.Hid (RowC W6 w5.heap.size [.int .i64 s0, .int .i64 s1]) := Lib.hid (by rw [hW6]; exact RowC.new w5 _ 23)
      have hz6 : sb < W6.heap.size := by have := k6.size; omega
      have HW6 := Lib.hid hW6
      have hsb5 : sb < w5.heap.size := by have := hk5.size; omega
      clear t0 t1 v0 v1 lt lv hk5 hW6 k6
      go_upto_region 12 with (fail)
      rw [← HW6.out]
      rcases hadd : addO (some (a, b')) (m0, m1) with _ | r2
      · have hq := HAS'.out
        rw [hadd] at hq
        simp only [okL, Prod.mk.injEq] at hq
        obtain ⟨rfl, rfl, rfl⟩ := hq
        have HV : RowKit.Hid ((X, Y, Z) = (0, 0, 2)) := Lib.hid (by
          rw [HXU.out, usesF_none_of (k := k + 1) (by rw [HST2.out, hadd])]
          rfl)
        have hv := HV.out
        simp only [Prod.mk.injEq] at hv
        obtain ⟨rfl, rfl, rfl⟩ := hv
        have e0 := (R6.out 0 _ rfl).1
        have e1 := (R6.out 1 _ rfl).1
        have y0 := (R6.out 0 _ rfl).2
        have y1 := (R6.out 1 _ rfl).2
        have le := cell_lt e0
        clear hadd
        go_wp2
        refine bodyPost_ret (v := .tuple #[.agg #[.int .i64 0, .int .i64 0], .int .i64 2]) (by simp [results, Tryz.results60, go_sem, e0, e1]) rfl ⟨rfl, ?_⟩
        exact ((KW2.out.but BT6.out (by omega)).setCell (by first | (simp; done) | (simp; omega)) _).setCell (by first | (simp; done) | (simp; omega)) _
      · have hq := HAS'.out
        rw [hadd] at hq
        obtain ⟨r0', r1'⟩ := r2
        simp only [okL, Prod.mk.injEq] at hq
        obtain ⟨rfl, rfl, rfl⟩ := hq
        have HUN : RowKit.Hid (usesF ((zipE xs hs day known).take (k + 1)) = some (s0, s1)) := Lib.hid (by rw [HST2.out, hadd])
        have e0 := (X6.out 0 _ rfl).1
        have e1 := (X6.out 1 _ rfl).1
        have t0 := (S6.out 0 _ rfl).1
        have t1 := (S6.out 1 _ rfl).1
        have y0 := (S6.out 0 _ rfl).2
        have y1 := (S6.out 1 _ rfl).2
        have le := cell_lt e0
        have lt := cell_lt t0
        have hne : w5.heap.size ≠ sb := by omega
        clear hadd
        go_wp2
        go_roundw
        case rel =>
          refine ⟨k + 1, s0, s1, by omega, by go_num, HUN.out, ?_, (BT6.out.set 0 _).set 1 _, by simpa using hz6⟩
          simpa using ((S6.out.put (j := 0) (by simp) (.int .i64 s0)).put (j := 1) (by simp) (.int .i64 s1))
        case measure => simp [intOf]; omega
    · obtain rfl : k = hn := by omega
      have HUX : RowKit.Hid ((X, Y, Z) = (a, b', 0)) := Lib.hid (by
        have h := HUk.out
        rw [List.take_of_length_le (by rw [HZL.out]; exact Nat.le_refl _)] at h
        rw [HXU.out, h]
        rfl)
      have hv := HUX.out
      simp only [Prod.mk.injEq] at hv
      obtain ⟨rfl, rfl, rfl⟩ := hv
      have e0 := (RRH.out 0 _ rfl).1
      have e1 := (RRH.out 1 _ rfl).1
      have y0 := (RRH.out 0 _ rfl).2
      have y1 := (RRH.out 1 _ rfl).2
      have t0 := (HR.out 0 _ rfl).1
      have t1 := (HR.out 1 _ rfl).1
      have le := cell_lt e0
      have lt := cell_lt t0
      go_wp2
      refine bodyPost_ret (v := .tuple #[.agg #[.int .i64 X, .int .i64 Y], .int .i64 0]) (by simp [results, Tryz.results60, go_sem, e0, e1]) rfl ⟨rfl, ?_⟩
      exact ((KW2.out.but HBT.out (by omega)).setCell (by first | (simp; done) | (simp; omega)) _).setCell (by first | (simp; done) | (simp; omega)) _
end Go.Proofs.YtcjpecdnenemaaaGreatDoor

namespace Go.Proofs.YtcjpecdnenemaaaGreatDoor
set_option linter.all false
open Go.RowKit Go.Shelf

theorem ask_true {xs : List Eqv} {hs : List Hd} {r : Bool} {day known : Int} (h : askE xs hs r day known = 0) : r = true ∧ askE xs hs true day known = 0 := by
  cases r
  · unfold askE at h
    split at h
    · simp at h
    · rename_i h1; exact absurd h h1
  · exact ⟨rfl, h⟩
set_option maxRecDepth 100000 in
set_option maxHeartbeats 4000000 in
theorem rexcess_any (A : Option Addr) (n c : Nat) (xs : List Eqv) (B : Option Addr) (hn hc : Nat) (hs : List Hd) (sn sd day known : Int) (w : World) (hT : TabA w A n c xs) (hH : HeadsA w B hn hc hs) :
    Calls Tryz.prog 62 #[.slice A n c, .slice B hn hc, .agg #[.int .i64 sn, .int .i64 sd], .int .i64 day, .int .i64 known] w fun e w' => e = .returned (.tuple #[.agg #[.int .i64 (excS xs hs sn sd day known).1, .int .i64 (excS xs hs sn sd day known).2.1], .int .i64 (excS xs hs sn sd day known).2.2]) ∧ Kept w w' := by
  obtain ⟨⟨X, Y, Z⟩, hx⟩ : ∃ r, r = excS xs hs sn sd day known := ⟨_, rfl⟩
  rw [← hx]
  have HX := Lib.hid hx
  clear hx
  obtain ⟨W0, hW0⟩ : ∃ W0 : World, W0 = (w.alloc (.cells #[.int .i64 sn, .int .i64 sd] 23)).alloc (.cells #[.int .i64 0, .int .i64 0] 23) := ⟨_, rfl⟩
  have K0 : RowKit.Hid (Kept w W0) := Lib.hid (by rw [hW0]; exact ((Kept.refl _).alloc _).alloc _)
  have RS : RowKit.Hid (RowC W0 w.heap.size [.int .i64 sn, .int .i64 sd]) := Lib.hid (by rw [hW0]; exact (RowC.new w _ 23).kept ((Kept.refl _).alloc _))
  have R0 : RowKit.Hid (RowC W0 (w.heap.size + 1) [.int .i64 0, .int .i64 0]) := Lib.hid (by
    have := RowC.new (w.alloc (.cells #[.int .i64 sn, .int .i64 sd] 23)) [.int .i64 0, .int .i64 0] 23
    rw [World.size_alloc] at this
    rw [hW0]; exact this)
  have HW0 := Lib.hid hW0
  have HT := Lib.hid (hT.kept K0.out)
  have HH := Lib.hid (hH.kept K0.out)
  clear hT hH hW0
  obtain ⟨vb, hvb⟩ : ∃ vb, vb = vld sn sd := ⟨_, rfl⟩
  have HVB := Lib.hid hvb
  have HV1 : RowKit.Hid (∀ W, Calls Tryz.prog 91 #[.agg #[.int .i64 sn, .int .i64 sd]] W fun e w' => e = .returned (.bool vb) ∧ Kept W w') := Lib.hid (fun W => by rw [hvb]; exact rvalid_any sn sd W)
  obtain ⟨E, hE⟩ : ∃ E, E = askE xs hs vb day known := ⟨_, rfl⟩
  have HEE := Lib.hid hE
  have HAS : RowKit.Hid (∀ W, Kept W0 W → Calls Tryz.prog 126 #[.slice A n c, .slice B hn hc, .bool vb, .int .i64 day, .int .i64 known] W fun e w' => ∃ v, e = .returned (.tuple #[v, .int .i64 E]) ∧ Kept W w') := Lib.hid (fun W hW => by
    refine (asked_any A n c xs B hn hc hs vb day known W (HT.out.kept hW) (HH.out.kept hW)).mono ?_
    rintro e w' ⟨v, h1, _, h3⟩
    exact ⟨v, by rw [h1, hE], h3⟩)
  have HEX : RowKit.Hid (E = eachE xs hs sn sd day known) := Lib.hid (by rw [hE, hvb]; exact askE_each xs hs sn sd day known)
  clear hvb hE
  have s0 := (RS.out 0 _ rfl).1
  have s1 := (RS.out 1 _ rfl).1
  have ls := cell_lt s0
  by_cases hz : E = 0
  rotate_left
  · have hzb : (E != 0) = true := by simpa using hz
    have HV : RowKit.Hid ((X, Y, Z) = (0, 0, E)) := Lib.hid (by rw [HX.out]; unfold excS; rw [if_neg (by rw [← HEX.out]; exact hz), HEX.out])
    clear hz
    go_enter Tryz.func62, Tryz.ntmps62
    go_upto_region 1 with (fail)
    rw [← HW0.out]
    go_wp2_with fail
    refine (HV1.out _).mono ?_
    rintro e w1 ⟨rfl, hk1⟩
    have K1 := Lib.hid hk1
    clear s0 s1 ls hk1
    go_wp2_with fail
    refine (HAS.out _ K1.out).mono ?_
    rintro e w2 ⟨v, rfl, hk2⟩
    have RR := R0.out.kept (K1.out.trans hk2)
    have e0 := (RR 0 _ rfl).1
    have e1 := (RR 1 _ rfl).1
    have y0 := (RR 0 _ rfl).2
    have y1 := (RR 1 _ rfl).2
    have le := cell_lt e0
    have K2 := Lib.hid (K0.out.trans (K1.out.trans hk2))
    clear RR hk2
    have hv := HV.out
    simp only [Prod.mk.injEq] at hv
    obtain ⟨rfl, rfl, rfl⟩ := hv
    go_wp2
    refine bodyPost_ret (v := .tuple #[.agg #[.int .i64 0, .int .i64 0], .int .i64 Z]) (by simp [results, Tryz.results62, go_sem, e0, e1]) rfl ⟨rfl, ?_⟩
    exact (K2.out.setCell (by first | (simp; done) | (simp; omega)) _).setCell (by first | (simp; done) | (simp; omega)) _
  subst hz
  obtain ⟨hvt, hat⟩ := ask_true HEE.out.symm
  have hvs : vld sn sd = true := by rw [← HVB.out, hvt]
  have hee : eachE xs hs sn sd day known = 0 := HEX.out.symm
  obtain ⟨hge, _⟩ := zipE_good hee
  obtain ⟨⟨u0, u1, ue⟩, hu⟩ : ∃ r, r = excS xs hs 0 1 day known := ⟨_, rfl⟩
  have HU : RowKit.Hid (∀ W, Kept W0 W → Calls Tryz.prog 60 #[.slice A n c, .slice B hn hc, .int .i64 day, .int .i64 known] W fun e w' => e = .returned (.tuple #[.agg #[.int .i64 u0, .int .i64 u1], .int .i64 ue]) ∧ Kept W w') := Lib.hid (fun W hW => by
    have := ruses_any A n c xs B hn hc hs day known W (HT.out.kept hW) (HH.out.kept hW)
    rw [← hu] at this
    exact this)
  have HUS : RowKit.Hid ((u0, u1, ue) = okL (usesF (zipE xs hs day known))) := Lib.hid (by rw [hu]; exact excS_ask hat)
  have HXS : RowKit.Hid ((X, Y, Z) = okL (excF (zipE xs hs day known) sn sd)) := Lib.hid (by rw [HX.out]; unfold excS; rw [if_pos hee]; rfl)
  have HVS := Lib.hid hvs
  have HGE := Lib.hid hge
  have hsb := vld_bd hvs
  obtain ⟨⟨_, _⟩, hs1, hs2⟩ := hsb
  clear hvt hat hvs hee hge hu
  go_enter Tryz.func62, Tryz.ntmps62
  go_upto_region 1 with (fail)
  rw [← HW0.out]
  go_wp2_with fail
  refine (HV1.out _).mono ?_
  rintro e w1 ⟨rfl, hk1⟩
  have K1 := Lib.hid hk1
  clear s0 s1 ls hk1
  go_wp2_with fail
  refine (HAS.out _ K1.out).mono ?_
  rintro e w2 ⟨v, rfl, hk2⟩
  have K2 := Lib.hid (K1.out.trans hk2)
  clear hk2
  go_wp2_with fail
  refine (HU.out _ K2.out).mono ?_
  rintro e w3 ⟨rfl, hk3⟩
  obtain ⟨W4, hW4⟩ : ∃ W4, W4 = w3.alloc (.cells #[.int .i64 u0, .int .i64 u1] 23) := ⟨_, rfl⟩
  have k4 : Kept W0 W4 := by rw [hW4]; exact (K2.out.trans hk3).alloc _
  have K4 := Lib.hid k4
  have X4 : RowKit.Hid (RowC W4 w3.heap.size [.int .i64 u0, .int .i64 u1]) := Lib.hid (by rw [hW4]; exact RowC.new w3 _ 23)
  have HW4 := Lib.hid hW4
  have KW4 := Lib.hid (K0.out.trans k4)
  have hz4 := k4.size
  clear hk3 hW4 k4
  go_upto_region 6 with (fail)
  rw [← HW4.out]
  have RR := R0.out.kept K4.out
  have SS := RS.out.kept K4.out
  have e0 := (RR 0 _ rfl).1
  have e1 := (RR 1 _ rfl).1
  have y0 := (RR 0 _ rfl).2
  have y1 := (RR 1 _ rfl).2
  have le := cell_lt e0
  rcases huf : usesF (zipE xs hs day known) with _ | a
  · have hq := HUS.out
    rw [huf] at hq
    simp only [okL, Prod.mk.injEq] at hq
    obtain ⟨rfl, rfl, rfl⟩ := hq
    have hv := HXS.out
    unfold excF at hv
    rw [huf] at hv
    simp only [okL, Prod.mk.injEq] at hv
    obtain ⟨rfl, rfl, rfl⟩ := hv
    clear RR SS huf
    go_wp2
    refine bodyPost_ret (v := .tuple #[.agg #[.int .i64 0, .int .i64 0], .int .i64 2]) (by simp [results, Tryz.results62, go_sem, e0, e1]) rfl ⟨rfl, ?_⟩
    exact (KW4.out.setCell (by first | (simp; done) | (simp; omega)) _).setCell (by first | (simp; done) | (simp; omega)) _
  · have hq := HUS.out
    rw [huf] at hq
    obtain ⟨a0, a1⟩ := a
    simp only [okL, Prod.mk.injEq] at hq
    obtain ⟨rfl, rfl, rfl⟩ := hq
    have hav := (uses_val HGE.out huf).2
    have HSU : RowKit.Hid (subS u0 u1 sn sd = (X, Y, Z)) := Lib.hid (by
      rw [HXS.out]
      unfold excF subS
      rw [huf, if_pos (by have h9 : vld u0 u1 = true := hav; rw [h9, HVS.out]; rfl)])
    have HS : RowKit.Hid (∀ W, Calls Tryz.prog 30 #[.agg #[.int .i64 u0, .int .i64 u1], .agg #[.int .i64 sn, .int .i64 sd]] W fun e w' => e = .returned (.tuple #[.agg #[.int .i64 X, .int .i64 Y], .int .i64 Z]) ∧ Kept W w') := Lib.hid (fun W => by
      have := rsub_any u0 u1 sn sd (by omega) (by omega) W
      rw [HSU.out] at this
      exact this)
    have t0 := (X4.out 0 _ rfl).1
    have t1 := (X4.out 1 _ rfl).1
    have s0 := (SS 0 _ rfl).1
    have s1 := (SS 1 _ rfl).1
    have lt := cell_lt t0
    have ls := cell_lt s0
    have RRH := Lib.hid RR
    clear RR SS huf hav e0 e1 y0 y1 le
    go_wp2_with fail
    refine (HS.out _).mono ?_
    rintro e w5 ⟨rfl, hk5⟩
    have RR := RRH.out.kept hk5
    have e0 := (RR 0 _ rfl).1
    have e1 := (RR 1 _ rfl).1
    have y0 := (RR 0 _ rfl).2
    have y1 := (RR 1 _ rfl).2
    have le := cell_lt e0
    have K5 := Lib.hid (KW4.out.trans hk5)
    clear RR hk5 t0 t1 s0 s1 lt ls
    go_wp2
    refine bodyPost_ret (v := .tuple #[.agg #[.int .i64 X, .int .i64 Y], .int .i64 Z]) (by simp [results, Tryz.results62, go_sem, e0, e1]) rfl ⟨rfl, ?_⟩
    exact (K5.out.setCell (by first | (simp; done) | (simp; omega)) _).setCell (by first | (simp; done) | (simp; omega)) _

set_option maxRecDepth 100000 in
set_option maxHeartbeats 4000000 in
theorem sameHeads_any (A B : Option Addr) (n c d : Nat) (hs : List Hd) (w : World) (h1 : HeadsA w A n c hs) (h2 : HeadsA w B n d hs) :
    Calls Tryz.prog 65 #[.slice A n c, .slice B n d] w fun e w' => e = .returned (.bool true) ∧ Kept w w' := by
  have H1 := Lib.hid h1
  have H2 := Lib.hid h2
  have hnc := h1.2.1
  have hcm := h1.2.2.1
  have hnd := h2.2.1
  have hdm := h2.2.2.1
  clear h1 h2
  have hnn : ((n : Int) != (n : Int)) = false := by simp
  go_enter Tryz.func65, Tryz.ntmps65
  go_wp2_with fail
  go_loopw [5] (fun i wr => ∃ k : Nat, k ≤ n ∧ i = .int .i64 k ∧ Kept w wr) (fun i _ => n - (intOf i).toNat)
  case atStart => exact ⟨0, by omega, by first | rfl | go_num, Kept.refl _⟩
  case round =>
    obtain ⟨k, hk, rfl, hkr⟩ := hrel
    have HKR := Lib.hid hkr
    clear hkr
    by_cases hlt : k < n
    · obtain ⟨b, off, hA, hcc⟩ := H1.out.2.2.2.2 (by omega)
      obtain ⟨b2, off2, hB, hcc2⟩ := H2.out.2.2.2.2 (by omega)
      subst hA
      subst hB
      have hxl : k < hs.length := by rw [H1.out.1]; exact hlt
      obtain ⟨x, hx⟩ : ∃ x, hs[k]? = some x := ⟨hs[k]'hxl, List.getElem?_eq_getElem hxl⟩
      have q0 := (HKR.out.cells _ _ (cell_lt (hcc k x hx).1)).trans (hcc k x hx).1
      have q1 := (HKR.out.cells _ _ (cell_lt (hcc k x hx).2)).trans (hcc k x hx).2
      have p0 := (HKR.out.cells _ _ (cell_lt (hcc2 k x hx).1)).trans (hcc2 k x hx).1
      have p1 := (HKR.out.cells _ _ (cell_lt (hcc2 k x hx).2)).trans (hcc2 k x hx).2
      have i0 : (0 : Int) ≤ (k : Int) := by omega
      have i1 : (k : Int) < (n : Int) := by omega
      have it : (k : Int).toNat = k := by omega
      clear hcc hcc2 hx
      go_upto_region 6 with (fail)
      go_cut [25] (fun s25 wx => s25 = .bool false ∧ Kept wr wx)
      case first =>
        go_quiet (fail)
        go_wp2
        go_meet
        exact ⟨by first | rfl | (simp; done), by first | exact Kept.refl _ | exact (Kept.refl _).drewN _ | exact (Kept.refl _).drew⟩
      obtain ⟨rfl, kx⟩ := hcut
      have KX := Lib.hid (HKR.out.trans kx)
      clear kx q0 q1 p0 p1
      go_wp2
      go_roundw
      case rel => exact ⟨k + 1, by omega, by go_num, KX.out⟩
      case measure => simp [intOf]; omega
    · obtain rfl : k = n := by omega
      go_wp2
      go_ret
      exact ⟨rfl, HKR.out⟩
end Go.Proofs.YtcjpecdnenemaaaGreatDoor

namespace Go.Proofs.YtcjpecdnenemaaaGreatDoor
set_option linter.all false
open Go.RowKit Go.Shelf

/-- how many fit, as the reference says -/
def rfitS (en ed an ad most : Int) : Int := if an < 0 then 0 else min most (an * ed / (en * ad))
theorem rfit_eq {en ed an ad most : Int} (hm0 : 0 ≤ most) (hm : most ≤ 100000) : rfitS en ed an ad most = min most (fitS an ad en ed) := by
  unfold rfitS fitS ratS
  by_cases h : an < 0
  · rw [if_pos h, if_pos h]; omega
  · rw [if_neg h, if_neg h, Int.mul_comm en ad]
    omega
set_option maxRecDepth 100000 in
set_option maxHeartbeats 1600000 in
theorem rfits_any (en ed an ad most : Int) (he : Bd en ed) (ha : Bd an ad) (hp : 0 < en) (hm0 : 0 ≤ most) (hm : most ≤ 100000) (w : World) :
    Calls Tryz.prog 131 #[.agg #[.int .i64 en, .int .i64 ed], .agg #[.int .i64 an, .int .i64 ad], .int .i64 most] w fun e w' => e = .returned (.int .i64 (rfitS en ed an ad most)) ∧ Kept w w' := by
  obtain ⟨⟨a1, a2⟩, a3, a4⟩ := ha
  obtain ⟨⟨b1, b2⟩, b3, b4⟩ := he
  obtain ⟨W0, hW0⟩ : ∃ W0 : World, W0 = (w.alloc (.cells #[.int .i64 en, .int .i64 ed] 23)).alloc (.cells #[.int .i64 an, .int .i64 ad] 23) := ⟨_, rfl⟩
  have K0 : RowKit.Hid (Kept w W0) := Lib.hid (by rw [hW0]; exact ((Kept.refl _).alloc _).alloc _)
  have r0 : RowC W0 w.heap.size [.int .i64 en, .int .i64 ed] := by rw [hW0]; exact (RowC.new w _ 23).kept ((Kept.refl _).alloc _)
  have r1 : RowC W0 (w.heap.size + 1) [.int .i64 an, .int .i64 ad] := by
    have := RowC.new (w.alloc (.cells #[.int .i64 en, .int .i64 ed] 23)) [.int .i64 an, .int .i64 ad] 23
    rw [World.size_alloc] at this
    rw [hW0]; exact this
  have HW0 := Lib.hid hW0
  have p0 := (r0 0 _ rfl).1
  have p1 := (r0 1 _ rfl).1
  have q0 := (r1 0 _ rfl).1
  have q1 := (r1 1 _ rfl).1
  have lp := cell_lt p0
  have lq := cell_lt q0
  clear r0 r1 hW0
  by_cases h : an < 0
  · have HR := Lib.hid (show rfitS en ed an ad most = 0 by unfold rfitS; rw [if_pos h])
    have d : decide (an < 0) = true := decide_eq_true h
    go_enter Tryz.func131, Tryz.ntmps131
    go_upto_region 1 with (fail)
    rw [← HW0.out]
    go_wp2
    go_ret
    exact ⟨by rw [HR.out]; rfl, K0.out⟩
  · have d : decide (an < 0) = false := decide_eq_false h
    have n1 := (mul_bd (n := an) (d := ed) 1000000000000 1000000 (by omega) a4 (by omega) b2 (by omega))
    have n2 := (mul_bd (n := en) (d := ad) 1000000000000 1000000 (by omega) b4 (by omega) a2 (by omega))
    obtain ⟨p, hpq⟩ : ∃ p, p = an * ed := ⟨_, rfl⟩
    obtain ⟨q, hq⟩ : ∃ q, q = en * ad := ⟨_, rfl⟩
    have hp0 : 0 ≤ p := by rw [hpq]; exact Int.mul_nonneg (by omega) (by omega)
    have hq0 : 0 < q := by rw [hq]; exact Int.mul_pos hp (by omega)
    rw [← hpq] at n1
    rw [← hq] at n2
    have w1 : IntKind.i64.wrap (an * ed) = p := by rw [← hpq]; exact IntWalk.i64_in _ (by omega)
    have w2 : IntKind.i64.wrap (en * ad) = q := by rw [← hq]; exact IntWalk.i64_in _ (by omega)
    obtain ⟨r, hr⟩ : ∃ r, r = p / q := ⟨_, rfl⟩
    have hdv : p.tdiv q = r := by rw [hr]; exact Int.tdiv_eq_ediv_of_nonneg hp0
    have hr0 : 0 ≤ r := by rw [hr]; exact Int.ediv_nonneg hp0 (by omega)
    have hr1 : r ≤ p := by rw [hr]; exact Int.ediv_le_self _ hp0
    have w3 : IntKind.i64.wrap r = r := IntWalk.i64_in _ (by omega)
    have hqn : (q == 0) = false := by simp; omega
    have hqn2 : q ≠ 0 := by omega
    have HR := Lib.hid (show rfitS en ed an ad most = min most r by unfold rfitS; rw [if_neg h, ← hpq, ← hq, ← hr])
    clear hpq hq hr
    by_cases hlt : r < most
    · have dd : decide (r < most) = true := decide_eq_true hlt
      have HM := Lib.hid (show min most r = r by omega)
      go_enter Tryz.func131, Tryz.ntmps131
      go_upto_region 1 with (fail)
      rw [← HW0.out]
      go_wp2
      go_ret
      exact ⟨by rw [HR.out, HM.out]; first | rfl | (simp; omega) | (simp [HM.out]; done), K0.out⟩
    · have dd : decide (r < most) = false := decide_eq_false hlt
      have HM := Lib.hid (show min most r = most by omega)
      go_enter Tryz.func131, Tryz.ntmps131
      go_upto_region 1 with (fail)
      rw [← HW0.out]
      go_wp2
      go_ret
      exact ⟨by rw [HR.out, HM.out]; first | rfl | (simp; omega) | (simp [HM.out]; done), K0.out⟩
end Go.Proofs.YtcjpecdnenemaaaGreatDoor

namespace Go.Proofs.YtcjpecdnenemaaaGreatDoor
set_option linter.all false
open Go.RowKit Go.Shelf

theorem subS_val {a p : Int × Int} (ha : vld a.1 a.2 = true) (hp : vld p.1 p.2 = true) : subS a.1 a.2 p.1 p.2 = okL (lowF (a.1 * p.2 + -p.1 * a.2) (a.2 * p.2)) := by
  unfold subS
  rw [if_pos (by rw [ha, hp]; rfl)]
theorem zipH_at {xs : List Eqv} {hs : List Hd} {day known : Int} {k : Nat} {h : Hd} (hx : hs[k]? = some h) : (zipH xs hs day known)[k]? = some (stS (inForceS xs h.sort day known), h) := by
  rw [zipH_map, List.getElem?_map, hx]; rfl
theorem fillS_none_of {st : Int × Int} {es : List ((Int × Int) × Hd)} {k : Nat} (h : fillS st (es.take k) = none) : fillS st es = none := by
  have : fillS st es = (es.drop k).foldl stepF (fillS st (es.take k)) := by unfold fillS; rw [← List.foldl_append, List.take_append_drop]
  rw [this, h, stepF_none]
def RFillRes (w : World) (r : List Hd × Int) (e : Ending) (w' : World) : Prop :=
  ∃ v, e = .returned (.tuple #[v, .int .i64 r.2]) ∧ w'.ownsRow w.heap.size 84 2 v r.1.length (hdFlat r.1) ∧ Kept w w'
theorem own_zero (w : World) (b : Nat) : w.ownsRow b 84 2 (.slice none 0 0) ([] : List Hd).length (hdFlat []) := ⟨rfl, .inl ⟨rfl, rfl⟩⟩
set_option maxRecDepth 100000 in
set_option maxHeartbeats 8000000 in
theorem rfill_any (A : Option Addr) (n c : Nat) (xs : List Eqv) (B : Option Addr) (hn hc : Nat) (hs : List Hd) (sn sd day known : Int) (w : World) (hT : TabA w A n c xs) (hH : HeadsA w B hn hc hs) :
    Calls Tryz.prog 64 #[.slice A n c, .slice B hn hc, .agg #[.int .i64 sn, .int .i64 sd], .int .i64 day, .int .i64 known] w (RFillRes w (fillR xs hs sn sd day known)) := by
  obtain ⟨⟨out, Z⟩, hx⟩ : ∃ r, r = fillR xs hs sn sd day known := ⟨_, rfl⟩
  rw [← hx]
  unfold RFillRes
  dsimp only
  have HX := Lib.hid hx
  clear hx
  obtain ⟨W0, hW0⟩ : ∃ W0 : World, W0 = w.alloc (.cells #[.int .i64 sn, .int .i64 sd] 23) := ⟨_, rfl⟩
  have K0 : RowKit.Hid (Kept w W0) := Lib.hid (by rw [hW0]; exact (Kept.refl _).alloc _)
  have RS : RowKit.Hid (RowC W0 w.heap.size [.int .i64 sn, .int .i64 sd]) := Lib.hid (by rw [hW0]; exact RowC.new w _ 23)
  have Z0 : RowKit.Hid (W0.heap.size = w.heap.size + 1) := Lib.hid (by rw [hW0]; simp)
  have HW0 := Lib.hid hW0
  have HT := Lib.hid (hT.kept K0.out)
  have HH := Lib.hid (hH.kept K0.out)
  have hhc := hH.2.1
  have hhm := hH.2.2.1
  clear hT hH hW0
  obtain ⟨vb, hvb⟩ : ∃ vb, vb = vld sn sd := ⟨_, rfl⟩
  have HVB := Lib.hid hvb
  have HV1 : RowKit.Hid (∀ W, Calls Tryz.prog 91 #[.agg #[.int .i64 sn, .int .i64 sd]] W fun e w' => e = .returned (.bool vb) ∧ Kept W w') := Lib.hid (fun W => by rw [hvb]; exact rvalid_any sn sd W)
  obtain ⟨E, hE⟩ : ∃ E, E = askE xs hs vb day known := ⟨_, rfl⟩
  have HEE := Lib.hid hE
  have HAS : RowKit.Hid (∀ W, Kept W0 W → Calls Tryz.prog 126 #[.slice A n c, .slice B hn hc, .bool vb, .int .i64 day, .int .i64 known] W fun e w' => ∃ v, e = .returned (.tuple #[v, .int .i64 E]) ∧ (E = 0 → w'.ownsRow W.heap.size 23 2 v hs.length (fl2 (eachL xs hs day known))) ∧ Kept W w') := Lib.hid (fun W hW => by
    have := asked_any A n c xs B hn hc hs vb day known W (HT.out.kept hW) (HH.out.kept hW)
    unfold AskRes at this
    rw [← hE] at this
    exact this)
  have HEX : RowKit.Hid (E = eachE xs hs sn sd day known) := Lib.hid (by rw [hE, hvb]; exact askE_each xs hs sn sd day known)
  clear hvb hE
  have s0 := (RS.out 0 _ rfl).1
  have s1 := (RS.out 1 _ rfl).1
  have ls := cell_lt s0
  by_cases hz : E = 0
  rotate_left
  · have hzb : (E != 0) = true := by simpa using hz
    have HV : RowKit.Hid ((out, Z) = ([], E)) := Lib.hid (by rw [HX.out]; unfold fillR; rw [if_neg (by rw [← HEX.out]; exact hz), HEX.out])
    clear hz
    go_enter Tryz.func64, Tryz.ntmps64
    go_upto_region 1 with (fail)
    rw [← HW0.out]
    go_wp2_with fail
    refine (HV1.out _).mono ?_
    rintro e w1 ⟨rfl, hk1⟩
    have K1 := Lib.hid hk1
    clear s0 s1 ls hk1
    go_wp2_with fail
    refine (HAS.out _ K1.out).mono ?_
    rintro e w2 ⟨v, rfl, _, hk2⟩
    have K2 := Lib.hid (K0.out.trans (K1.out.trans hk2))
    clear hk2
    have hv := HV.out
    simp only [Prod.mk.injEq] at hv
    obtain ⟨rfl, rfl⟩ := hv
    go_wp2
    go_ret2
    exact ⟨_, rfl, own_zero _ _, K2.out⟩
  subst hz
  obtain ⟨hvt, hat⟩ := ask_true HEE.out.symm
  have hvs : vld sn sd = true := by rw [← HVB.out, hvt]
  have hee : eachE xs hs sn sd day known = 0 := HEX.out.symm
  have hgo := zipH_good hee
  have h12 := (areS_ok (each_ok hee).2.1).1
  rw [HH.out.1] at h12
  have HXF : RowKit.Hid ((out, Z) = match fillS (sn, sd) (zipH xs hs day known) with | some r => (r.2, 0) | none => ([], 2)) := Lib.hid (by rw [HX.out]; unfold fillR; rw [if_pos hee]; rfl)
  have hzl : (zipH xs hs day known).length = hn := by rw [zipH_map, List.length_map, HH.out.1]
  have HZL := Lib.hid hzl
  have HGO := Lib.hid hgo
  have HVS := Lib.hid hvs
  have hEL : (eachL xs hs day known).length = hs.length := by unfold eachL; rw [List.length_map]
  have hll : (eachL xs hs day known).length = hn := by rw [hEL, HH.out.1]
  have HLL := Lib.hid hll
  obtain ⟨i1', hj0, hy0, hy1, hy2⟩ := info_parts info84
  clear hvt hat hvs hee hgo hzl hll
  go_enter Tryz.func64, Tryz.ntmps64
  go_upto_region 1 with (fail)
  rw [← HW0.out]
  go_wp2_with fail
  refine (HV1.out _).mono ?_
  rintro e w1 ⟨rfl, hk1⟩
  have K1 := Lib.hid hk1
  clear s0 s1 ls hk1
  go_wp2_with fail
  refine (HAS.out _ K1.out).mono ?_
  rintro e w2 ⟨v, rfl, hown, hk2⟩
  have hown2 : w2.ownsRow w1.heap.size 23 2 v hs.length (fl2 (eachL xs hs day known)) := by first | exact hown rfl | exact hown trivial | exact hown
  obtain ⟨A7, c7, hv7, hf7⟩ := fracs_own (es := eachL xs hs day known) (by rw [hEL]; exact hown2)
  rw [HLL.out] at hv7 hf7
  subst hv7
  have HF7 := Lib.hid hf7
  have hc7 := hf7.2.1
  have hm7 := hf7.2.2.1
  have K2 := Lib.hid (K1.out.trans hk2)
  have KW2 := Lib.hid (K0.out.trans (K1.out.trans hk2))
  have RS2 := Lib.hid (RS.out.kept K2.out)
  have s0 := (RS2.out 0 _ rfl).1
  have s1 := (RS2.out 1 _ rfl).1
  have ls := cell_lt s0
  clear hown hown2 hf7 hk2 hEL
  obtain ⟨lb, hlb⟩ : ∃ lb, lb = w2.heap.size := ⟨_, rfl⟩
  have HLB := Lib.hid hlb
  obtain ⟨W3, hW3⟩ : ∃ W3, W3 = w2.alloc (.cells #[.int .i64 sn, .int .i64 sd] 23) := ⟨_, rfl⟩
  have K3 : RowKit.Hid (Kept w2 W3) := Lib.hid (by rw [hW3]; exact (Kept.refl _).alloc _)
  have R3 : RowKit.Hid (RowC W3 lb [.int .i64 sn, .int .i64 sd]) := Lib.hid (by rw [hW3, hlb]; exact RowC.new w2 _ 23)
  have Z3 : RowKit.Hid (W3.heap.size = lb + 1) := Lib.hid (by rw [hW3, hlb]; simp)
  have HW3 := Lib.hid hW3
  clear hW3 hlb
  go_upto_region 6 with (fail)
  rw [← HW3.out, ← HLB.out]
  go_wp2_with fail
  go_loopw [16, 17] (fun v i wr => ∃ (k : Nat) (a b : Int) (fo : List Hd), k ≤ hn ∧ i = .int .i64 k ∧ fillS (sn, sd) ((zipH xs hs day known).take k) = some ((a, b), fo) ∧ fo.length = k ∧ RowC wr lb [.int .i64 a, .int .i64 b] ∧ wr.ownsRow (lb + 1) 84 2 v k (hdFlat fo) ∧ Kept w2 wr ∧ lb < wr.heap.size) (fun _ i _ => hn - (intOf i).toNat)
  case atStart => exact ⟨0, sn, sd, [], by omega, by first | rfl | go_num, rfl, rfl, R3.out, by exact ⟨rfl, .inl ⟨rfl, rfl⟩⟩, K3.out, by have := Z3.out; omega⟩
  case round =>
    obtain ⟨k, a, b', fo, hk, rfl, hu, hfo, hr, hown, hkr, hzr⟩ := hrel
    have HUk := Lib.hid hu
    have HFo := Lib.hid hfo
    have HR := Lib.hid hr
    have HO := Lib.hid hown
    have HKR := Lib.hid hkr
    clear hu hfo hr hown hkr s0 s1 ls
    by_cases hlt : k < hn
    · obtain ⟨b, off, hB, hcc⟩ := HH.out.2.2.2.2 (by omega)
      subst hB
      obtain ⟨g, goff, hA7, hfc⟩ := HF7.out.2.2.2 (by omega)
      subst hA7
      have hxl : k < hs.length := by rw [HH.out.1]; exact hlt
      obtain ⟨hd, hhd⟩ : ∃ hd, hs[k]? = some hd := ⟨hs[k]'hxl, List.getElem?_eq_getElem hxl⟩
      have hze := zipH_at (xs := xs) (day := day) (known := known) hhd
      obtain ⟨⟨p0, p1⟩, hpp⟩ : ∃ p, p = stS (inForceS xs hd.sort day known) := ⟨_, rfl⟩
      rw [← hpp] at hze
      have hel : (eachL xs hs day known)[k]? = some (p0, p1) := by unfold eachL; rw [List.getElem?_map, hhd, hpp]; rfl
      obtain ⟨gv, gp, n0, n1⟩ := HGO.out _ (List.mem_of_getElem? hze)
      dsimp only at gv gp n0 n1
      have CS : RowKit.Hid (∀ W, Kept wr W → W.cell? ⟨b, off + k * 2, none⟩ = some (.string hd.sort) ∧ W.cell? ⟨b, off + k * 2 + 1, none⟩ = some (.int .i64 hd.num) ∧ W.cell? ⟨g, goff + k * 2, none⟩ = some (.int .i64 p0) ∧ W.cell? ⟨g, goff + k * 2 + 1, none⟩ = some (.int .i64 p1) ∧ W.cell? ⟨lb, 0, none⟩ = some (.int .i64 a) ∧ W.cell? ⟨lb, 1, none⟩ = some (.int .i64 b') ∧ Kept wr W) := Lib.hid (fun W hW => by
        have k1 := (K2.out.trans HKR.out).trans hW
        have k2 := HKR.out.trans hW
        exact ⟨(k1.cells _ _ (cell_lt (hcc k hd hhd).1)).trans (hcc k hd hhd).1, (k1.cells _ _ (cell_lt (hcc k hd hhd).2)).trans (hcc k hd hhd).2, (k2.cells _ _ (cell_lt (hfc k (p0, p1) hel).1)).trans (hfc k (p0, p1) hel).1, (k2.cells _ _ (cell_lt (hfc k (p0, p1) hel).2)).trans (hfc k (p0, p1) hel).2, (HR.out.kept hW 0 _ rfl).1, (HR.out.kept hW 1 _ rfl).1, hW⟩)
      have hav : vld a b' = true := fillS_vld _ ((sn, sd), []) ((a, b'), fo) HVS.out HUk.out
      obtain ⟨ft0, ft1⟩ := fitS_bd a b' p0 p1 (by have := vld_pos gv; omega) (Int.mul_nonneg (by have := vld_pos hav; omega) (by omega))
      obtain ⟨nn, hnn⟩ : ∃ nn, nn = min hd.num (fitS a b' p0 p1) := ⟨_, rfl⟩
      have nn0 : 0 ≤ nn := by omega
      have nn1 : nn ≤ 100000 := by omega
      have HF : RowKit.Hid (∀ W, Calls Tryz.prog 131 #[.agg #[.int .i64 p0, .int .i64 p1], .agg #[.int .i64 a, .int .i64 b'], .int .i64 hd.num] W fun e w' => e = .returned (.int .i64 nn) ∧ Kept W w') := Lib.hid (fun W => by
        have := rfits_any p0 p1 a b' hd.num (vld_bd gv) (vld_bd hav) gp n0 n1 W
        rw [rfit_eq n0 n1, ← hnn] at this
        exact this)
      have hst : fillS (sn, sd) ((zipH xs hs day known).take (k + 1)) = match mulF p0 p1 nn 1 with | some m => (match lowF (a * m.2 + -m.1 * b') (b' * m.2) with | some l => some (l, fo ++ [⟨hd.sort, nn⟩]) | none => none) | none => none := by
        rw [take_snoc' hze, fillS_snoc, HUk.out]
        unfold stepF
        dsimp only
        rw [← hnn]
        rfl
      have HST := Lib.hid hst
      obtain ⟨⟨m0, m1, me⟩, hm⟩ : ∃ m, m = mulS nn 1 p0 p1 := ⟨_, rfl⟩
      have HM : RowKit.Hid (∀ W, Calls Tryz.prog 32 #[.agg #[.int .i64 nn, .int .i64 1], .agg #[.int .i64 p0, .int .i64 p1]] W fun e w' => e = .returned (.tuple #[.agg #[.int .i64 m0, .int .i64 m1], .int .i64 me]) ∧ Kept W w') := Lib.hid (fun W => by
        have := rmul_any nn 1 p0 p1 W
        rw [← hm] at this
        exact this)
      have HMS : RowKit.Hid ((m0, m1, me) = okL (mulF p0 p1 nn 1)) := Lib.hid (by rw [hm]; exact mulS_one (p := (p0, p1)) gv nn0 nn1)
      have HAV := Lib.hid hav
      have HGV := Lib.hid (And.intro gv (And.intro nn0 nn1))
      have i0 : (0 : Int) ≤ (k : Int) := by omega
      have i1 : (k : Int) < (hn : Int) := by omega
      have it : (k : Int).toNat = k := by omega
      clear hcc hfc hhd hze hpp hel gv gp n0 n1 hnn hm hst hav ft0 ft1 nn0 nn1
      go_upto_region 10 with (fail)
      have SD := Lib.hid (CS.out _ ((Kept.refl wr).drew))
      go_cut [18] (fun s18 wx => s18 = .int .i64 nn ∧ Kept wr wx)
      case first =>
        go_region_held3 (fun W => W.cell? ⟨b, off + k * 2, none⟩ = some (.string hd.sort) ∧ W.cell? ⟨b, off + k * 2 + 1, none⟩ = some (.int .i64 hd.num) ∧ W.cell? ⟨g, goff + k * 2, none⟩ = some (.int .i64 p0) ∧ W.cell? ⟨g, goff + k * 2 + 1, none⟩ = some (.int .i64 p1) ∧ W.cell? ⟨lb, 0, none⟩ = some (.int .i64 a) ∧ W.cell? ⟨lb, 1, none⟩ = some (.int .i64 b') ∧ Kept wr W)
          (first
            | (with_reducible exact SD.out)
            | (with_reducible exact CS.out _ kk9)
            | fail)
          (first
            | (go_at_call 131; refine (HF.out _).mono ?_; rintro e w9 ⟨rfl, hk9⟩; have kk9 : Kept wr w9 := (by with_reducible exact ((Kept.refl wr).drew).trans hk9))
            | fail)
        all_goals go_wp2
        all_goals go_meet
        all_goals exact ⟨rfl, kk9⟩
      obtain ⟨rfl, kx⟩ := hcut
      obtain ⟨w4, rfl⟩ : ∃ w4, w4 = wc := ⟨_, rfl⟩
      have KX := Lib.hid kx
      obtain ⟨_, _, u0, u1, _, _, _⟩ := CS.out _ kx
      have lu := cell_lt u0
      clear kx
      go_wp2_with fail
      refine (HM.out _).mono ?_
      rintro e w5 ⟨rfl, hk5⟩
      obtain ⟨W6, hW6⟩ : ∃ W6, W6 = w5.alloc (.cells #[.int .i64 m0, .int .i64 m1] 23) := ⟨_, rfl⟩
      have k6 : Kept wr W6 := by rw [hW6]; exact (KX.out.trans hk5).alloc _
      have K6 := Lib.hid k6
      have X6 : RowKit.Hid (RowC W6 w5.heap.size [.int .i64 m0, .int .i64 m1]) := Lib.hid (by rw [hW6]; exact RowC.new w5 _ 23)
      have HW6 := Lib.hid hW6
      clear u0 u1 lu hk5 hW6 k6
      go_upto_region 12 with (fail)
      rw [← HW6.out]
      rcases hmm : mulF p0 p1 nn 1 with _ | m
      · have hq := HMS.out
        rw [hmm] at hq
        simp only [okL, Prod.mk.injEq] at hq
        obtain ⟨rfl, rfl, rfl⟩ := hq
        have HV : RowKit.Hid ((out, Z) = ([], 2)) := Lib.hid (by
          rw [HXF.out, fillS_none_of (k := k + 1) (by rw [HST.out, hmm])])
        have hv := HV.out
        simp only [Prod.mk.injEq] at hv
        obtain ⟨rfl, rfl⟩ := hv
        clear hmm
        go_wp2
        go_ret2
        exact ⟨_, rfl, own_zero _ _, KW2.out.trans (HKR.out.trans K6.out)⟩
      have hq := HMS.out
      rw [hmm] at hq
      obtain ⟨m0', m1'⟩ := m
      simp only [okL, Prod.mk.injEq] at hq
      obtain ⟨rfl, rfl, rfl⟩ := hq
      have hmv := (mulF_val (p := (p0, p1)) HGV.out.1 (by have := HGV.out.2; omega) (by have := HGV.out.2; omega) hmm).2
      obtain ⟨⟨s0, s1, se⟩, hs'⟩ : ∃ m, m = subS a b' m0 m1 := ⟨_, rfl⟩
      have hmb := vld_bd hmv
      have HA : RowKit.Hid (∀ W, Calls Tryz.prog 30 #[.agg #[.int .i64 a, .int .i64 b'], .agg #[.int .i64 m0, .int .i64 m1]] W fun e w' => e = .returned (.tuple #[.agg #[.int .i64 s0, .int .i64 s1], .int .i64 se]) ∧ Kept W w') := Lib.hid (fun W => by
        have := rsub_any a b' m0 m1 (by have := hmb.2.1; dsimp only at this; omega) (by have := hmb.2.2; dsimp only at this; omega) W
        rw [← hs'] at this
        exact this)
      have HAS' : RowKit.Hid ((s0, s1, se) = okL (lowF (a * m1 + -m0 * b') (b' * m1))) := Lib.hid (by rw [hs']; exact subS_val (a := (a, b')) (p := (m0, m1)) HAV.out hmv)
      have HST2 : RowKit.Hid (fillS (sn, sd) ((zipH xs hs day known).take (k + 1)) = match lowF (a * m1 + -m0 * b') (b' * m1) with | some l => some (l, fo ++ [⟨hd.sort, nn⟩]) | none => none) := Lib.hid (by rw [HST.out, hmm])
      obtain ⟨_, _, _, _, t0, t1, _⟩ := CS.out _ K6.out
      have v0 := (X6.out 0 _ rfl).1
      have v1 := (X6.out 1 _ rfl).1
      have lt := cell_lt t0
      have lv := cell_lt v0
      clear hmm hmv hs' hmb
      go_wp2_with fail
      refine (HA.out _).mono ?_
      rintro e w7 ⟨rfl, hk7⟩
      obtain ⟨W8, hW8⟩ : ∃ W8, W8 = w7.alloc (.cells #[.int .i64 s0, .int .i64 s1] 23) := ⟨_, rfl⟩
      have k8 : Kept wr W8 := by rw [hW8]; exact (K6.out.trans hk7).alloc _
      have K8 := Lib.hid k8
      have X8 : RowKit.Hid (RowC W8 w7.heap.size [.int .i64 s0, .int .i64 s1]) := Lib.hid (by rw [hW8]; exact RowC.new w7 _ 23)
      have hz8 : lb < w7.heap.size := by have := (K6.out.trans hk7).size; omega
      have hz8' : lb < W8.heap.size := by have := k8.size; omega
      have HW8 := Lib.hid hW8
      clear t0 t1 v0 v1 lt lv hk7 hW8 k8
      go_upto_region 15 with (fail)
      rw [← HW8.out]
      rcases hadd : lowF (a * m1 + -m0 * b') (b' * m1) with _ | r2
      · have hq := HAS'.out
        rw [hadd] at hq
        simp only [okL, Prod.mk.injEq] at hq
        obtain ⟨rfl, rfl, rfl⟩ := hq
        have HV : RowKit.Hid ((out, Z) = ([], 2)) := Lib.hid (by
          rw [HXF.out, fillS_none_of (k := k + 1) (by rw [HST2.out, hadd])])
        have hv := HV.out
        simp only [Prod.mk.injEq] at hv
        obtain ⟨rfl, rfl⟩ := hv
        clear hadd
        go_wp2
        go_ret2
        exact ⟨_, rfl, own_zero _ _, KW2.out.trans (HKR.out.trans K8.out)⟩
      · have hq := HAS'.out
        rw [hadd] at hq
        obtain ⟨r0', r1'⟩ := r2
        simp only [okL, Prod.mk.injEq] at hq
        obtain ⟨rfl, rfl, rfl⟩ := hq
        have HUN : RowKit.Hid (fillS (sn, sd) ((zipH xs hs day known).take (k + 1)) = some ((s0, s1), fo ++ [⟨hd.sort, nn⟩])) := Lib.hid (by rw [HST2.out, hadd])
        have R8 := HR.out.kept K8.out
        have e0 := (X8.out 0 _ rfl).1
        have e1 := (X8.out 1 _ rfl).1
        have t0 := (R8 0 _ rfl).1
        have t1 := (R8 1 _ rfl).1
        have y0 := (R8 0 _ rfl).2
        have y1 := (R8 1 _ rfl).2
        have le := cell_lt e0
        have lt := cell_lt t0
        have hne : w7.heap.size ≠ lb := by omega
        clear hadd
        go_upto_region 18 with (fail)
        obtain ⟨W9, hW9⟩ : ∃ W9, W9 = (W8.setCell ⟨lb, 0, none⟩ (.int .i64 s0)).setCell ⟨lb, 1, none⟩ (.int .i64 s1) := ⟨_, rfl⟩
        have R9 : RowKit.Hid (RowC W9 lb [.int .i64 s0, .int .i64 s1]) := Lib.hid (by rw [hW9]; simpa using ((R8.put (j := 0) (by simp) (.int .i64 s0)).put (j := 1) (by simp) (.int .i64 s1)))
        have hlbw : w2.heap.size ≤ lb := by rw [HLB.out]; exact Nat.le_refl _
        have K9 : RowKit.Hid (Kept w2 W9) := Lib.hid (by rw [hW9]; exact ((HKR.out.trans K8.out).setCell hlbw _).setCell hlbw _)
        have O9 : RowKit.Hid (W9.ownsRow (lb + 1) 84 2 _ k (hdFlat fo)) := Lib.hid (own_blocks (own_kept HO.out K8.out) (fun q hq => by
          rw [hW9]
          rw [Below.heap_setCell _ ⟨lb, 1, none⟩ _ q (by simp; omega), Below.heap_setCell _ ⟨lb, 0, none⟩ _ q (by simp; omega)]))
        have c0 : W9.cell? ⟨b, off + k * 2, none⟩ = some (.string hd.sort) := by
          obtain ⟨x0, _⟩ := CS.out _ K8.out
          have hbl : b ≠ lb := by
            intro e9
            obtain ⟨z0, _⟩ := CS.out _ (Kept.refl wr)
            obtain ⟨b9, off9, e8, hc9⟩ := HH.out.2.2.2.2 (by omega)
            cases e8
            have hxl9 : k < hs.length := by rw [HH.out.1]; exact hlt
            have h7 := cell_lt (hc9 k _ (List.getElem?_eq_getElem hxl9)).1
            have h8 := K2.out.size
            have h9 := HLB.out
            omega
          rw [hW9, World.cell?_setCell_far _ _ _ _ (by simpa using Ne.symm hbl), World.cell?_setCell_far _ _ _ _ (by simpa using Ne.symm hbl)]
          exact x0
        have lc := cell_lt c0
        have hz9 : lb < W9.heap.size := by rw [hW9]; simpa using hz8'
        have HW9 := Lib.hid hW9
        clear hW9 e0 e1 t0 t1 y0 y1 le lt R8
        rw [← HW9.out]
        have HN := Lib.hid (news_of (W := W9) (cs := hdCells ⟨hd.sort, nn⟩) (t := 84) (m := W9.heap.size) rfl)
        have H1 := Lib.hid (one2h ⟨hd.sort, nn⟩)
        have HOA := Lib.hid (own_kept O9.out ((Kept.refl W9).alloc (.cells #[.string hd.sort, .int .i64 nn] 84)))
        have HA3 : RowKit.Hid (k + 1 ≤ maxLen) := Lib.hid (by unfold maxLen; omega)
        have HA4 : RowKit.Hid ((k + 1) * 24 ≤ 140737488355328) := Lib.hid (by omega)
        have HZ : RowKit.Hid (lb + 1 ≤ (W9.alloc (.cells #[.string hd.sort, .int .i64 nn] 84)).heap.size) := Lib.hid (by simp; omega)
        go_wp2_with (at_builtin; refine wpList_append_lies _ rfl (.tmp 78) (.tmp 86) 61 rfl (lb + 1) 84 i1' _ 2 24 Tryz.underlying61 hj0 hy0 hy1 hy2 rfl (by decide) _ k _ rfl HOA.out ⟨W9.heap.size, 0, none⟩ 1 1 (hdCells ⟨hd.sort, nn⟩) rfl rfl HN.out H1.out (by decide) HA3.out HA4.out HZ.out _ rfl ?_; intro g10 cap10 w10 hown10 hgrow10 hat10 hlt10)
        have HO10 := Lib.hid hown10
        have hnb : ∀ r, _ = some r → lb + 1 ≤ r := fun r hr => (O9.out.lt r hr).1
        have HK10 := Lib.hid ((K9.out.alloc (.cells #[.string hd.sort, .int .i64 nn] 84)).grown hgrow10 (fun r hr => by have := hnb r hr; have := HLB.out; omega))
        have HR10 := Lib.hid ((R9.out.kept ((Kept.refl W9).alloc (.cells #[.string hd.sort, .int .i64 nn] 84))).grown hgrow10 (fun e9 => by have := hnb lb e9.symm; omega))
        have hz10 := cell_lt (HR10.out 0 _ rfl).1
        clear hown10 hgrow10 hat10 hlt10 hnb c0 lc
        go_roundw
        case rel =>
          refine ⟨k + 1, s0, s1, fo ++ [⟨hd.sort, nn⟩], by omega, by go_num, HUN.out, by rw [List.length_append, HFo.out]; rfl, HR10.out, ?_, HK10.out, hz10⟩
          rw [hdFlat_snoc]
          exact HO10.out
        case measure => simp [intOf]; omega
    · obtain rfl : k = hn := by omega
      have HUX : RowKit.Hid ((out, Z) = (fo, 0)) := Lib.hid (by
        have h := HUk.out
        rw [List.take_of_length_le (by rw [HZL.out]; exact Nat.le_refl _)] at h
        rw [HXF.out, h])
      have hv := HUX.out
      simp only [Prod.mk.injEq] at hv
      obtain ⟨rfl, rfl⟩ := hv
      go_wp2
      go_ret2
      refine ⟨_, rfl, ?_, KW2.out.trans HKR.out⟩
      rw [HFo.out]
      exact own_base HO.out (by have := KW2.out.size; have := HLB.out; omega)
end Go.Proofs.YtcjpecdnenemaaaGreatDoor

namespace Go.Proofs.YtcjpecdnenemaaaGreatDoor
set_option linter.all false
open Go.RowKit Go.Shelf

theorem heads_own8 {w : World} {base : Nat} {t : TypeId} {v : Value} {hs : List Hd} (h : w.ownsRow base t 2 v hs.length (hdFlat hs)) (hb : ∀ x ∈ hs, x.sort.size ≤ 9223372036854775807 ∧ -9223372036854775808 ≤ x.num ∧ x.num ≤ 9223372036854775807) : ∃ A c, v = .slice A hs.length c ∧ HeadsA w A hs.length c hs := by
  rcases own_form h with ⟨rfl, h0⟩ | ⟨g, c, rfl, h1, h2, h3, h4⟩
  · exact ⟨none, 0, by rw [h0], rfl, by omega, by omega, hb, fun hn => by omega⟩
  · refine ⟨some ⟨g, 0, none⟩, c, rfl, rfl, h1, by simpa [maxLen] using h2, hb, fun _ => ⟨g, 0, rfl, fun i x hx => ?_⟩⟩
    have hr := own_rowC h
    have := flH_at hs i x hx
    rw [Nat.zero_add]
    exact ⟨(hr _ _ this.1).1, (hr _ _ this.2).1⟩
theorem fillR_bd {xs : List Eqv} {hs out : List Hd} {sn sd day known z : Int} (h : fillR xs hs sn sd day known = (out, z)) (hsz : ∀ x ∈ hs, x.sort.size ≤ 100) : ∀ x ∈ out, x.sort.size ≤ 9223372036854775807 ∧ -9223372036854775808 ≤ x.num ∧ x.num ≤ 9223372036854775807 := by
  by_cases hz : z = 0
  · subst hz
    obtain ⟨l, he0, hv, hok, _⟩ := fillR_ok h
    obtain ⟨hol, heach⟩ := fill_each hok
    have hare := (areS_ok (each_ok he0).2.1).2
    intro x hx
    obtain ⟨i, hi⟩ := List.getElem?_of_mem hx
    have hil := (List.getElem?_eq_some_iff.1 hi).1
    have hxx : hs[i]? = some (hs[i]'(by omega)) := List.getElem?_eq_getElem (by omega)
    obtain ⟨s1, s2, s3, _⟩ := heach i _ x hxx hi
    have := hare _ (List.mem_of_getElem? hxx)
    have h9 := hsz _ (List.mem_of_getElem? hxx)
    rw [s1]
    omega
  · obtain rfl := fillR_bad h hz
    intro x hx
    cases hx

set_option maxRecDepth 100000 in
set_option maxHeartbeats 8000000 in
theorem uses8_any (A : Option Addr) (n c : Nat) (xs : List Eqv) (B : Option Addr) (hn hc : Nat) (hs : List Hd) (sn sd day known : Int) (w : World) (hT : TabA w A n c xs) (hH : HeadsA w B hn hc hs) (hE : Env w) :
    Calls Tryz.prog 8 #[.slice A n c, .slice B hn hc, .agg #[.int .i64 sn, .int .i64 sd], .int .i64 day, .int .i64 known] w fun e w' => e = .returned (.bool true) ∧ Kept w w' := by
  have hnc := hT.2.1
  have hcm := hT.2.2.1
  have hhc := hH.2.1
  have hhm := hH.2.2.1
  obtain ⟨W0, hW0⟩ : ∃ W0, W0 = w.alloc (.cells #[.int .i64 sn, .int .i64 sd] 23) := ⟨_, rfl⟩
  have K0 : RowKit.Hid (Kept w W0) := Lib.hid (by rw [hW0]; exact (Kept.refl _).alloc _)
  have R0 : RowKit.Hid (RowC W0 w.heap.size [.int .i64 sn, .int .i64 sd]) := Lib.hid (by rw [hW0]; exact RowC.new w _ 23)
  have HW0 := Lib.hid hW0
  have HT := Lib.hid (hT.kept K0.out)
  have HH := Lib.hid (hH.kept K0.out)
  have HE := Lib.hid (hE.kept K0.out)
  clear hT hH hE hW0
  obtain ⟨fb, hfb⟩ : ∃ fb, fb = fewB n := ⟨_, rfl⟩
  have HFB := Lib.hid hfb
  have HF : RowKit.Hid (∀ W, Calls Tryz.prog 47 #[.slice A n c] W fun e w' => e = .returned (.bool fb) ∧ W = w') := Lib.hid (fun W => by rw [hfb]; exact few_any A n c (by omega) W)
  clear hfb
  cases fb
  · go_enter Tryz.func8, Tryz.ntmps8
    go_upto_region 1 with (fail)
    rw [← HW0.out]
    go_wp2_with fail
    refine (HF.out _).mono ?_
    rintro e w1 ⟨rfl, rfl⟩
    go_wp2_with fail
    refine (alive_any _ HE.out).mono ?_
    rintro e w2 ⟨rfl, hk2⟩
    go_wp2
    go_ret
    exact ⟨rfl, K0.out.trans hk2⟩
  have hlt : n ≤ 1000000 := by have := few_le HFB.out.symm; omega
  obtain ⟨sb, hsb⟩ : ∃ sb, sb = shB hs := ⟨_, rfl⟩
  have HSB := Lib.hid hsb
  have HSH : RowKit.Hid (∀ W, Kept W0 W → Calls Tryz.prog 58 #[.slice B hn hc] W fun e w' => e = .returned (.bool sb) ∧ Kept W w') := Lib.hid (fun W hW => by rw [hsb]; exact short_any B hn hc hs W (HH.out.kept hW))
  clear hsb
  cases sb
  · go_enter Tryz.func8, Tryz.ntmps8
    go_upto_region 1 with (fail)
    rw [← HW0.out]
    go_wp2_with fail
    refine (HF.out _).mono ?_
    rintro e w1 ⟨rfl, rfl⟩
    go_wp2_with fail
    refine (HSH.out _ (Kept.refl _)).mono ?_
    rintro e w2 ⟨rfl, hk2⟩
    go_wp2_with fail
    refine (alive_any _ (HE.out.kept hk2)).mono ?_
    rintro e w3 ⟨rfl, hk3⟩
    go_wp2
    go_ret
    exact ⟨rfl, K0.out.trans (hk2.trans hk3)⟩
  obtain ⟨h15, hsz⟩ := shB_ok HSB.out.symm
  have HSZ := Lib.hid hsz
  rw [HH.out.1] at h15
  clear hsz
  obtain ⟨⟨x0, x1, x2⟩, hx⟩ : ∃ r, r = excS xs hs 0 1 day known := ⟨_, rfl⟩
  obtain ⟨⟨y0, y1, y2⟩, hy⟩ : ∃ r, r = excS xs hs sn sd day known := ⟨_, rfl⟩
  obtain ⟨⟨out, z⟩, hz⟩ : ∃ r, r = fillR xs hs sn sd day known := ⟨_, rfl⟩
  have HBD := Lib.hid (fillR_bd hz.symm HSZ.out)
  have C59 : RowKit.Hid (∀ W, Kept W0 W → Calls Tryz.prog 59 #[.slice A n c, .slice B hn hc, .int .i64 day, .int .i64 known] W fun e w' => e = .returned (.tuple #[.agg #[.int .i64 x0, .int .i64 x1], .int .i64 x2]) ∧ Kept W w') := Lib.hid (fun W hW => by
    have := uses_any A n c xs B hn hc hs day known W (HT.out.kept hW) hlt (HH.out.kept hW)
    rw [← hx] at this
    exact this)
  have C60 : RowKit.Hid (∀ W, Kept W0 W → Calls Tryz.prog 60 #[.slice A n c, .slice B hn hc, .int .i64 day, .int .i64 known] W fun e w' => e = .returned (.tuple #[.agg #[.int .i64 x0, .int .i64 x1], .int .i64 x2]) ∧ Kept W w') := Lib.hid (fun W hW => by
    have := ruses_any A n c xs B hn hc hs day known W (HT.out.kept hW) (HH.out.kept hW)
    rw [← hx] at this
    exact this)
  have C61 : RowKit.Hid (∀ W, Kept W0 W → Calls Tryz.prog 61 #[.slice A n c, .slice B hn hc, .agg #[.int .i64 sn, .int .i64 sd], .int .i64 day, .int .i64 known] W fun e w' => e = .returned (.tuple #[.agg #[.int .i64 y0, .int .i64 y1], .int .i64 y2]) ∧ Kept W w') := Lib.hid (fun W hW => by
    have := excess_any A n c xs B hn hc hs sn sd day known W (HT.out.kept hW) hlt (HH.out.kept hW)
    rw [← hy] at this
    exact this)
  have C62 : RowKit.Hid (∀ W, Kept W0 W → Calls Tryz.prog 62 #[.slice A n c, .slice B hn hc, .agg #[.int .i64 sn, .int .i64 sd], .int .i64 day, .int .i64 known] W fun e w' => e = .returned (.tuple #[.agg #[.int .i64 y0, .int .i64 y1], .int .i64 y2]) ∧ Kept W w') := Lib.hid (fun W hW => by
    have := rexcess_any A n c xs B hn hc hs sn sd day known W (HT.out.kept hW) (HH.out.kept hW)
    rw [← hy] at this
    exact this)
  have C63 : RowKit.Hid (∀ W, Kept W0 W → Calls Tryz.prog 63 #[.slice A n c, .slice B hn hc, .agg #[.int .i64 sn, .int .i64 sd], .int .i64 day, .int .i64 known] W fun e w' => ∃ v, e = .returned (.tuple #[v, .int .i64 z]) ∧ w'.ownsRow W.heap.size 84 2 v out.length (hdFlat out) ∧ Kept W w') := Lib.hid (fun W hW => by
    have := fill_any A n c xs B hn hc hs sn sd day known W (HT.out.kept hW) hlt (HH.out.kept hW)
    rw [← hz] at this
    exact this)
  have C64 : RowKit.Hid (∀ W, Kept W0 W → Calls Tryz.prog 64 #[.slice A n c, .slice B hn hc, .agg #[.int .i64 sn, .int .i64 sd], .int .i64 day, .int .i64 known] W fun e w' => ∃ v, e = .returned (.tuple #[v, .int .i64 z]) ∧ w'.ownsRow W.heap.size 84 2 v out.length (hdFlat out) ∧ Kept W w') := Lib.hid (fun W hW => by
    have := rfill_any A n c xs B hn hc hs sn sd day known W (HT.out.kept hW) (HH.out.kept hW)
    rw [← hz] at this
    exact this)
  clear hx hy hz
  go_enter Tryz.func8, Tryz.ntmps8
  go_upto_region 1 with (fail)
  rw [← HW0.out]
  go_wp2_with fail
  refine (HF.out _).mono ?_
  rintro e w1 ⟨rfl, rfl⟩
  go_wp2_with fail
  refine (HSH.out _ (Kept.refl _)).mono ?_
  rintro e w2 ⟨rfl, hk2⟩
  have K2 := Lib.hid hk2
  clear hk2
  go_wp2_with fail
  refine (C59.out _ K2.out).mono ?_
  rintro e w3 ⟨rfl, hk3⟩
  obtain ⟨W3, hW3⟩ : ∃ W, W = w3.alloc (.cells #[.int .i64 x0, .int .i64 x1] 23) := ⟨_, rfl⟩
  have RA : RowKit.Hid (RowC W3 w3.heap.size [.int .i64 x0, .int .i64 x1]) := Lib.hid (by rw [hW3]; exact RowC.new w3 [.int .i64 x0, .int .i64 x1] 23)
  have K3 : RowKit.Hid (Kept W0 W3) := Lib.hid ((K2.out.trans hk3).trans (show Kept w3 W3 by rw [hW3]; exact (Kept.refl _).alloc _))
  have KSW3 : RowKit.Hid (Kept w3 W3) := Lib.hid (by rw [hW3]; exact (Kept.refl _).alloc _)
  have HW3 := Lib.hid hW3
  clear hW3
  clear hk3
  go_upto_region 4 with (fail)
  rw [← HW3.out]
  go_wp2_with fail
  refine (C60.out _ K3.out).mono ?_
  rintro e w4 ⟨rfl, hk4⟩
  have RA4 := Lib.hid (RA.out.kept hk4)
  obtain ⟨W5, hW5⟩ : ∃ W, W = w4.alloc (.cells #[.int .i64 x0, .int .i64 x1] 23) := ⟨_, rfl⟩
  have RB : RowKit.Hid (RowC W5 w4.heap.size [.int .i64 x0, .int .i64 x1]) := Lib.hid (by rw [hW5]; exact RowC.new w4 [.int .i64 x0, .int .i64 x1] 23)
  have K5 : RowKit.Hid (Kept W0 W5) := Lib.hid ((K3.out.trans hk4).trans (show Kept w4 W5 by rw [hW5]; exact (Kept.refl _).alloc _))
  have KSW5 : RowKit.Hid (Kept w4 W5) := Lib.hid (by rw [hW5]; exact (Kept.refl _).alloc _)
  have HW5 := Lib.hid hW5
  clear hW5
  have RA5 := Lib.hid (RA4.out.kept KSW5.out)
  clear hk4
  go_upto_region 5 with (fail)
  rw [← HW5.out]
  have rr := R0.out.kept K5.out
  have r0 := (rr 0 _ rfl).1
  have r1 := (rr 1 _ rfl).1
  have lr := cell_lt r0
  clear rr
  go_wp2_with fail
  refine (C61.out _ K5.out).mono ?_
  rintro e w6 ⟨rfl, hk6⟩
  have RA6 := Lib.hid (RA5.out.kept hk6)
  have RB6 := Lib.hid (RB.out.kept hk6)
  obtain ⟨W7, hW7⟩ : ∃ W, W = w6.alloc (.cells #[.int .i64 y0, .int .i64 y1] 23) := ⟨_, rfl⟩
  have RC : RowKit.Hid (RowC W7 w6.heap.size [.int .i64 y0, .int .i64 y1]) := Lib.hid (by rw [hW7]; exact RowC.new w6 [.int .i64 y0, .int .i64 y1] 23)
  have K7 : RowKit.Hid (Kept W0 W7) := Lib.hid ((K5.out.trans hk6).trans (show Kept w6 W7 by rw [hW7]; exact (Kept.refl _).alloc _))
  have KSW7 : RowKit.Hid (Kept w6 W7) := Lib.hid (by rw [hW7]; exact (Kept.refl _).alloc _)
  have HW7 := Lib.hid hW7
  clear hW7
  have RA7 := Lib.hid (RA6.out.kept KSW7.out)
  have RB7 := Lib.hid (RB6.out.kept KSW7.out)
  clear hk6 r0 r1 lr
  go_upto_region 6 with (fail)
  rw [← HW7.out]
  have rr := R0.out.kept K7.out
  have r0 := (rr 0 _ rfl).1
  have r1 := (rr 1 _ rfl).1
  have lr := cell_lt r0
  clear rr
  go_wp2_with fail
  refine (C62.out _ K7.out).mono ?_
  rintro e w8 ⟨rfl, hk8⟩
  have RA8 := Lib.hid (RA7.out.kept hk8)
  have RB8 := Lib.hid (RB7.out.kept hk8)
  have RC8 := Lib.hid (RC.out.kept hk8)
  obtain ⟨W9, hW9⟩ : ∃ W, W = w8.alloc (.cells #[.int .i64 y0, .int .i64 y1] 23) := ⟨_, rfl⟩
  have RD : RowKit.Hid (RowC W9 w8.heap.size [.int .i64 y0, .int .i64 y1]) := Lib.hid (by rw [hW9]; exact RowC.new w8 [.int .i64 y0, .int .i64 y1] 23)
  have K9 : RowKit.Hid (Kept W0 W9) := Lib.hid ((K7.out.trans hk8).trans (show Kept w8 W9 by rw [hW9]; exact (Kept.refl _).alloc _))
  have KSW9 : RowKit.Hid (Kept w8 W9) := Lib.hid (by rw [hW9]; exact (Kept.refl _).alloc _)
  have HW9 := Lib.hid hW9
  clear hW9
  have RA9 := Lib.hid (RA8.out.kept KSW9.out)
  have RB9 := Lib.hid (RB8.out.kept KSW9.out)
  have RC9 := Lib.hid (RC8.out.kept KSW9.out)
  clear hk8 r0 r1 lr
  go_upto_region 7 with (fail)
  rw [← HW9.out]
  have rr := R0.out.kept K9.out
  have r0 := (rr 0 _ rfl).1
  have r1 := (rr 1 _ rfl).1
  have lr := cell_lt r0
  clear rr
  go_wp2_with fail
  refine (C63.out _ K9.out).mono ?_
  rintro e w10 ⟨v, rfl, hown, hk10⟩
  obtain ⟨A3, c3, hv3, hh3⟩ := heads_own8 hown HBD.out
  subst hv3
  have H3 := Lib.hid hh3
  have K10 := Lib.hid (K9.out.trans hk10)
  have S10 := Lib.hid hk10
  clear hk10 hown hh3 r0 r1 lr
  have rr := R0.out.kept K10.out
  have r0 := (rr 0 _ rfl).1
  have r1 := (rr 1 _ rfl).1
  have lr := cell_lt r0
  clear rr
  go_wp2_with fail
  refine (C64.out _ K10.out).mono ?_
  rintro e w11 ⟨v, rfl, hown, hk11⟩
  obtain ⟨A4, c4, hv4, hh4⟩ := heads_own8 hown HBD.out
  subst hv4
  have H4 := Lib.hid hh4
  have K11 := Lib.hid (K10.out.trans hk11)
  have S11 := Lib.hid (S10.out.trans hk11)
  have H3b := Lib.hid (H3.out.kept hk11)
  clear hk11 hown hh4 r0 r1 lr
  go_wp2_with fail
  refine (alive_any _ (HE.out.kept K11.out)).mono ?_
  rintro e w12 ⟨rfl, hk12⟩
  have K12 := Lib.hid (K11.out.trans hk12)
  have kk := S11.out.trans hk12
  have ra := RA9.out.kept kk
  have rb := RB9.out.kept kk
  have rc := RC9.out.kept kk
  have rd := RD.out.kept kk
  have a0 := (ra 0 _ rfl).1
  have a1 := (ra 1 _ rfl).1
  have b0 := (rb 0 _ rfl).1
  have b1 := (rb 1 _ rfl).1
  have c0 := (rc 0 _ rfl).1
  have c1 := (rc 1 _ rfl).1
  have d0 := (rd 0 _ rfl).1
  have d1 := (rd 1 _ rfl).1
  have la := cell_lt a0
  have lb := cell_lt b0
  have lc := cell_lt c0
  have ld := cell_lt d0
  have C65 : RowKit.Hid (∀ W, Kept w11 W → Calls Tryz.prog 65 #[.slice A3 out.length c3, .slice A4 out.length c4] W fun e w' => e = .returned (.bool true) ∧ Kept W w') := Lib.hid (fun W hW => sameHeads_any A3 A4 out.length c3 c4 out W (H3b.out.kept hW) (H4.out.kept hW))
  have K12b := Lib.hid hk12
  clear kk ra rb rc rd hk12
  go_wp2_with fail
  refine (C65.out _ K12b.out).mono ?_
  rintro e w13 ⟨rfl, hk13⟩
  go_wp2
  go_ret
  exact ⟨by first | rfl | (simp; done), K0.out.trans (K12.out.trans hk13)⟩
end Go.Proofs.YtcjpecdnenemaaaGreatDoor
