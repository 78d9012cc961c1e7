/-
  the code's Most 59
  MarkRange: mathematics
-/
import Derived.Test.YtologmoanaccpaaGreatDoorVS
import Derived.Test.YtologmoanaccpaaGreatDoorBD
import Derived.Test.YtologmoanaccpaaGreatDoorEA
import Derived.Test.YtologmoanaccpaaGreatDoorBK
namespace Go.Proofs.YtologmoanaccpaaGreatDoor
set_option linter.all false
open Go.RowKit Go.Shelf

def mstE (ms : List Mk) (fs : List Fd) (day o : Int) (found : List Sg) (cls : List Cl) : Int := fstE [smE ms fs, errB (inB day 0 100000), errB (inB o 1 40), fnE found, clE cls]
def othL (cls : List Cl) (o : Int) : List Cl := cls.filter fun c => !decide (c.own = o)
def allL (cls : List Cl) (o : Int) (k : Int) : List Cl := othL cls o ++ [⟨o, k⟩]
/-- what a search by gain leaves: an assignment, as many as counted, and those who could still help, blocked -/
def MstA (fits : List Nat) (cl : Nat) (wt : List Int) (o k : Nat) : Prop :=
  ∃ ow a, SkV fits ow ∧ (∀ q : Nat, 1 ≤ q → q ≤ 40 → q ≠ o → ((ow.count (q : Int) : Nat) : Int) = wc cl wt q) ∧ ow.count (o : Int) = k ∧ a.testBit o = true ∧ ∀ q, a.testBit q = true → SkQ fits ow a q
def MstP (w : World) (ms : List Mk) (fs : List Fd) (day o : Int) (found : List Sg) (cls : List Cl) (e : Ending) (w' : World) : Prop :=
  ((mstE ms fs day o found cls ≠ 0 ∧ e = .returned (.tuple #[.int .i64 0, .int .i64 (mstE ms fs day o found cls)])) ∨
   (mstE ms fs day o found cls = 0 ∧ (othL cls o).length = 10 ∧ e = .returned (.tuple #[.int .i64 0, .int .i64 2])) ∨
   (mstE ms fs day o found cls = 0 ∧ (othL cls o).length < 10 ∧ chE ms fs day found (allL cls o 0) = 0 ∧ ((e = .returned (.tuple #[.int .i64 0, .int .i64 30]) ∧ ShA (fitsN ms fs day found (allL cls o 0)) (clN (allL cls o 0)) (wtL (allL cls o 0))) ∨
     ∃ k : Nat, e = .returned (.tuple #[.int .i64 (k : Int), .int .i64 0]) ∧ MstA (fitsN ms fs day found (allL cls o 0)) (clN (allL cls o 0)) (wtL (allL cls o 0)) o.toNat k))) ∧ Kept w w'
theorem fstE_five {a b c d e : Int} (h : fstE [a, b, c, d, e] = 0) : a = 0 ∧ b = 0 ∧ c = 0 ∧ d = 0 ∧ e = 0 := by
  have h4 : ∀ {x : Int} {l : List Int}, fstE (x :: l) = 0 → x = 0 ∧ fstE l = 0 := fun {x l} h => by
    unfold fstE at h
    by_cases hx : x = 0
    · rw [if_pos hx] at h
      exact ⟨hx, h⟩
    · rw [if_neg hx] at h
      exact absurd h hx
  obtain ⟨h1, g⟩ := h4 h
  obtain ⟨h2, g⟩ := h4 g
  obtain ⟨h3, g⟩ := h4 g
  obtain ⟨h5, g⟩ := h4 g
  exact ⟨h1, h2, h3, h5, (h4 g).1⟩
theorem oth_mem {cls : List Cl} {o : Int} {x : Cl} (h : x ∈ othL cls o) : x ∈ cls ∧ x.own ≠ o := by
  unfold othL at h
  rw [List.mem_filter] at h
  exact ⟨h.1, by simpa using h.2⟩
theorem oth_nodup {cls : List Cl} (o : Int) (h : (cls.map Cl.own).Nodup) : ((othL cls o).map Cl.own).Nodup := (List.filter_sublist.map Cl.own).nodup h
theorem all_nodup {cls : List Cl} (o k : Int) (h : (cls.map Cl.own).Nodup) : ((allL cls o k).map Cl.own).Nodup := by
  unfold allL
  rw [List.map_append, List.nodup_append]
  refine ⟨oth_nodup o h, by simp, fun a ha b hb e => ?_⟩
  obtain ⟨x, hx, rfl⟩ := List.mem_map.1 ha
  simp at hb
  exact (oth_mem hx).2 (e.trans hb)
theorem own_of_mst {ms : List Mk} {fs : List Fd} {day o : Int} {found : List Sg} {cls : List Cl} (h : mstE ms fs day o found cls = 0) : 1 ≤ o ∧ o ≤ 40 := by
  obtain ⟨e1, e2, e3, e4, e5⟩ := fstE_five h
  refine inB_iff.1 ?_
  cases hb : inB o 1 40 with
  | true => rfl
  | false => rw [hb] at e3; cases e3
theorem fitR_setRow {W : World} {F : Option Addr} {nb cF fb fo H : Nat} {fits : List Nat} {xs : Array Value} (h : FitR W F nb cF fb fo fits) (hne : 0 < nb → fb ≠ H) : FitR (W.setRow H xs) F nb cF fb fo fits := by
  refine ⟨h.ln, h.sz, h.nc, h.cm, h.fs, h.fa, by rw [setRow_size]; exact h.lt, fun i f hi' => ?_⟩
  have hik : 0 < nb := by
    have := (List.getElem?_eq_some_iff.1 hi').1
    rw [h.ln] at this
    omega
  rw [cell_setRow_other _ _ _ _ (by have := hne hik; simp; omega)]
  exact h.rf i f hi'
theorem hrL_row {W W' : World} {H t : Nat} {xs : List Value} {old : Array Value} (h : W.heap[H]? = some (.cells old t (0, 0))) (e : W' = W.setRow H xs.toArray) : RowC W' H xs := fun j v hv => by
  subst e
  have hbb := setRow_heap W H old xs.toArray t (0, 0) h
  exact ⟨by rw [cell_of_row _ _ _ _ _ _ hbb]; simpa using hv, frozen_of_row _ _ _ _ _ hbb⟩
theorem mo_ch {ms : List Mk} {fs : List Fd} {day o : Int} {found : List Sg} {cls : List Cl} (h : mstE ms fs day o found cls = 0) (hl : (othL cls o).length < 10) {k : Int} (hk : 0 ≤ k ∧ k ≤ 60) : chE ms fs day found (allL cls o k) = 0 := by
  obtain ⟨e1, e2, e3, e4, e5⟩ := fstE_five h
  obtain ⟨c1, c2, c3⟩ := cl_ok e5
  have hin : inB o 1 40 = true := by
    cases hb : inB o 1 40 with
    | true => rfl
    | false => rw [hb] at e3; cases e3
  have ho := inB_iff.1 hin
  have hrep : repB ((allL cls o k).map Cl.own) = false := rep_no (all_nodup o k c3)
  have h5 : clE (allL cls o k) = 0 := by
    unfold clE
    rw [if_neg (by unfold allL; rw [List.length_append]; simp; omega), if_pos, hrep]
    · rfl
    · rw [List.all_eq_true]
      intro x hx
      rcases List.mem_append.1 hx with hx | hx
      · exact c2 x (oth_mem hx).1
      · simp at hx
        subst hx
        unfold claimB
        simp [inB_iff, hin, hk.1, hk.2]
  unfold chE
  rw [e1, e2, e4, h5]
  rfl
set_option maxRecDepth 100000 in
set_option maxHeartbeats 12800000 in
theorem most_any (A B C D : Option Addr) (n c m d p q u v : Nat) (ms : List Mk) (fs : List Fd) (day o : Int) (found : List Sg) (cls : List Cl) (w : World) (hs : SmA w A n c ms B m d fs) (hfo : SlA sgV 6 Sg.ok w C p q found) (hcl : SlA clC 2 Cl.ok w D u v cls) (ho : i64 o) (hEv : EnvT w) :
    Calls Tryz.prog 59 #[.agg #[.slice A n c, .slice B m d], .int .i64 day, .slice C p q, .slice D u v, .int .i64 o] w (MstP w ms fs day o found cls) := by
  obtain ⟨W1, hW1⟩ : ∃ W1, W1 = w.alloc (.cells #[.slice A n c, .slice B m d] 25) := ⟨_, rfl⟩
  obtain ⟨W0, hW0⟩ : ∃ W0, W0 = W1.alloc (.cells #[.int .i64 o] 3) := ⟨_, rfl⟩
  have z1 : W1.heap.size = w.heap.size + 1 := by rw [hW1]; simp
  have k1 : Kept w W1 := by rw [hW1]; exact (Kept.refl _).alloc _
  have k0 : Kept W1 W0 := by rw [hW0]; exact (Kept.refl _).alloc _
  have K0 := Lib.hid (k1.trans k0)
  have R0 : RowKit.Hid (RowC W0 w.heap.size [.slice A n c, .slice B m d]) := Lib.hid (by
    have h : RowC W1 w.heap.size [.slice A n c, .slice B m d] := by rw [hW1]; exact RowC.new w [.slice A n c, .slice B m d] 25
    exact h.kept k0)
  have RO : RowKit.Hid (RowC W0 (w.heap.size + 1) [.int .i64 o]) := Lib.hid (by rw [hW0, ← z1]; exact RowC.new W1 [.int .i64 o] 3)
  have hWW : W0 = (w.alloc (.cells #[.slice A n c, .slice B m d] 25)).alloc (.cells #[.int .i64 o] 3) := by rw [hW0, hW1]
  have HW := Lib.hid hWW
  have HS := Lib.hid (hs.kept K0.out)
  have HFO := Lib.hid (hfo.kept K0.out)
  have HCL := Lib.hid (hcl.kept K0.out)
  have HEV := Lib.hid (hEv.kept K0.out)
  obtain ⟨E1, hE1⟩ : ∃ E, smE ms fs = E := ⟨_, rfl⟩
  obtain ⟨b2, hb2⟩ : ∃ b, inB day 0 100000 = b := ⟨_, rfl⟩
  obtain ⟨v2, hv2⟩ : ∃ v, errB b2 = v := ⟨_, rfl⟩
  obtain ⟨b3, hb3⟩ : ∃ b, inB o 1 40 = b := ⟨_, rfl⟩
  obtain ⟨v3, hv3⟩ : ∃ v, errB b3 = v := ⟨_, rfl⟩
  obtain ⟨E3, hE3⟩ : ∃ E, fnE found = E := ⟨_, rfl⟩
  obtain ⟨E4, hE4⟩ : ∃ E, clE cls = E := ⟨_, rfl⟩
  obtain ⟨E, hE⟩ : ∃ E, fstE [E1, v2, v3, E3, E4] = E := ⟨_, rfl⟩
  have HE : RowKit.Hid (mstE ms fs day o found cls = E) := Lib.hid (by unfold mstE; rw [hE1, hb2, hv2, hb3, hv3, hE3, hE4, hE])
  have H14 : RowKit.Hid (∀ W, Kept W0 W → Calls Tryz.prog 25 #[.agg #[.slice A n c, .slice B m d]] W fun e w' => e = .returned (.int .i64 E1) ∧ Kept W w') := Lib.hid (fun W hW => by rw [← hE1]; exact checkSmits_any A B n c m d ms fs W (HS.out.kept hW))
  have H16 : RowKit.Hid (∀ W, Calls Tryz.prog 75 #[.int .i64 day] W fun e w' => e = .returned (.bool b2) ∧ W = w') := Lib.hid (fun W => by rw [← hb2]; exact isDay_any _ W)
  have HV2 : RowKit.Hid (∀ W, Calls Tryz.prog 74 #[.bool b2] W fun e w' => e = .returned (.int .i64 v2) ∧ W = w') := Lib.hid (fun W => by rw [← hv2]; exact valid_any b2 W)
  have H79 : RowKit.Hid (∀ W, Calls Tryz.prog 79 #[.int .i64 o] W fun e w' => e = .returned (.bool b3) ∧ W = w') := Lib.hid (fun W => by rw [← hb3]; exact isOwner_any _ W)
  have HV3 : RowKit.Hid (∀ W, Calls Tryz.prog 74 #[.bool b3] W fun e w' => e = .returned (.int .i64 v3) ∧ W = w') := Lib.hid (fun W => by rw [← hv3]; exact valid_any b3 W)
  have H18 : RowKit.Hid (∀ W, Kept W0 W → Calls Tryz.prog 107 #[.slice C p q] W fun e w' => e = .returned (.int .i64 E3) ∧ Kept W w') := Lib.hid (fun W hW => by rw [← hE3]; exact checkFound_any C p q found W (HFO.out.kept hW))
  have H59 : RowKit.Hid (∀ W, Kept W0 W → Calls Tryz.prog 126 #[.slice D u v] W fun e w' => e = .returned (.int .i64 E4) ∧ Kept W w') := Lib.hid (fun W hW => by rw [← hE4]; exact checkClaims_any D u v cls W (HCL.out.kept hW))
  have H13 : RowKit.Hid (∀ W g, RowC W g [.int .i64 E1, .int .i64 v2, .int .i64 v3, .int .i64 E3, .int .i64 E4] → Calls Tryz.prog 73 #[.slice (some ⟨g, 0, none⟩) 5 5] W fun e w' => e = .returned (.int .i64 E) ∧ W = w') := Lib.hid (fun W g hr => by
    rw [← hE]
    exact firstError_any g 0 5 5 [E1, v2, v3, E3, E4] rfl (by omega) W (intsR hr))
  have a0 := (R0.out 0 _ rfl).1
  have a1 := (R0.out 1 _ rfl).1
  have la := cell_lt a0
  have HCN := Lib.hid hcl.1
  have hpc := hfo.2.1
  have hpm := hfo.2.2.1
  have huc := hcl.2.1
  have hum := hcl.2.2.1
  have HFN := Lib.hid hfo.1
  have HCK := Lib.hid hcl.2.2.2.1
  clear hW0 hW1 hWW z1 k1 k0 hs hfo hcl hE1 hb2 hv2 hb3 hv3 hE3 hE4 hE hEv
  go_enter Tryz.func59, Tryz.ntmps59
  go_upto_region 1 with (fail)
  rw [← HW.out]
  have o0 := (RO.out 0 _ rfl).1
  have lo := cell_lt o0
  have SC : RowKit.Hid (∀ W, Kept W0 W → W.cell? ⟨w.heap.size, 0, none⟩ = some (.slice A n c) ∧ W.cell? ⟨w.heap.size, 1, none⟩ = some (.slice B m d) ∧ W.cell? ⟨w.heap.size + 1, 0, none⟩ = some (.int .i64 o) ∧ Kept W0 W) := Lib.hid (fun W hW => ⟨(R0.out.kept hW 0 _ rfl).1, (R0.out.kept hW 1 _ rfl).1, (RO.out.kept hW 0 _ rfl).1, hW⟩)
  have kd := (Kept.refl W0).drew
  go_region_held3 (fun W => W.cell? ⟨w.heap.size, 0, none⟩ = some (.slice A n c) ∧ W.cell? ⟨w.heap.size, 1, none⟩ = some (.slice B m d) ∧ W.cell? ⟨w.heap.size + 1, 0, none⟩ = some (.int .i64 o) ∧ Kept W0 W)
      (first
        | (with_reducible exact SC.out _ kd)
        | (with_reducible exact SC.out _ kk1)
        | (with_reducible exact SC.out _ kk2)
        | (with_reducible exact SC.out _ kk3)
        | (with_reducible exact SC.out _ (kk3.alloc _))
        | fail)
      (first
        | (go_at_call 25; with_reducible refine (H14.out _ kd).mono ?_; rintro e w1 ⟨rfl, hk1⟩; have kk1 : Kept W0 w1 := (by with_reducible exact kd.trans hk1))
        | (go_at_call 75; refine (H16.out _).mono ?_; rintro e w9 ⟨rfl, rfl⟩)
        | (go_at_call 74; first | (refine (HV2.out _).mono ?_; rintro e w9 ⟨rfl, rfl⟩) | (refine (HV3.out _).mono ?_; rintro e w9 ⟨rfl, rfl⟩))
        | (go_at_call 79; refine (H79.out _).mono ?_; rintro e w9 ⟨rfl, rfl⟩)
        | (go_at_call 107; with_reducible refine (H18.out _ kk1).mono ?_; rintro e w2 ⟨rfl, hk2⟩; have kk2 : Kept W0 w2 := (by with_reducible exact kk1.trans hk2))
        | (go_at_call 126; with_reducible refine (H59.out _ kk2).mono ?_; rintro e w3 ⟨rfl, hk3⟩; have kk3 : Kept W0 w3 := (by with_reducible exact kk2.trans hk3))
        | (go_at_call 73; refine (H13.out _ _ (RowC.new _ _ _)).mono ?_; rintro e w9 ⟨rfl, rfl⟩)
        | fail)
  clear a0 a1 la o0 lo
  obtain ⟨W4, hW4⟩ : ∃ W, W = w3.alloc (.cells #[.int .i64 E1, .int .i64 v2, .int .i64 v3, .int .i64 E3, .int .i64 E4] 27) := ⟨_, rfl⟩
  rw [← hW4]
  have K4 : RowKit.Hid (Kept W0 W4) := Lib.hid (by rw [hW4]; exact kk3.alloc _)
  clear hW4 kk3 kk2 kk1 kd hk1 hk2 hk3
  by_cases h0 : E = 0
  · subst h0
    have hmo := HE.out
    have HMO := Lib.hid hmo
    obtain ⟨e1, e2, e3, e4, e5⟩ := fstE_five hmo
    have hin := own_of_mst hmo
    obtain ⟨on, rfl⟩ : ∃ on : Nat, o = (on : Int) := ⟨o.toNat, by omega⟩
    have hon1 : 1 ≤ on := by omega
    have hon2 : on ≤ 40 := by omega
    have HO1 := Lib.hid hon1
    have HO2 := Lib.hid hon2
    clear hin hon1 hon2
    obtain ⟨c1, c2, c3⟩ := cl_ok e5
    have hu10 : u ≤ 10 := by rw [← HCN.out]; exact c1
    have H128 := Lib.hid (cloneC_any D u v cls W4 (HCL.out.kept K4.out) (by omega))
    have C3 := Lib.hid c3
    clear hmo e1 e2 e3 e4 e5 c1 c2 c3
    go_wp2_with fail
    refine H128.out.mono ?_
    rintro e w5 ⟨⟨vv, rfl, hown⟩, hk5⟩
    have K5 := Lib.hid (K4.out.trans hk5)
    have HO5 := Lib.hid hown
    have H127 := Lib.hid (deleteC_any W4.heap.size vv u cls on (w.heap.size + 1) W0 w5 K5.out K4.out.size hown HCN.out HCK.out C3.out (by omega) (RO.out 0 _ rfl).1)
    clear hown hk5
    go_wp2_with fail
    refine H127.out.mono ?_
    rintro e w6 ⟨⟨v6, rfl, hown⟩, hk6⟩
    have K6 := Lib.hid hk6
    obtain ⟨L, hL⟩ : ∃ L, othL cls on = L := ⟨_, rfl⟩
    have hLL : (cls.filter fun c => !decide (c.own = (on : Int))) = L := hL
    rw [hLL] at hown
    have HL := Lib.hid hL
    have HLK : RowKit.Hid (∀ x ∈ L, x.ok) := Lib.hid (fun x hx => HCK.out x (oth_mem (by rw [hL]; exact hx)).1)
    have hle : L.length ≤ 10 := by
      rw [← hL]
      exact Nat.le_trans (List.length_filter_le _ _) (by rw [HCN.out]; exact hu10)
    obtain ⟨uL, huL⟩ : ∃ k, L.length = k := ⟨_, rfl⟩
    rw [huL] at hown hle
    have HUL := Lib.hid huL
    obtain ⟨A6, c6, rfl, hsl⟩ := own_slA (ok := Cl.ok) clC_two hown huL HLK.out
    have HO6 := Lib.hid hown
    have HS6 := Lib.hid hsl
    clear hk6 hown hL hLL huL hsl
    by_cases h10 : uL = 10
    · subst h10
      go_wp2_with fail
      go_ret2
      exact ⟨.inr (.inl ⟨HMO.out, by rw [HL.out]; exact HUL.out, rfl⟩), K0.out.trans K6.out⟩
    · have hlt : uL < 10 := by omega
      have h1 : ((uL : Int) == 10) = false := by simp; omega
      have HCH : RowKit.Hid (chE ms fs day found (allL cls on 0) = 0) := Lib.hid (mo_ch HMO.out (by rw [HL.out, HUL.out]; exact hlt) ⟨by omega, by omega⟩)
      have HAL : RowKit.Hid (allL cls on 0 = L ++ [⟨on, 0⟩]) := Lib.hid (by unfold allL; rw [HL.out])
      have SC : RowKit.Hid (∀ W, Kept W0 W → (fun W => W.cell? ⟨w.heap.size, 0, none⟩ = some (.slice A n c) ∧ W.cell? ⟨w.heap.size, 1, none⟩ = some (.slice B m d) ∧ W.cell? ⟨w.heap.size + 1, 0, none⟩ = some (.int .i64 (on : Int)) ∧ Kept W0 W) W) := Lib.hid (fun W hW => ⟨(R0.out.kept hW 0 _ rfl).1, (R0.out.kept hW 1 _ rfl).1, (RO.out.kept hW 0 _ rfl).1, hW⟩)
      obtain ⟨i4, hi4, hz4a, hz4b, hz4c⟩ := info_parts info94x
      have hi : (Tryz.prog.info? 153).map (·.size) = some 43 := by kernel_rfl
      have HLT := Lib.hid hlt
      have HO7 : RowKit.Hid (w6.ownsRow W0.heap.size 94 2 (.slice A6 uL c6) uL (L.flatMap clC)) := Lib.hid (own_base HO6.out K4.out.size)
      obtain ⟨AL, hAL⟩ : ∃ AL, allL cls (on : Int) 0 = AL := ⟨_, rfl⟩
      rw [hAL] at HCH HAL
      have HAD := Lib.hid hAL
      obtain ⟨fits, hfits⟩ : ∃ x, fitsN ms fs day found AL = x := ⟨_, rfl⟩
      obtain ⟨cl, hclx⟩ : ∃ x, clN AL = x := ⟨_, rfl⟩
      obtain ⟨wt, hwt⟩ : ∃ x, wtL AL = x := ⟨_, rfl⟩
      obtain ⟨_, _, _, e4'⟩ := fstE_four HCH.out
      obtain ⟨_, c2', c3'⟩ := cl_ok e4'
      have hw := wtL_len AL
      have hwb := wtL_bd c3' (fun x hx => (claim_bd (c2' x hx)).1) (fun x hx => (claim_bd (c2' x hx)).2)
      have h41 := clN_41 c2'
      have hc0 := clN_0 c2'
      have hwo : wc cl wt on = 0 := by
        rw [← hclx, ← hwt]
        exact wc_at c3' (fun x hx => (claim_bd (c2' x hx)).1) (x := ⟨(on : Int), 0⟩) (by rw [HAL.out]; simp)
      rw [hwt] at hw hwb
      rw [hclx] at h41 hc0
      have HFS := Lib.hid hfits
      have HCX := Lib.hid hclx
      have HWT := Lib.hid hwt
      have HWB := Lib.hid hwb
      have HWO := Lib.hid hwo
      have H114 : RowKit.Hid (∀ g d9 W, Kept W0 W → W.ownsRow W0.heap.size 94 2 (.slice (some ⟨g, 0, none⟩) (uL + 1) d9) (uL + 1) (L.flatMap clC ++ [.int .i64 (on : Int), .int .i64 0]) → Calls Tryz.prog 114 #[.agg #[.slice A n c, .slice B m d], .int .i64 day, .slice C p q, .slice (some ⟨g, 0, none⟩) (uL + 1) d9] W fun e w' => ∃ F cF fb fo, e = .returned (.agg (hrL F p cF cl wt).toArray) ∧ FitR w' F p cF fb fo fits ∧ (0 < p → W.heap.size ≤ fb) ∧ Kept W w') := Lib.hid (fun g d9 W hW ho => by
        have h := hear_any A B C (some ⟨g, 0, none⟩) n c m d p q (uL + 1) d9 ms fs day found AL W (HS.out.kept hW) (HFO.out.kept hW) (own_slB (enc := clC) (ok := Cl.ok) (xs := AL) clC_two (by rw [HAL.out, List.flatMap_append]; exact ho) (by rw [HAL.out, List.length_append, HUL.out]; rfl) (fun z hz => by
          rw [HAL.out] at hz
          rcases List.mem_append.1 hz with h | h
          · exact HLK.out z h
          · simp at h
            subst h
            have := HO2.out
            exact ⟨by unfold i64; dsimp only; omega, by unfold i64; dsimp only; omega⟩)) HCH.out
        rw [hclx, hwt] at h
        exact h.mono fun e w' h => by
          rw [← hfits]
          unfold fitsN
          rw [hclx]
          exact h)
      clear hAL hfits hclx hwt hwb hwo e4' c2' c3'
      go_upto_region 7 with (fail)
      go_cut [14] (fun s14 wx => ∃ H F cF fb fo, s14 = .pointer (some ⟨H, 0, none⟩) ∧ RowC wx H (hrL F p cF cl wt) ∧ FitR wx F p cF fb fo fits ∧ W0.heap.size ≤ H ∧ Kept W0 wx)
      case first =>
        obtain ⟨Wd, hWd⟩ : ∃ Wd, Wd = w6.drew := ⟨_, rfl⟩
        have HKd : RowKit.Hid (Kept W0 Wd) := Lib.hid (by rw [hWd]; exact K6.out.drew)
        have HOd : RowKit.Hid (Wd.ownsRow W0.heap.size 94 2 (.slice A6 uL c6) uL (L.flatMap clC)) := Lib.hid (by rw [hWd]; exact own_kept HO7.out (Kept.refl _).drew)
        refine wp_region_held_drew (S := fun W => W.cell? ⟨w.heap.size, 0, none⟩ = some (.slice A n c) ∧ W.cell? ⟨w.heap.size, 1, none⟩ = some (.slice B m d) ∧ W.cell? ⟨w.heap.size + 1, 0, none⟩ = some (.int .i64 (on : Int)) ∧ Kept W0 W) (by kernel_rfl) (SC.out _ K6.out.drew) (fun hHeld => ?_)
        rw [← hWd] at hHeld ⊢
        clear hWd
        refine take_at (i := 0) (d := some 42) (v := ?_) rfl rfl (by kernel_rfl) (by kernel_rfl) (by kernel_rfl) (fun _ _ _ h => h) (Or.inl ⟨by rfl, ?_⟩) hHeld ?_
        rotate_left
        · intro w hSw
          try dsimp only at hSw
          go_simp
          try (with_reducible rfl)
        try simp only [Act.put, List.setIfInBounds_toArray, List.set_cons_zero, List.set_cons_succ]
        refine take_at (i := 1) (d := some 43) (v := ?_) rfl rfl (by kernel_rfl) (by kernel_rfl) (by kernel_rfl) (fun _ _ _ h => h) (Or.inl ⟨by rfl, ?_⟩) hHeld ?_
        rotate_left
        · intro w hSw
          try dsimp only at hSw
          go_simp
          try (with_reducible rfl)
        try simp only [Act.put, List.setIfInBounds_toArray, List.set_cons_zero, List.set_cons_succ]
        refine take_at (i := 2) (d := some 44) (v := ?_) rfl rfl (by kernel_rfl) (by kernel_rfl) (by kernel_rfl) (fun _ _ _ h => h) (Or.inl ⟨by rfl, ?_⟩) hHeld ?_
        rotate_left
        · intro w hSw
          try dsimp only at hSw
          go_simp
          try (with_reducible rfl)
        try simp only [Act.put, List.setIfInBounds_toArray, List.set_cons_zero, List.set_cons_succ]
        refine take_at (i := 3) (d := some 45) (v := ?_) rfl rfl (by kernel_rfl) (by kernel_rfl) (by kernel_rfl) (fun _ _ _ h => h) (Or.inl ⟨by rfl, ?_⟩) hHeld ?_
        rotate_left
        · intro w hSw
          try dsimp only at hSw
          go_simp
          try (with_reducible rfl)
        try simp only [Act.put, List.setIfInBounds_toArray, List.set_cons_zero, List.set_cons_succ]
        refine take_at (i := 4) (d := some 46) (v := ?_) rfl rfl (by kernel_rfl) (by kernel_rfl) (by kernel_rfl) (fun _ _ _ h => h) (Or.inl ⟨by rfl, ?_⟩) hHeld ?_
        rotate_left
        · intro w hSw
          try dsimp only at hSw
          go_simp
          try (with_reducible rfl)
        try simp only [Act.put, List.setIfInBounds_toArray, List.set_cons_zero, List.set_cons_succ]
        refine take_at (i := 5) (d := some 47) (v := ?_) rfl rfl (by kernel_rfl) (by kernel_rfl) (by kernel_rfl) (fun _ _ _ h => h) (Or.inl ⟨by rfl, ?_⟩) hHeld ?_
        rotate_left
        · intro w hSw
          try dsimp only at hSw
          go_simp
          try (with_reducible rfl)
        try simp only [Act.put, List.setIfInBounds_toArray, List.set_cons_zero, List.set_cons_succ]
        refine wpAnyH_ready (rs := [6, 9]) (by kernel_rfl) (by simp) ?_
        refine AllReadyH.cons rfl (fun K hK => ?_) ?_
        · rw [if_pos (by rfl)]
          go_simp
          obtain ⟨V1, hWn⟩ : ∃ V1, V1 = Wd.alloc (.cells #[.int .i64 (on : Int), .int .i64 0] 94) := ⟨_, rfl⟩
          rw [← hWn]
          have kn : Kept Wd V1 := by rw [hWn]; exact (Kept.refl _).alloc _
          have HK_1 := Lib.hid (HKd.out.trans kn)
          have hge := HKd.out.size
          have Ho_1 := Lib.hid (own_kept HOd.out kn)
          have Hn_1 : RowKit.Hid (RowC V1 Wd.heap.size [.int .i64 (on : Int), .int .i64 0]) := Lib.hid (by rw [hWn]; exact RowC.new Wd [.int .i64 (on : Int), .int .i64 0] 94)
          refine hK.out _ _ (SC.out _ HK_1.out) (fun hHeld => ?_)
          clear hK K hWn kn hge
          try simp only [Act.put, List.setIfInBounds_toArray, List.set_cons_zero, List.set_cons_succ]
          refine wpAnyH_ready (rs := [7, 9]) (by kernel_rfl) (by simp) ?_
          refine AllReadyH.cons rfl (fun K hK => ?_) ?_
          · refine step_append_lies _ rfl (.tmp 45) (.tmp 48) 70 rfl W0.heap.size 94 i4 _ 2 16 Tryz.underlying70 hi4 hz4a hz4b hz4c rfl (by decide) (.slice A6 uL c6) uL (L.flatMap clC) rfl Ho_1.out ⟨Wd.heap.size, 0, none⟩ 1 1 [.int .i64 (on : Int), .int .i64 0] rfl rfl (fun j u hu => by rw [addr_add, Nat.zero_add]; exact (Hn_1.out j u hu).1) (fun u hu => by simp at hu; rcases hu with hu | hu <;> subst hu <;> rfl) (by decide) (by have := HLT.out; unfold maxLen; omega) (by have := HLT.out; omega) HK_1.out.size _ rfl ?_
            intro g2 d2 V2 hown hgrow hg2 hlt9
            have HK_2 := Lib.hid (HK_1.out.grown hgrow (fun q hq => (own_ge Ho_1.out hq)))
            have Ho_2 := Lib.hid hown
            refine hK.out _ _ (SC.out _ HK_2.out) (fun hHeld => ?_)
            clear hK K hown hgrow hg2 hlt9
            try simp only [Act.put, List.setIfInBounds_toArray, List.set_cons_zero, List.set_cons_succ]
            refine wpAnyH_ready (rs := [8, 9]) (by kernel_rfl) (by simp) ?_
            refine AllReadyH.cons rfl (fun K hK => ?_) ?_
            · rw [if_pos (by rfl)]
              go_simp
              refine (H114.out _ _ _ HK_2.out Ho_2.out).mono ?_
              rintro e V3 ⟨F3, cF3, fb3, fo3, rfl, hft, hfb, hk⟩
              have HK_3 := Lib.hid (HK_2.out.trans hk)
              have Hf_3 := Lib.hid hft
              refine hK.out _ _ (SC.out _ HK_3.out) (fun hHeld => ?_)
              clear hK K hft hfb hk
              try simp only [Act.put, List.setIfInBounds_toArray, List.set_cons_zero, List.set_cons_succ]
              refine wpAnyH_ready (rs := [9]) (by kernel_rfl) (by simp) ?_
              refine AllReadyH.cons rfl (fun K hK => ?_) AllReadyH.nil
              rw [if_pos (by rfl)]
              go_simp
              obtain ⟨V4, hWn⟩ : ∃ V4, V4 = V3.alloc (.cells #[.slice none 0 0, .int .u64 0, .int .i64 0, .int .i64 0, .int .i64 0, .int .i64 0, .int .i64 0, .int .i64 0, .int .i64 0, .int .i64 0, .int .i64 0, .int .i64 0, .int .i64 0, .int .i64 0, .int .i64 0, .int .i64 0, .int .i64 0, .int .i64 0, .int .i64 0, .int .i64 0, .int .i64 0, .int .i64 0, .int .i64 0, .int .i64 0, .int .i64 0, .int .i64 0, .int .i64 0, .int .i64 0, .int .i64 0, .int .i64 0, .int .i64 0, .int .i64 0, .int .i64 0, .int .i64 0, .int .i64 0, .int .i64 0, .int .i64 0, .int .i64 0, .int .i64 0, .int .i64 0, .int .i64 0, .int .i64 0, .int .i64 0] 153) := ⟨_, rfl⟩
              rw [← hWn]
              have kn : Kept V3 V4 := by rw [hWn]; exact (Kept.refl _).alloc _
              have HK_4 := Lib.hid (HK_3.out.trans kn)
              have hge := HK_3.out.size
              have Hf_4 := Lib.hid (Hf_3.out.kept kn)
              have Hz_4 : RowKit.Hid (V4.heap[V3.heap.size]? = some (.cells zero43.toArray 153 (0, 0))) := Lib.hid (by rw [hWn]; exact heap_alloc_new V3 _)
              have Hg_4 : RowKit.Hid (W0.heap.size ≤ V3.heap.size) := Lib.hid hge
              have Hd_4 : RowKit.Hid True := Lib.hid trivial
              have He_4 : RowKit.Hid (0 < p → fb3 ≠ V3.heap.size) := Lib.hid (fun _ e => by have := Hf_3.out.lt; omega)
              refine hK.out _ _ (SC.out _ HK_4.out) (fun hHeld => ?_)
              clear hK K hWn kn hge
              try simp only [Act.put, List.setIfInBounds_toArray, List.set_cons_zero, List.set_cons_succ]
              refine wpAnyH_ready (rs := [10]) (by kernel_rfl) (by simp) ?_
              refine AllReadyH.cons rfl (fun K hK => ?_) AllReadyH.nil
              rw [if_pos (by rfl)]
              have kz : Kept W0 (V4.setRow V3.heap.size (hrL F3 p cF3 cl wt).toArray) := HK_4.out.setRow Hg_4.out _
              refine wp_store_row 153 (.tmp 14) (.tmp 50) rfl V3.heap.size (hrL F3 p cF3 cl wt).toArray rfl rfl 153 zero43.toArray Hz_4.out (by rw [hi]; simp [hrL, hw]) (by simp [hrL, hw, zero43]) (by simp [hrL, Value.oneCell']) ?_
              refine hK.out _ _ (SC.out _ kz) (fun hHeld => ?_)
              clear hK K
              try simp only [Act.put, List.setIfInBounds_toArray, List.set_cons_zero, List.set_cons_succ]
              refine wpAnyH_done (by kernel_rfl) ?_ _
              go_wp2
              go_meet
              exact ⟨V3.heap.size, F3, cF3, fb3, fo3, rfl, hrL_row Hz_4.out rfl, fitR_setRow Hf_4.out He_4.out, Hg_4.out, kz⟩
            refine AllReadyH.cons rfl (fun K hK => ?_) AllReadyH.nil
            rw [if_pos (by rfl)]
            go_simp
            obtain ⟨V5, hWn⟩ : ∃ V5, V5 = V2.alloc (.cells #[.slice none 0 0, .int .u64 0, .int .i64 0, .int .i64 0, .int .i64 0, .int .i64 0, .int .i64 0, .int .i64 0, .int .i64 0, .int .i64 0, .int .i64 0, .int .i64 0, .int .i64 0, .int .i64 0, .int .i64 0, .int .i64 0, .int .i64 0, .int .i64 0, .int .i64 0, .int .i64 0, .int .i64 0, .int .i64 0, .int .i64 0, .int .i64 0, .int .i64 0, .int .i64 0, .int .i64 0, .int .i64 0, .int .i64 0, .int .i64 0, .int .i64 0, .int .i64 0, .int .i64 0, .int .i64 0, .int .i64 0, .int .i64 0, .int .i64 0, .int .i64 0, .int .i64 0, .int .i64 0, .int .i64 0, .int .i64 0, .int .i64 0] 153) := ⟨_, rfl⟩
            rw [← hWn]
            have kn : Kept V2 V5 := by rw [hWn]; exact (Kept.refl _).alloc _
            have HK_5 := Lib.hid (HK_2.out.trans kn)
            have hge := HK_2.out.size
            have Ho_5 := Lib.hid (own_kept Ho_2.out kn)
            have Hz_5 : RowKit.Hid (V5.heap[V2.heap.size]? = some (.cells zero43.toArray 153 (0, 0))) := Lib.hid (by rw [hWn]; exact heap_alloc_new V2 _)
            have Hg_5 : RowKit.Hid (W0.heap.size ≤ V2.heap.size) := Lib.hid hge
            have Hd_5 : RowKit.Hid True := Lib.hid trivial
            refine hK.out _ _ (SC.out _ HK_5.out) (fun hHeld => ?_)
            clear hK K hWn kn hge
            try simp only [Act.put, List.setIfInBounds_toArray, List.set_cons_zero, List.set_cons_succ]
            refine wpAnyH_ready (rs := [8]) (by kernel_rfl) (by simp) ?_
            refine AllReadyH.cons rfl (fun K hK => ?_) AllReadyH.nil
            rw [if_pos (by rfl)]
            go_simp
            refine (H114.out _ _ _ HK_5.out Ho_5.out).mono ?_
            rintro e V6 ⟨F6, cF6, fb6, fo6, rfl, hft, hfb, hk⟩
            have HK_6 := Lib.hid (HK_5.out.trans hk)
            have Hf_6 := Lib.hid hft
            have Hz_6 := Lib.hid ((hk.block V2.heap.size (show V2.heap.size < _ from (Array.getElem?_eq_some_iff.1 Hz_5.out).1)).trans Hz_5.out)
            have He_6 : RowKit.Hid (0 < p → fb6 ≠ V2.heap.size) := Lib.hid (fun h0 e => by have h1 := hfb h0; have h2 := (show V2.heap.size < _ from (Array.getElem?_eq_some_iff.1 Hz_5.out).1); omega)
            refine hK.out _ _ (SC.out _ HK_6.out) (fun hHeld => ?_)
            clear hK K hft hfb hk
            try simp only [Act.put, List.setIfInBounds_toArray, List.set_cons_zero, List.set_cons_succ]
            refine wpAnyH_ready (rs := [10]) (by kernel_rfl) (by simp) ?_
            refine AllReadyH.cons rfl (fun K hK => ?_) AllReadyH.nil
            rw [if_pos (by rfl)]
            have kz : Kept W0 (V6.setRow V2.heap.size (hrL F6 p cF6 cl wt).toArray) := HK_6.out.setRow Hg_5.out _
            refine wp_store_row 153 (.tmp 14) (.tmp 50) rfl V2.heap.size (hrL F6 p cF6 cl wt).toArray rfl rfl 153 zero43.toArray Hz_6.out (by rw [hi]; simp [hrL, hw]) (by simp [hrL, hw, zero43]) (by simp [hrL, Value.oneCell']) ?_
            refine hK.out _ _ (SC.out _ kz) (fun hHeld => ?_)
            clear hK K
            try simp only [Act.put, List.setIfInBounds_toArray, List.set_cons_zero, List.set_cons_succ]
            refine wpAnyH_done (by kernel_rfl) ?_ _
            go_wp2
            go_meet
            exact ⟨V2.heap.size, F6, cF6, fb6, fo6, rfl, hrL_row Hz_6.out rfl, fitR_setRow Hf_6.out He_6.out, Hg_5.out, kz⟩
          refine AllReadyH.cons rfl (fun K hK => ?_) AllReadyH.nil
          rw [if_pos (by rfl)]
          go_simp
          obtain ⟨V7, hWn⟩ : ∃ V7, V7 = V1.alloc (.cells #[.slice none 0 0, .int .u64 0, .int .i64 0, .int .i64 0, .int .i64 0, .int .i64 0, .int .i64 0, .int .i64 0, .int .i64 0, .int .i64 0, .int .i64 0, .int .i64 0, .int .i64 0, .int .i64 0, .int .i64 0, .int .i64 0, .int .i64 0, .int .i64 0, .int .i64 0, .int .i64 0, .int .i64 0, .int .i64 0, .int .i64 0, .int .i64 0, .int .i64 0, .int .i64 0, .int .i64 0, .int .i64 0, .int .i64 0, .int .i64 0, .int .i64 0, .int .i64 0, .int .i64 0, .int .i64 0, .int .i64 0, .int .i64 0, .int .i64 0, .int .i64 0, .int .i64 0, .int .i64 0, .int .i64 0, .int .i64 0, .int .i64 0] 153) := ⟨_, rfl⟩
          rw [← hWn]
          have kn : Kept V1 V7 := by rw [hWn]; exact (Kept.refl _).alloc _
          have HK_7 := Lib.hid (HK_1.out.trans kn)
          have hge := HK_1.out.size
          have Ho_7 := Lib.hid (own_kept Ho_1.out kn)
          have Hn_7 := Lib.hid (Hn_1.out.kept kn)
          have Hz_7 : RowKit.Hid (V7.heap[V1.heap.size]? = some (.cells zero43.toArray 153 (0, 0))) := Lib.hid (by rw [hWn]; exact heap_alloc_new V1 _)
          have Hg_7 : RowKit.Hid (W0.heap.size ≤ V1.heap.size) := Lib.hid hge
          have Hd_7 : RowKit.Hid ((Value.slice A6 uL c6).ownBlock ≠ some V1.heap.size) := Lib.hid (fun e => absurd (own_lt Ho_1.out e) (Nat.lt_irrefl _))
          refine hK.out _ _ (SC.out _ HK_7.out) (fun hHeld => ?_)
          clear hK K hWn kn hge
          try simp only [Act.put, List.setIfInBounds_toArray, List.set_cons_zero, List.set_cons_succ]
          refine wpAnyH_ready (rs := [7]) (by kernel_rfl) (by simp) ?_
          refine AllReadyH.cons rfl (fun K hK => ?_) AllReadyH.nil
          refine step_append_lies _ rfl (.tmp 45) (.tmp 48) 70 rfl W0.heap.size 94 i4 _ 2 16 Tryz.underlying70 hi4 hz4a hz4b hz4c rfl (by decide) (.slice A6 uL c6) uL (L.flatMap clC) rfl Ho_7.out ⟨Wd.heap.size, 0, none⟩ 1 1 [.int .i64 (on : Int), .int .i64 0] rfl rfl (fun j u hu => by rw [addr_add, Nat.zero_add]; exact (Hn_7.out j u hu).1) (fun u hu => by simp at hu; rcases hu with hu | hu <;> subst hu <;> rfl) (by decide) (by have := HLT.out; unfold maxLen; omega) (by have := HLT.out; omega) HK_7.out.size _ rfl ?_
          intro g8 d8 V8 hown hgrow hg2 hlt9
          have HK_8 := Lib.hid (HK_7.out.grown hgrow (fun q hq => (own_ge Ho_7.out hq)))
          have Hz_8 := Lib.hid ((hgrow.block V1.heap.size (show V1.heap.size < _ from (Array.getElem?_eq_some_iff.1 Hz_7.out).1) (fun e => Hd_7.out e.symm)).trans Hz_7.out)
          have Ho_8 := Lib.hid hown
          refine hK.out _ _ (SC.out _ HK_8.out) (fun hHeld => ?_)
          clear hK K hown hgrow hg2 hlt9
          try simp only [Act.put, List.setIfInBounds_toArray, List.set_cons_zero, List.set_cons_succ]
          refine wpAnyH_ready (rs := [8]) (by kernel_rfl) (by simp) ?_
          refine AllReadyH.cons rfl (fun K hK => ?_) AllReadyH.nil
          rw [if_pos (by rfl)]
          go_simp
          refine (H114.out _ _ _ HK_8.out Ho_8.out).mono ?_
          rintro e V9 ⟨F9, cF9, fb9, fo9, rfl, hft, hfb, hk⟩
          have HK_9 := Lib.hid (HK_8.out.trans hk)
          have Hf_9 := Lib.hid hft
          have Hz_9 := Lib.hid ((hk.block V1.heap.size (show V1.heap.size < _ from (Array.getElem?_eq_some_iff.1 Hz_8.out).1)).trans Hz_8.out)
          have He_9 : RowKit.Hid (0 < p → fb9 ≠ V1.heap.size) := Lib.hid (fun h0 e => by have h1 := hfb h0; have h2 := (show V1.heap.size < _ from (Array.getElem?_eq_some_iff.1 Hz_8.out).1); omega)
          refine hK.out _ _ (SC.out _ HK_9.out) (fun hHeld => ?_)
          clear hK K hft hfb hk
          try simp only [Act.put, List.setIfInBounds_toArray, List.set_cons_zero, List.set_cons_succ]
          refine wpAnyH_ready (rs := [10]) (by kernel_rfl) (by simp) ?_
          refine AllReadyH.cons rfl (fun K hK => ?_) AllReadyH.nil
          rw [if_pos (by rfl)]
          have kz : Kept W0 (V9.setRow V1.heap.size (hrL F9 p cF9 cl wt).toArray) := HK_9.out.setRow Hg_7.out _
          refine wp_store_row 153 (.tmp 14) (.tmp 50) rfl V1.heap.size (hrL F9 p cF9 cl wt).toArray rfl rfl 153 zero43.toArray Hz_9.out (by rw [hi]; simp [hrL, hw]) (by simp [hrL, hw, zero43]) (by simp [hrL, Value.oneCell']) ?_
          refine hK.out _ _ (SC.out _ kz) (fun hHeld => ?_)
          clear hK K
          try simp only [Act.put, List.setIfInBounds_toArray, List.set_cons_zero, List.set_cons_succ]
          refine wpAnyH_done (by kernel_rfl) ?_ _
          go_wp2
          go_meet
          exact ⟨V1.heap.size, F9, cF9, fb9, fo9, rfl, hrL_row Hz_9.out rfl, fitR_setRow Hf_9.out He_9.out, Hg_7.out, kz⟩
        refine AllReadyH.cons rfl (fun K hK => ?_) AllReadyH.nil
        rw [if_pos (by rfl)]
        go_simp
        obtain ⟨V10, hWn⟩ : ∃ V10, V10 = Wd.alloc (.cells #[.slice none 0 0, .int .u64 0, .int .i64 0, .int .i64 0, .int .i64 0, .int .i64 0, .int .i64 0, .int .i64 0, .int .i64 0, .int .i64 0, .int .i64 0, .int .i64 0, .int .i64 0, .int .i64 0, .int .i64 0, .int .i64 0, .int .i64 0, .int .i64 0, .int .i64 0, .int .i64 0, .int .i64 0, .int .i64 0, .int .i64 0, .int .i64 0, .int .i64 0, .int .i64 0, .int .i64 0, .int .i64 0, .int .i64 0, .int .i64 0, .int .i64 0, .int .i64 0, .int .i64 0, .int .i64 0, .int .i64 0, .int .i64 0, .int .i64 0, .int .i64 0, .int .i64 0, .int .i64 0, .int .i64 0, .int .i64 0, .int .i64 0] 153) := ⟨_, rfl⟩
        rw [← hWn]
        have kn : Kept Wd V10 := by rw [hWn]; exact (Kept.refl _).alloc _
        have HK_10 := Lib.hid (HKd.out.trans kn)
        have hge := HKd.out.size
        have Ho_10 := Lib.hid (own_kept HOd.out kn)
        have Hz_10 : RowKit.Hid (V10.heap[Wd.heap.size]? = some (.cells zero43.toArray 153 (0, 0))) := Lib.hid (by rw [hWn]; exact heap_alloc_new Wd _)
        have Hg_10 : RowKit.Hid (W0.heap.size ≤ Wd.heap.size) := Lib.hid hge
        have Hd_10 : RowKit.Hid ((Value.slice A6 uL c6).ownBlock ≠ some Wd.heap.size) := Lib.hid (fun e => absurd (own_lt HOd.out e) (Nat.lt_irrefl _))
        refine hK.out _ _ (SC.out _ HK_10.out) (fun hHeld => ?_)
        clear hK K hWn kn hge
        try simp only [Act.put, List.setIfInBounds_toArray, List.set_cons_zero, List.set_cons_succ]
        refine wpAnyH_ready (rs := [6]) (by kernel_rfl) (by simp) ?_
        refine AllReadyH.cons rfl (fun K hK => ?_) AllReadyH.nil
        rw [if_pos (by rfl)]
        go_simp
        obtain ⟨V11, hWn⟩ : ∃ V11, V11 = V10.alloc (.cells #[.int .i64 (on : Int), .int .i64 0] 94) := ⟨_, rfl⟩
        rw [← hWn]
        have kn : Kept V10 V11 := by rw [hWn]; exact (Kept.refl _).alloc _
        have HK_11 := Lib.hid (HK_10.out.trans kn)
        have hge := HK_10.out.size
        have Hz_11 := Lib.hid ((kn.block Wd.heap.size (show Wd.heap.size < _ from (Array.getElem?_eq_some_iff.1 Hz_10.out).1)).trans Hz_10.out)
        have Ho_11 := Lib.hid (own_kept Ho_10.out kn)
        have Hn_11 : RowKit.Hid (RowC V11 V10.heap.size [.int .i64 (on : Int), .int .i64 0]) := Lib.hid (by rw [hWn]; exact RowC.new V10 [.int .i64 (on : Int), .int .i64 0] 94)
        refine hK.out _ _ (SC.out _ HK_11.out) (fun hHeld => ?_)
        clear hK K hWn kn hge
        try simp only [Act.put, List.setIfInBounds_toArray, List.set_cons_zero, List.set_cons_succ]
        refine wpAnyH_ready (rs := [7]) (by kernel_rfl) (by simp) ?_
        refine AllReadyH.cons rfl (fun K hK => ?_) AllReadyH.nil
        refine step_append_lies _ rfl (.tmp 45) (.tmp 48) 70 rfl W0.heap.size 94 i4 _ 2 16 Tryz.underlying70 hi4 hz4a hz4b hz4c rfl (by decide) (.slice A6 uL c6) uL (L.flatMap clC) rfl Ho_11.out ⟨V10.heap.size, 0, none⟩ 1 1 [.int .i64 (on : Int), .int .i64 0] rfl rfl (fun j u hu => by rw [addr_add, Nat.zero_add]; exact (Hn_11.out j u hu).1) (fun u hu => by simp at hu; rcases hu with hu | hu <;> subst hu <;> rfl) (by decide) (by have := HLT.out; unfold maxLen; omega) (by have := HLT.out; omega) HK_11.out.size _ rfl ?_
        intro g12 d12 V12 hown hgrow hg2 hlt9
        have HK_12 := Lib.hid (HK_11.out.grown hgrow (fun q hq => (own_ge Ho_11.out hq)))
        have Hz_12 := Lib.hid ((hgrow.block Wd.heap.size (show Wd.heap.size < _ from (Array.getElem?_eq_some_iff.1 Hz_11.out).1) (fun e => Hd_10.out e.symm)).trans Hz_11.out)
        have Ho_12 := Lib.hid hown
        refine hK.out _ _ (SC.out _ HK_12.out) (fun hHeld => ?_)
        clear hK K hown hgrow hg2 hlt9
        try simp only [Act.put, List.setIfInBounds_toArray, List.set_cons_zero, List.set_cons_succ]
        refine wpAnyH_ready (rs := [8]) (by kernel_rfl) (by simp) ?_
        refine AllReadyH.cons rfl (fun K hK => ?_) AllReadyH.nil
        rw [if_pos (by rfl)]
        go_simp
        refine (H114.out _ _ _ HK_12.out Ho_12.out).mono ?_
        rintro e V13 ⟨F13, cF13, fb13, fo13, rfl, hft, hfb, hk⟩
        have HK_13 := Lib.hid (HK_12.out.trans hk)
        have Hf_13 := Lib.hid hft
        have Hz_13 := Lib.hid ((hk.block Wd.heap.size (show Wd.heap.size < _ from (Array.getElem?_eq_some_iff.1 Hz_12.out).1)).trans Hz_12.out)
        have He_13 : RowKit.Hid (0 < p → fb13 ≠ Wd.heap.size) := Lib.hid (fun h0 e => by have h1 := hfb h0; have h2 := (show Wd.heap.size < _ from (Array.getElem?_eq_some_iff.1 Hz_12.out).1); omega)
        refine hK.out _ _ (SC.out _ HK_13.out) (fun hHeld => ?_)
        clear hK K hft hfb hk
        try simp only [Act.put, List.setIfInBounds_toArray, List.set_cons_zero, List.set_cons_succ]
        refine wpAnyH_ready (rs := [10]) (by kernel_rfl) (by simp) ?_
        refine AllReadyH.cons rfl (fun K hK => ?_) AllReadyH.nil
        rw [if_pos (by rfl)]
        have kz : Kept W0 (V13.setRow Wd.heap.size (hrL F13 p cF13 cl wt).toArray) := HK_13.out.setRow Hg_10.out _
        refine wp_store_row 153 (.tmp 14) (.tmp 50) rfl Wd.heap.size (hrL F13 p cF13 cl wt).toArray rfl rfl 153 zero43.toArray Hz_13.out (by rw [hi]; simp [hrL, hw]) (by simp [hrL, hw, zero43]) (by simp [hrL, Value.oneCell']) ?_
        refine hK.out _ _ (SC.out _ kz) (fun hHeld => ?_)
        clear hK K
        try simp only [Act.put, List.setIfInBounds_toArray, List.set_cons_zero, List.set_cons_succ]
        refine wpAnyH_done (by kernel_rfl) ?_ _
        go_wp2
        go_meet
        exact ⟨Wd.heap.size, F13, cF13, fb13, fo13, rfl, hrL_row Hz_13.out rfl, fitR_setRow Hf_13.out He_13.out, Hg_10.out, kz⟩
      case rest =>
        obtain ⟨H, F, cF, fb, fo, rfl, hrow, hft, hge, hkc⟩ := hcut
        have HRH := Lib.hid hrow
        have HFT := Lib.hid hft
        have HGE := Lib.hid hge
        have HKC := Lib.hid hkc
        have HRG : RowKit.Hid (∀ W, Kept wc W → W.rangeAt H 0 (hrL F p cF cl wt)) := Lib.hid (fun W hW j v hv => by rw [Nat.zero_add]; exact (HRH.out.kept hW j v hv).1)
        have HSZ : RowKit.Hid ((Tryz.prog.info? 153).map (·.size) = some (hrL F p cF cl wt).length) := Lib.hid (by rw [hi]; simp [hrL, hw])
        have HM1 := Lib.hid (meet_any F p cF fb fo cl wt fits wc hft hw HWB.out h41 hc0 (HEV.out.kept hkc))
        clear hrow hft hge hkc
        have HG0 := Lib.hid (HRG.out wc (Kept.refl _))
        go_wp2_with (first | (refine wpList_load_mid rfl 153 (.tmp 14) rfl H 0 rfl (hrL F p cF cl wt) _ HG0.out Tryz.underlying153 rfl HSZ.out ?_) | fail)
        refine HM1.out.mono ?_
        rintro e w7 ⟨⟨hb, ow, rfl, hh, hmt, hle⟩ | ⟨rfl, hsh⟩, hk7⟩
        rotate_left
        · have HSH := Lib.hid hsh
          have HKE := Lib.hid (HKC.out.trans hk7)
          clear hsh hk7
          go_wp2_with fail
          go_ret2
          exact ⟨.inr (.inr ⟨HMO.out, by rw [HL.out, HUL.out]; exact HLT.out, by rw [HAD.out]; exact HCH.out, .inl ⟨rfl, by rw [HAD.out, HFS.out, HCX.out, HWT.out]; exact HSH.out⟩⟩), K0.out.trans HKE.out⟩
        have HH := Lib.hid hh
        have HMT := Lib.hid hmt
        have HLE := Lib.hid hle
        have K7 := Lib.hid (HKC.out.trans hk7)
        have HF7 := Lib.hid (HFT.out.kept hk7)
        have HR7 := Lib.hid (HRH.out.kept hk7)
        have HSZW := Lib.hid hk7.size
        clear hh hmt hle hk7 HM1 HG0
        go_wp2_with fail
        go_loopw [17] (fun i wr => ∃ (k : Nat) (ow' : List Int), k ≤ p ∧ i = .int .i64 (k : Int) ∧ HasR wr (some ⟨hb, 0, none⟩) p p hb 0 ow' ∧ SkV fits ow' ∧ (∀ q : Nat, 1 ≤ q → q ≤ 40 → q ≠ on → ((ow'.count (q : Int) : Nat) : Int) = Go.Proofs.YtologmoanaccpaaGreatDoor.wc cl wt q) ∧ ow'.count (on : Int) = k ∧ FitR wr F p cF fb fo fits ∧ RowC wr H (hrL F p cF cl wt) ∧ Kept W0 wr) (fun i _ => p + 1 - (intOf i).toNat)
        case atStart =>
          refine ⟨0, ow, by omega, by first | rfl | go_num, HH.out, HMT.out.1, fun q h1 h2 _ => HMT.out.2 q h1 h2, ?_, HF7.out, HR7.out, K7.out⟩
          have h := HMT.out.2 on HO1.out HO2.out
          rw [HWO.out] at h
          omega
        case round =>
          obtain ⟨k, ow', hkp, rfl, hh, hsv, hcq, hco, hft, hrw, hkr⟩ := hrel
          have HH2 := Lib.hid hh
          have HSV := Lib.hid hsv
          have HCQ := Lib.hid hcq
          have HCO := Lib.hid hco
          have HF2 := Lib.hid hft
          have HR2 := Lib.hid hrw
          have HKR := Lib.hid hkr
          have hne : hb ≠ fb := by have := HFT.out.lt; have := HLE.out; omega
          have hHb : H ≠ hb := by have := cell_lt (HRH.out 0 _ rfl).1; have := HLE.out; omega
          have hbw : W0.heap.size ≤ hb := by have := HKC.out.size; have := HLE.out; omega
          have HN1 := Lib.hid hne
          have HN2 := Lib.hid hHb
          have HG := Lib.hid (gain_any W0 wr F (some ⟨hb, 0, none⟩) p cF fb fo p hb 0 cl on wt fits ow' hkr hft hh hsv hne hbw HO1.out HO2.out)
          have HG0 : RowKit.Hid (wr.rangeAt H 0 (hrL F p cF cl wt)) := Lib.hid (fun j v hv => by rw [Nat.zero_add]; exact (HR2.out j v hv).1)
          have o0 := (RO.out.kept HKR.out 0 _ rfl).1
          have lo := cell_lt o0
          have HCNT : RowKit.Hid (k < p ∨ k = p) := Lib.hid (by omega)
          clear hh hsv hcq hco hft hrw hkr hne hHb hbw
          go_wp2_with (first | (refine wpList_load_mid rfl 153 (.tmp 14) rfl H 0 rfl (hrL F p cF cl wt) _ HG0.out Tryz.underlying153 rfl HSZ.out ?_) | fail)
          refine HG.out.mono ?_
          rintro e w8 ⟨ow2, r, rfl, hh, hsv, hk8, hblk, hsz, ht, hf⟩
          have HH3 := Lib.hid hh
          have HSV3 := Lib.hid hsv
          have HK8 := Lib.hid hk8
          have HR3 : RowKit.Hid (RowC w8 H (hrL F p cF cl wt)) := Lib.hid (rowc_heap (hblk H (cell_lt (HR2.out 0 _ rfl).1) HN2.out) HR2.out)
          have HF3 : RowKit.Hid (FitR w8 F p cF fb fo fits) := Lib.hid ⟨HF2.out.ln, HF2.out.sz, HF2.out.nc, HF2.out.cm, HF2.out.fs, HF2.out.fa, Nat.lt_of_lt_of_le HF2.out.lt hsz, fun i f h => (cell_heap (hblk fb HF2.out.lt (fun e => HN1.out e.symm))).trans (HF2.out.rf i f h)⟩
          cases r with
          | true =>
            obtain ⟨t1, t2⟩ := ht rfl
            have HT1 := Lib.hid t1
            have HT2 := Lib.hid t2
            have hlk : k + 1 ≤ p := by
              have h1 := List.count_le_length (a := (on : Int)) (l := ow2)
              rw [t2, HCO.out, hh.ln] at h1
              exact h1
            clear hh hsv hk8 hblk hsz ht hf t1 t2 o0 lo
            go_wp2_with fail
            go_roundw
            case rel => exact ⟨k + 1, ow2, hlk, by go_num, HH3.out, HSV3.out, fun q h1 h2 h3 => by rw [HT1.out (q : Int) (by omega) (by omega)]; exact HCQ.out q h1 h2 h3, by rw [HT2.out, HCO.out], HF3.out, HR3.out, HK8.out⟩
            case measure => simp [intOf]; omega
          | false =>
            obtain ⟨rfl, a, ha, hq⟩ := hf rfl
            have HA := Lib.hid ha
            have HQ := Lib.hid hq
            clear hh hsv hk8 hblk hsz ht hf ha hq o0 lo
            go_wp2_with fail
            go_ret2
            exact ⟨.inr (.inr ⟨HMO.out, by rw [HL.out, HUL.out]; exact HLT.out, by rw [HAD.out]; exact HCH.out, .inr ⟨k, rfl, by rw [HAD.out, HFS.out, HCX.out, HWT.out]; exact ⟨ow2, a, HSV3.out, HCQ.out, HCO.out, HA.out, HQ.out⟩⟩⟩), K0.out.trans HK8.out⟩
  · have h1 : (E == 0) = false := by simpa using h0
    have H0 := Lib.hid h0
    clear h0
    go_wp2_with fail
    go_ret2
    exact ⟨.inl ⟨by rw [HE.out]; exact H0.out, by rw [HE.out]; rfl⟩, K0.out.trans K4.out⟩
end Go.Proofs.YtologmoanaccpaaGreatDoor

namespace Go.Proofs.YtologmoanaccpaaGreatDoor
set_option linter.all false
open Go.RowKit Go.Shelf

def topL (cls : List Cl) (o k : Int) : List Cl := ⟨o, k⟩ :: othL cls o
theorem oth_wc {cls : List Cl} (hn : (cls.map Cl.own).Nodup) (hb : ∀ x ∈ cls, 1 ≤ x.own ∧ x.own ≤ 40) {l : List Cl} (hl : (l.map Cl.own).Nodup) (hlb : ∀ x ∈ l, 1 ≤ x.own ∧ x.own ≤ 40) {o : Int} (hsub : ∀ x : Cl, x.own ≠ o → (x ∈ l ↔ x ∈ cls)) {q : Nat} (hq : (q : Int) ≠ o) : wc (clN l) (wtL l) q = wc (clN cls) (wtL cls) q := by
  by_cases h : ∃ x ∈ cls, x.own.toNat = q
  · obtain ⟨x, hx, rfl⟩ := h
    have hne : x.own ≠ o := fun e => hq (by have := hb x hx; omega)
    rw [wc_at hn hb hx, wc_at hl hlb ((hsub x hne).2 hx)]
  · rw [wc_none (fun x hx e => h ⟨x, hx, e⟩), wc_none (fun x hx e => by
      by_cases ho : x.own = o
      · have := hlb x hx
        exact hq (by omega)
      · exact h ⟨x, (hsub x ho).1 hx, e⟩)]
theorem mem_oth {cls : List Cl} {o : Int} {x : Cl} (h : x.own ≠ o) : x ∈ othL cls o ↔ x ∈ cls := by
  unfold othL
  rw [List.mem_filter]
  exact ⟨fun h => h.1, fun h1 => ⟨h1, by simpa using h⟩⟩
theorem mem_all {cls : List Cl} {o k : Int} {x : Cl} (h : x.own ≠ o) : x ∈ allL cls o k ↔ x ∈ cls := by
  unfold allL
  rw [List.mem_append, mem_oth h, List.mem_singleton]
  exact ⟨fun h1 => h1.resolve_right fun e => h (by rw [e]), .inl⟩
theorem mem_top {cls : List Cl} {o k : Int} {x : Cl} (h : x.own ≠ o) : x ∈ topL cls o k ↔ x ∈ cls := by
  unfold topL
  rw [List.mem_cons, mem_oth h]
  exact ⟨fun h1 => h1.resolve_left fun e => h (by rw [e]), .inr⟩
theorem top_nodup {cls : List Cl} (o k : Int) (h : (cls.map Cl.own).Nodup) : ((topL cls o k).map Cl.own).Nodup := by
  unfold topL
  rw [List.map_cons, List.nodup_cons]
  refine ⟨fun hx => ?_, oth_nodup o h⟩
  obtain ⟨x, hx, e⟩ := List.mem_map.1 hx
  exact (oth_mem hx).2 e
theorem top_cl (cls : List Cl) (o k k' : Int) : clN (topL cls o k) = clN (allL cls o k') := Nat.eq_of_testBit_eq fun i => by
  rw [clN_bit, clN_bit]
  unfold topL allL
  simp [Bool.or_comm]
theorem top_fits (ms : List Mk) (fs : List Fd) (day : Int) (found : List Sg) (cls : List Cl) (o k k' : Int) : fitsN ms fs day found (topL cls o k) = fitsN ms fs day found (allL cls o k') := by
  unfold fitsN
  rw [top_cl cls o k k']
theorem fits_at {ms : List Mk} {fs : List Fd} {day : Int} {found : List Sg} {cls : List Cl} {b f : Nat} (h : (fitsN ms fs day found cls)[b]? = some f) : ∃ s, found[b]? = some s ∧ f = ownD ms fs day s &&& clN cls := by
  unfold fitsN at h
  rw [List.getElem?_map] at h
  cases hs : found[b]? with
  | none => rw [hs] at h; cases h
  | some s => rw [hs] at h; cases h; exact ⟨s, rfl, rfl⟩
theorem skv_all {ms : List Mk} {fs : List Fd} {day o : Int} {found : List Sg} {cls : List Cl} {ow : List Int} (h : SkV (fitsN ms fs day found cls) ow) : SkV (fitsN ms fs day found (allL cls o 0)) ow := by
  refine ⟨by rw [h.1]; simp [fitsN], fun b x hx hn => ?_⟩
  obtain ⟨h1, h2, f, hf, hb⟩ := h.2 b x hx hn
  obtain ⟨s, hs, rfl⟩ := fits_at hf
  refine ⟨h1, h2, ownD ms fs day s &&& clN (allL cls o 0), by unfold fitsN; rw [List.getElem?_map, hs]; rfl, ?_⟩
  rw [Nat.testBit_and, Bool.and_eq_true] at hb ⊢
  refine ⟨hb.1, ?_⟩
  have h3 := hb.2
  rw [clN_bit, List.any_eq_true] at h3 ⊢
  obtain ⟨y, hy, e⟩ := h3
  by_cases ho : y.own = o
  · exact ⟨⟨o, 0⟩, by unfold allL; simp, by rw [← ho]; exact e⟩
  · exact ⟨y, (mem_all ho).2 hy, e⟩
theorem count_off (o : Int) {q : Int} (h0 : q ≠ 0) (ho : q ≠ o) : ∀ l : List Int, (l.map fun x => if x = o then 0 else x).count q = l.count q
  | [] => rfl
  | x :: l => by
    rw [List.map_cons, List.count_cons, List.count_cons, count_off o h0 ho l]
    by_cases e : x = o
    · rw [if_pos e]
      have h1 : ((0 : Int) == q) = false := by simpa using fun e => h0 e.symm
      have h2 : (x == q) = false := by simpa [e] using fun e => ho e.symm
      rw [h1, h2]
    · rw [if_neg e]
theorem count_own (o : Int) (h0 : o ≠ 0) : ∀ l : List Int, (l.map fun x => if x = o then 0 else x).count o = 0
  | [] => rfl
  | x :: l => by
    rw [List.map_cons, List.count_cons, count_own o h0 l]
    by_cases e : x = o
    · rw [if_pos e]
      have h1 : ((0 : Int) == o) = false := by simpa using fun e => h0 e.symm
      rw [h1]
      rfl
    · rw [if_neg e]
      have h1 : (x == o) = false := by simpa using e
      rw [h1]
      rfl
structure Cls (cls : List Cl) : Prop where
  hn : (cls.map Cl.own).Nodup
  hb : ∀ x ∈ cls, 1 ≤ x.own ∧ x.own ≤ 40
theorem Cls.all {cls : List Cl} (h : Cls cls) {o k : Int} (ho : 1 ≤ o ∧ o ≤ 40) : Cls (allL cls o k) := ⟨all_nodup o k h.hn, fun x hx => by
  unfold allL at hx
  rcases List.mem_append.1 hx with hx | hx
  · exact h.hb x (oth_mem hx).1
  · rw [List.mem_singleton] at hx
    subst hx
    exact ho⟩
theorem Cls.top {cls : List Cl} (h : Cls cls) {o k : Int} (ho : 1 ≤ o ∧ o ≤ 40) : Cls (topL cls o k) := ⟨top_nodup o k h.hn, fun x hx => by
  unfold topL at hx
  rcases List.mem_cons.1 hx with hx | hx
  · subst hx
    exact ho
  · exact h.hb x (oth_mem hx).1⟩
theorem wc_top {cls : List Cl} (h : Cls cls) {o : Nat} {k : Int} (h1 : 1 ≤ o) (h2 : o ≤ 40) : wc (clN (topL cls o k)) (wtL (topL cls o k)) o = k :=
  wc_at (h.top (by omega)).hn (h.top (by omega)).hb (x := ⟨(o : Int), k⟩) (by unfold topL; simp)
theorem wc_all0 {cls : List Cl} (h : Cls cls) {o : Nat} {k : Int} (h1 : 1 ≤ o) (h2 : o ≤ 40) : wc (clN (allL cls o k)) (wtL (allL cls o k)) o = k :=
  wc_at (h.all (by omega)).hn (h.all (by omega)).hb (x := ⟨(o : Int), k⟩) (by unfold allL; simp)
theorem wc_top_ne {cls : List Cl} (h : Cls cls) {o q : Nat} {k : Int} (h1 : 1 ≤ o) (h2 : o ≤ 40) (hq : q ≠ o) : wc (clN (topL cls o k)) (wtL (topL cls o k)) q = wc (clN cls) (wtL cls) q :=
  oth_wc h.hn h.hb (h.top (by omega)).hn (h.top (by omega)).hb (fun x hx => mem_top hx) (by omega)
theorem wc_all_ne {cls : List Cl} (h : Cls cls) {o q : Nat} {k : Int} (h1 : 1 ≤ o) (h2 : o ≤ 40) (hq : q ≠ o) : wc (clN (allL cls o k)) (wtL (allL cls o k)) q = wc (clN cls) (wtL cls) q :=
  oth_wc h.hn h.hb (h.all (by omega)).hn (h.all (by omega)).hb (fun x hx => mem_all hx) (by omega)
/-- without the claim of one owner what could be met can be met -/
theorem met_all {ms : List Mk} {fs : List Fd} {day : Int} {found : List Sg} {cls : List Cl} {ow : List Int} {o : Nat} (h : Cls cls) (h1 : 1 ≤ o) (h2 : o ≤ 40) (hm : MetA (fitsN ms fs day found cls) (clN cls) (wtL cls) ow) : ∃ ow', MetA (fitsN ms fs day found (allL cls o 0)) (clN (allL cls o 0)) (wtL (allL cls o 0)) ow' := by
  have hs := skv_all (o := (o : Int)) hm.1
  refine ⟨ow.map fun x => if x = (o : Int) then 0 else x, ⟨by rw [List.length_map]; exact hs.1, fun b x hx hn => ?_⟩, fun q h3 h4 => ?_⟩
  · rw [List.getElem?_map] at hx
    cases hy : ow[b]? with
    | none => rw [hy] at hx; cases hx
    | some y =>
      rw [hy] at hx
      have hx' : (if y = (o : Int) then 0 else y) = x := by simpa using hx
      by_cases e : y = (o : Int)
      · rw [if_pos e] at hx'
        exact absurd hx'.symm hn
      · rw [if_neg e] at hx'
        subst hx'
        exact hs.2 b y hy hn
  · by_cases hq : q = o
    · subst hq
      rw [count_own _ (by omega), wc_all0 h h1 h2]
      rfl
    · rw [count_off _ (by omega) (by omega), wc_all_ne h h1 h2 hq]
      exact hm.2 q h3 h4
theorem cnt_sp (ms : List Mk) (fs : List Fd) (day : Int) (o : Nat) : ∀ found : List Sg, (found.filter fun s => (ownD ms fs day s).testBit o).length ≤ cntN (sureB ms fs day o) found + cntN (perB ms fs day o) found
  | [] => Nat.zero_le _
  | s :: l => by
    have ih := cnt_sp ms fs day o l
    unfold cntN at ih ⊢
    rw [List.filter_cons, List.filter_cons, List.filter_cons]
    by_cases hs : sureB ms fs day o s = true
    · rw [if_pos hs]
      split <;> split <;> (try simp only [List.length_cons]) <;> omega
    · by_cases hb : (ownD ms fs day s).testBit o = true
      · have hp : perB ms fs day o s = true := by unfold perB; rw [hb, Bool.eq_false_iff.2 hs]; rfl
        rw [if_neg hs, if_pos hb, if_pos hp]
        simp only [List.length_cons]
        omega
      · rw [if_neg hb, if_neg hs]
        split <;> (try simp only [List.length_cons]) <;> omega
theorem count_sp {ms : List Mk} {fs : List Fd} {day : Int} {found : List Sg} {cls : List Cl} {ow : List Int} {o : Nat} (h1 : 1 ≤ o) (h : SkV (fitsN ms fs day found cls) ow) : ow.count (o : Int) ≤ cntN (sureB ms fs day o) found + cntN (perB ms fs day o) found := by
  refine Nat.le_trans ?_ (cnt_sp ms fs day o found)
  have e : ow.count (o : Int) = (ow.filter (fun x => x == (o : Int))).length := by
    unfold List.count
    rw [List.countP_eq_length_filter]
  have h2 := len_le (p := fun x => x == (o : Int)) (q := fun f => f.testBit o) h.1 (fun b x f hx hf hp => by
    have hxo : x = (o : Int) := by simpa using hp
    obtain ⟨_, _, f', hf', hb⟩ := h.2 b x hx (by omega)
    rw [hf] at hf'
    cases hf'
    rw [hxo] at hb
    exact hb)
  rw [e]
  refine Nat.le_trans h2 ?_
  unfold fitsN
  rw [List.filter_map, List.length_map]
  rw [← List.countP_eq_length_filter, ← List.countP_eq_length_filter]
  refine List.countP_mono_left ?_
  intro s _ hs
  simp only [Function.comp, Nat.testBit_and, Bool.and_eq_true] at hs
  exact hs.1
/-- what the search leaves is the most -/
theorem mst_max {fits : List Nat} {cl : Nat} {wt ow' : List Int} {o k : Nat} (h1 : 1 ≤ o) (h2 : o ≤ 40) (h : MstA fits cl wt o k) (hv : SkV fits ow') (hc : ∀ q : Nat, 1 ≤ q → q ≤ 40 → q ≠ o → wc cl wt q ≤ ((ow'.count (q : Int) : Nat) : Int)) : ow'.count (o : Int) ≤ k := by
  obtain ⟨ow, a, hs, hq, hk, ha, hb⟩ := h
  refine Nat.le_of_not_lt fun hlt => ?_
  have g1 := sq_count a ow hs.dom
  have g2 := sq_count a ow' hv.dom
  have g3 : (fits.filter (fitA a)).length ≤ (ow.filter (isA a)).length := len_ge hs.1 (fun b x f hx hf hp => by
    obtain ⟨q, hfq, haq⟩ := fitA_iff.1 hp
    obtain ⟨_, _, h3⟩ := hb q haq
    obtain ⟨x', hx', hn, hax⟩ := h3 b f hf hfq
    rw [hx] at hx'
    cases hx'
    unfold isA
    simp [hn, hax])
  have g4 : (ow'.filter (isA a)).length ≤ (fits.filter (fitA a)).length := len_le hv.1 (fun b x f hx hf hp => by
    unfold isA at hp
    rw [Bool.and_eq_true, decide_eq_true_eq] at hp
    obtain ⟨_, _, f', hf', hbit⟩ := hv.2 b x hx hp.1
    rw [hf] at hf'
    cases hf'
    exact fitA_of hbit hp.2)
  have g5 := sq_lt a (fun q => ((ow.count (q : Int) : Nat) : Int)) (fun q => ((ow'.count (q : Int) : Nat) : Int)) (fun q h3 h4 h5 => by
    by_cases e : q = o
    · subst e
      omega
    · rw [hq q h3 h4 e]
      exact hc q h3 h4 e) h1 h2 ha (by omega)
  rw [g1, g2] at g5
  omega
theorem mst_met {ms : List Mk} {fs : List Fd} {day : Int} {found : List Sg} {cls : List Cl} {o k : Nat} (hc : Cls cls) (h1 : 1 ≤ o) (h2 : o ≤ 40) (h : MstA (fitsN ms fs day found (allL cls o 0)) (clN (allL cls o 0)) (wtL (allL cls o 0)) o k) : ∃ ow, MetA (fitsN ms fs day found (topL cls o k)) (clN (topL cls o k)) (wtL (topL cls o k)) ow := by
  obtain ⟨ow, a, hs, hq, hk, _, _⟩ := h
  refine ⟨ow, by rw [top_fits ms fs day found cls o k 0]; exact hs, fun q h3 h4 => ?_⟩
  by_cases e : q = o
  · subst e
    rw [hk, wc_top hc h1 h2]
  · rw [hq q h3 h4 e, wc_top_ne hc h1 h2 e, wc_all_ne hc h1 h2 e]
theorem mst_no {ms : List Mk} {fs : List Fd} {day : Int} {found : List Sg} {cls : List Cl} {o k : Nat} (hc : Cls cls) (h1 : 1 ≤ o) (h2 : o ≤ 40) (h : MstA (fitsN ms fs day found (allL cls o 0)) (clN (allL cls o 0)) (wtL (allL cls o 0)) o k) {ow : List Int} (hm : MetA (fitsN ms fs day found (topL cls o ((k : Int) + 1))) (clN (topL cls o ((k : Int) + 1))) (wtL (topL cls o ((k : Int) + 1))) ow) : False := by
  have hv := hm.1
  rw [top_fits ms fs day found cls o _ 0] at hv
  have h3 := mst_max h1 h2 h hv (fun q h3 h4 e => by rw [hm.2 q h3 h4, wc_top_ne hc h1 h2 e, wc_all_ne hc h1 h2 e]; exact Int.le_refl _)
  have h4 := hm.2 o h1 h2
  rw [wc_top hc h1 h2] at h4
  omega
theorem mst_ge {ms : List Mk} {fs : List Fd} {day : Int} {found : List Sg} {cls : List Cl} {ow : List Int} {o k : Nat} (hc : Cls cls) (h1 : 1 ≤ o) (h2 : o ≤ 40) (h : MstA (fitsN ms fs day found (allL cls o 0)) (clN (allL cls o 0)) (wtL (allL cls o 0)) o k) (hm : MetA (fitsN ms fs day found cls) (clN cls) (wtL cls) ow) : ow.count (o : Int) ≤ k :=
  mst_max h1 h2 h (skv_all hm.1) (fun q h3 h4 e => by rw [hm.2 q h3 h4, wc_all_ne hc h1 h2 e]; exact Int.le_refl _)
end Go.Proofs.YtologmoanaccpaaGreatDoor
