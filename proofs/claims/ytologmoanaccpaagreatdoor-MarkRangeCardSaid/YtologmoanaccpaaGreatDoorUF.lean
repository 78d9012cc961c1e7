/-
  the reference's Shortage 54
  the reference's CheckShortage 56
  shortages by indexes of claims, by sets of owners
  the reference's shortages are the code's
-/
import Derived.Test.YtologmoanaccpaaGreatDoorUA
import Derived.Test.YtologmoanaccpaaGreatDoorBK
import Derived.Test.YtologmoanaccpaaGreatDoorEA
import Derived.Test.YtologmoanaccpaaGreatDoorYD
namespace Go.Proofs.YtologmoanaccpaaGreatDoor
set_option linter.all false
open Go.RowKit Go.Shelf

def bsK (ms : List Mk) (fs : List Fd) (day : Int) (found : List Sg) (cls : List Cl) : Nat → Option (List Int)
  | 0 => none
  | k + 1 => if (shR ms fs day found cls k && (match bsK ms fs day found cls k with | some b => lessB (liL cls k 40) b | none => true)) = true then some (liL cls k 40) else bsK ms fs day found cls k
theorem bsK_succ (ms : List Mk) (fs : List Fd) (day : Int) (found : List Sg) (cls : List Cl) (k : Nat) : bsK ms fs day found cls (k + 1) = if (shR ms fs day found cls k && (match bsK ms fs day found cls k with | some b => lessB (liL cls k 40) b | none => true)) = true then some (liL cls k 40) else bsK ms fs day found cls k := by
  conv => lhs; unfold bsK
def RsP (w : World) (ms : List Mk) (fs : List Fd) (day : Int) (found : List Sg) (cls : List Cl) (e : Ending) (w' : World) : Prop :=
  ((chE ms fs day found cls ≠ 0 ∧ e = .returned (.tuple #[.slice none 0 0, .bool false, .int .i64 (chE ms fs day found cls)])) ∨
   (chE ms fs day found cls = 0 ∧ ∃ A n c, e = .returned (.tuple #[.slice A n c, .bool (bsK ms fs day found cls (2 ^ cls.length)).isSome, .int .i64 0]) ∧ IntA w' A n c ((bsK ms fs day found cls (2 ^ cls.length)).getD []))) ∧ Kept w w'
theorem RsP.of {w : World} {ms : List Mk} {fs : List Fd} {day : Int} {found : List Sg} {cls : List Cl} {e : Ending} {w' : World} {A : Option Addr} {n c : Nat} (b : Bool) (l : List Int) (h0 : chE ms fs day found cls = 0) (he : e = .returned (.tuple #[.slice A n c, .bool b, .int .i64 0])) (hb : (bsK ms fs day found cls (2 ^ cls.length)).isSome = b) (hl : (bsK ms fs day found cls (2 ^ cls.length)).getD [] = l) (hia : IntA w' A n c l) (hk : Kept w w') : RsP w ms fs day found cls e w' :=
  ⟨.inr ⟨h0, A, n, c, by rw [hb]; exact he, by rw [hl]; exact hia⟩, hk⟩
theorem RsP.no {w : World} {ms : List Mk} {fs : List Fd} {day : Int} {found : List Sg} {cls : List Cl} {e : Ending} {w' : World} (E : Int) (h : chE ms fs day found cls = E) (h0 : E ≠ 0) (he : e = .returned (.tuple #[.slice none 0 0, .bool false, .int .i64 E])) (hk : Kept w w') : RsP w ms fs day found cls e w' :=
  ⟨.inl ⟨by rw [h]; exact h0, by rw [h]; exact he⟩, hk⟩
/-- what a state without error says of the sizes -/
theorem ch_sizes {ms : List Mk} {fs : List Fd} {day : Int} {found : List Sg} {cls : List Cl} (h : chE ms fs day found cls = 0) : found.length ≤ 60 ∧ cls.length ≤ 10 ∧ ∀ c ∈ cls, claimB c = true := by
  unfold chE at h
  obtain ⟨_, _, h3, h4⟩ := fstE_four h
  obtain ⟨h5, h6, _⟩ := cl_ok h4
  refine ⟨?_, h5, h6⟩
  unfold fnE at h3
  by_cases h7 : 60 < found.length
  · rw [if_pos h7] at h3; cases h3
  · omega
theorem cl_num {c : Cl} (h : claimB c = true) : 0 ≤ c.num ∧ c.num ≤ 60 := (claim_bd h).2
set_option maxRecDepth 100000 in
set_option maxHeartbeats 6400000 in
theorem rshortage_any (A B C D : Option Addr) (n c m d p q u v : Nat) (ms : List Mk) (fs : List Fd) (day : Int) (found : List Sg) (cls : List Cl) (w : World) (hs : SmA w A n c ms B m d fs) (hfo : SlA sgV 6 Sg.ok w C p q found) (hcl : SlA clC 2 Cl.ok w D u v cls) :
    Calls Tryz.prog 54 #[.agg #[.slice A n c, .slice B m d], .int .i64 day, .slice C p q, .slice D u v] w (RsP w ms fs day found cls) := by
  obtain ⟨W0, hW0⟩ : ∃ W0, W0 = w.alloc (.cells #[.slice A n c, .slice B m d] 25) := ⟨_, rfl⟩
  have K0 : RowKit.Hid (Kept w W0) := Lib.hid (by rw [hW0]; exact (Kept.refl _).alloc _)
  have R0 : RowKit.Hid (RowC W0 w.heap.size [.slice A n c, .slice B m d]) := Lib.hid (by rw [hW0]; exact RowC.new w [.slice A n c, .slice B m d] 25)
  have HW := Lib.hid hW0
  have HS := Lib.hid (hs.kept K0.out)
  have HFO := Lib.hid (hfo.kept K0.out)
  have HCL := Lib.hid (hcl.kept K0.out)
  have HFN := Lib.hid hfo.1
  have HCN := Lib.hid hcl.1
  obtain ⟨E, hE⟩ : ∃ E, chE ms fs day found cls = E := ⟨_, rfl⟩
  have HBG : RowKit.Hid (∀ W, Kept W0 W → Calls Tryz.prog 109 #[.agg #[.slice A n c, .slice B m d], .int .i64 day, .slice none 0 0, .slice C p q, .slice D u v] W fun e w' => e = .returned (.int .i64 E) ∧ Kept W w') := Lib.hid (fun W hW => by rw [← hE]; have h := rbegin_any A B C D none n c m d p q u v 0 0 ms fs day [] found cls W (HS.out.kept hW) (IntA.nil W) (by omega) (HFO.out.kept hW) (HCL.out.kept hW); rw [bgE_nil] at h; exact h)
  have HE := Lib.hid hE
  clear hE
  have hpc := hfo.2.1
  have hpm := hfo.2.2.1
  have huc := hcl.2.1
  have hum := hcl.2.2.1
  have a0 := (R0.out 0 _ rfl).1
  have a1 := (R0.out 1 _ rfl).1
  have la := cell_lt a0
  clear hW0 hs hfo hcl
  go_enter Tryz.func54, Tryz.ntmps54
  go_upto_region 1 with (fail)
  rw [← HW.out]
  go_wp2_with fail
  refine (HBG.out _ (Kept.refl _)).mono ?_
  rintro e w1 ⟨rfl, hk1⟩
  have K1 := Lib.hid hk1
  clear hk1 a0 a1 la
  by_cases h0 : E = 0
  rotate_left
  · have h1 : (E != 0) = true := by simpa using h0
    have H0 := Lib.hid h0
    clear h0
    go_wp2_with fail
    go_ret3
    exact RsP.no E HE.out H0.out (by rfl) (K0.out.trans K1.out)
  subst h0
  obtain ⟨hp60, hu10, hcb⟩ := ch_sizes HE.out
  rw [HFN.out] at hp60
  rw [HCN.out] at hu10
  have hN : ∃ N : Nat, N = 2 ^ u := ⟨_, rfl⟩
  obtain ⟨N, hN⟩ := hN
  have hNl : N ≤ 1024 := by rw [hN]; exact Nat.pow_le_pow_right (n := 2) (by omega) (show u ≤ 10 from hu10)
  have HNN := Lib.hid hN
  have HSE : RowKit.Hid (∀ W, Calls Tryz.prog 121 #[.int .i64 (u : Int)] W fun e w' => e = .returned (.int .i64 (N : Int)) ∧ w' = W) := Lib.hid (fun W => by rw [hN]; exact sets_any u (by omega) W)
  have HLI : RowKit.Hid (∀ (k : Nat) W, k < 9223372036854775808 → Kept W0 W → Calls Tryz.prog 122 #[.slice D u v, .int .i64 (k : Int)] W (OwR W (liL cls k 40))) := Lib.hid (fun k W hk hW => rlist_any D u v cls k hk (by omega) W (HCL.out.kept hW))
  have HSH : RowKit.Hid (∀ (k : Nat) W, k < 9223372036854775808 → Kept W0 W → Calls Tryz.prog 123 #[.agg #[.slice A n c, .slice B m d], .int .i64 day, .slice C p q, .slice D u v, .int .i64 (k : Int)] W fun e w' => e = .returned (.bool (shR ms fs day found cls k)) ∧ Kept W w') := Lib.hid (fun k W hk hW => rshort_any A B n c m d ms fs day C p q found D u v cls k hk hu10 hp60 (fun x hx => cl_num (hcb x hx)) W (HS.out.kept hW) (HFO.out.kept hW) (HCL.out.kept hW))
  clear hN hcb
  go_wp2_with fail
  go_loopw [12, 13, 14, 15] (fun b s i z wr => ∃ (k : Nat) (bs : Option (List Int)) (A' : Option Addr) (n' c' : Nat), k ≤ N ∧ i = .int .i64 k ∧ b = .slice A' n' c' ∧ s = .bool bs.isSome ∧ bs = bsK ms fs day found cls k ∧ IntA wr A' n' c' (bs.getD []) ∧ Kept W0 wr) (fun _ _ i _ _ => N - (intOf i).toNat)
  case atStart => exact ⟨0, none, none, 0, 0, by omega, by first | rfl | go_num, rfl, rfl, rfl, IntA.nil _, K1.out⟩
  case round =>
    obtain ⟨k, bs, A', n', c', hk, rfl, rfl, rfl, hbs, hia, hkr⟩ := hrel
    have HBS := Lib.hid hbs
    have HIA := Lib.hid hia
    have HKR := Lib.hid hkr
    clear hbs hia hkr
    by_cases hlt : k < N
    · have hi1 : (k : Int) < (N : Int) := by omega
      have HNX := Lib.hid (bsK_succ ms fs day found cls k)
      rw [← HBS.out] at HNX
      obtain ⟨L, hL⟩ : ∃ L, liL cls k 40 = L := ⟨_, rfl⟩
      obtain ⟨sb, hsb⟩ : ∃ b, shR ms fs day found cls k = b := ⟨_, rfl⟩
      have H122 := Lib.hid (fun W hW => HLI.out k W (by omega) hW)
      have H123 := Lib.hid (fun W hW => HSH.out k W (by omega) hW)
      rw [hL] at H122 HNX
      rw [hsb] at H123 HNX
      clear hL hsb
      go_wp2_with fail
      refine (HSE.out _).mono ?_
      rintro e w2 ⟨rfl, rfl⟩
      go_wp2_with fail
      refine (H122.out _ HKR.out).mono ?_
      rintro e w3 ⟨A5, n5, c5, rfl, hia5, hk3⟩
      have HIA5 := Lib.hid hia5
      have K3 := Lib.hid (HKR.out.trans hk3)
      have HIB := Lib.hid (HIA.out.kept hk3)
      clear hia5 hk3
      have a0 := ((R0.out.kept K3.out) 0 _ rfl).1
      have a1 := ((R0.out.kept K3.out) 1 _ rfl).1
      have la := cell_lt a0
      go_wp2_with fail
      refine (H123.out _ K3.out).mono ?_
      rintro e w4 ⟨rfl, hk4⟩
      have K4 := Lib.hid (K3.out.trans hk4)
      have HIB4 := Lib.hid (HIB.out.kept hk4)
      have HIA54 := Lib.hid (HIA5.out.kept hk4)
      clear hk4 a0 a1 la
      cases sb with
      | false =>
        go_wp2_with fail
        go_roundw
        case rel => exact ⟨k + 1, bs, A', n', c', by omega, by go_num, rfl, rfl, by rw [HNX.out]; simp, HIB4.out, K4.out⟩
        case measure => simp [intOf]; omega
      | true =>
        cases bs with
        | none =>
          go_wp2_with fail
          go_roundw
          case rel => exact ⟨k + 1, some L, A5, n5, c5, by omega, by go_num, rfl, rfl, by rw [HNX.out]; simp, HIA54.out, K4.out⟩
          case measure => simp [intOf]; omega
        | some b =>
          obtain ⟨lb, hlb⟩ : ∃ x, lessB L b = x := ⟨_, rfl⟩
          have HLS := Lib.hid (less_any A5 n5 c5 L A' n' c' b w4 HIA54.out HIB4.out)
          rw [hlb] at HLS
          have HLB := Lib.hid hlb
          clear hlb
          go_wp2_with fail
          refine HLS.out.mono ?_
          rintro e w5 ⟨rfl, hk5⟩
          have K5 := Lib.hid (K4.out.trans hk5)
          have HIB5 := Lib.hid (HIB4.out.kept hk5)
          have HIA55 := Lib.hid (HIA54.out.kept hk5)
          clear hk5
          cases lb with
          | false =>
            go_wp2_with fail
            go_roundw
            case rel => exact ⟨k + 1, some b, A', n', c', by omega, by go_num, rfl, rfl, by rw [HNX.out]; simp [HLB.out], HIB5.out, K5.out⟩
            case measure => simp [intOf]; omega
          | true =>
            go_wp2_with fail
            go_roundw
            case rel => exact ⟨k + 1, some L, A5, n5, c5, by omega, by go_num, rfl, rfl, by rw [HNX.out]; simp [HLB.out], HIA55.out, K5.out⟩
            case measure => simp [intOf]; omega
    · obtain rfl : k = N := by omega
      have HB : RowKit.Hid (bsK ms fs day found cls (2 ^ cls.length) = bs) := Lib.hid (by rw [HBS.out, HCN.out, HNN.out])
      obtain ⟨z, hz⟩ : ∃ z, bs.isSome = z := ⟨_, rfl⟩
      have HZ := Lib.hid hz
      rw [hz]
      clear hz
      go_wp2_with fail
      refine (HSE.out _).mono ?_
      rintro e w2 ⟨rfl, rfl⟩
      go_wp2_with fail
      go_ret3
      exact RsP.of z (bs.getD []) HE.out (by rfl) (by rw [HB.out, HZ.out]) (by rw [HB.out]) HIA.out (K0.out.trans HKR.out)
end Go.Proofs.YtologmoanaccpaaGreatDoor

namespace Go.Proofs.YtologmoanaccpaaGreatDoor
set_option linter.all false
open Go.RowKit Go.Shelf

theorem hs_cm {cls : List Cl} (h : ∀ c ∈ cls, claimB c = true) (x : Int) : hsB (clN cls) x = (cmX cls x).isSome := by
  cases hr : cmX cls x with
  | some k =>
    obtain ⟨c, hc, he⟩ := cmX_get hr
    have hm := List.mem_of_getElem? hc
    have hb := (claim_bd (h c hm)).1
    rw [he] at hb
    unfold hsB
    rw [Option.isSome_some, Bool.and_eq_true, inB_iff, clN_bit, List.any_eq_true]
    exact ⟨hb, c, hm, by simp [he]⟩
  | none =>
    have hn := cmX_no hr
    cases e : hsB (clN cls) x
    · rfl
    · unfold hsB at e
      rw [Bool.and_eq_true, inB_iff, clN_bit, List.any_eq_true] at e
      obtain ⟨h1, c, hm, h2⟩ := e
      have hb := (claim_bd (h c hm)).1
      have h2 : c.own.toNat = x.toNat := by simpa using h2
      exact absurd (by omega : c.own = x) (hn c hm)
def stS (cls : List Cl) (ows : List Int) : Nat → Nat
  | 0 => 0
  | i + 1 => stS cls ows i + 2 ^ ((cmX cls (ows.getD i 0)).getD 0)
theorem stS_succ {cls : List Cl} {ows : List Int} {i : Nat} {o : Int} {k : Nat} (ho : ows[i]? = some o) (hk : cmX cls o = some k) : stS cls ows (i + 1) = stS cls ows i + 2 ^ k := by
  conv => lhs; unfold stS
  rw [List.getD_eq_getElem?_getD, ho, Option.getD_some, hk, Option.getD_some]
def CrP (w : World) (ms : List Mk) (fs : List Fd) (day : Int) (found : List Sg) (cls : List Cl) (ows : List Int) (e : Ending) (w' : World) : Prop :=
  ((chE ms fs day found cls ≠ 0 ∧ e = .returned (.tuple #[.bool false, .int .i64 (chE ms fs day found cls)])) ∨
   (chE ms fs day found cls = 0 ∧ e = .returned (.tuple #[.bool (okK (clN cls) ows ows.length && shR ms fs day found cls (stS cls ows ows.length)), .int .i64 0]))) ∧ Kept w w'
theorem CrP.of {w : World} {ms : List Mk} {fs : List Fd} {day : Int} {found : List Sg} {cls : List Cl} {ows : List Int} {e : Ending} {w' : World} (b : Bool) (h0 : chE ms fs day found cls = 0) (he : e = .returned (.tuple #[.bool b, .int .i64 0])) (hb : (okK (clN cls) ows ows.length && shR ms fs day found cls (stS cls ows ows.length)) = b) (hk : Kept w w') : CrP w ms fs day found cls ows e w' :=
  ⟨.inr ⟨h0, by rw [hb]; exact he⟩, hk⟩
theorem CrP.no {w : World} {ms : List Mk} {fs : List Fd} {day : Int} {found : List Sg} {cls : List Cl} {ows : List Int} {e : Ending} {w' : World} (E : Int) (h : chE ms fs day found cls = E) (h0 : E ≠ 0) (he : e = .returned (.tuple #[.bool false, .int .i64 E])) (hk : Kept w w') : CrP w ms fs day found cls ows e w' :=
  ⟨.inl ⟨by rw [h]; exact h0, by rw [h]; exact he⟩, hk⟩
set_option maxRecDepth 100000 in
set_option maxHeartbeats 6400000 in
theorem rcheckShortage_any (A B C D G : Option Addr) (n c m d p q u v x y : Nat) (ms : List Mk) (fs : List Fd) (day : Int) (found : List Sg) (cls : List Cl) (ows : List Int) (w : World) (hs : SmA w A n c ms B m d fs) (hfo : SlA sgV 6 Sg.ok w C p q found) (hcl : SlA clC 2 Cl.ok w D u v cls) (how : IntA w G x y ows) (hx1000 : x ≤ 1000) :
    Calls Tryz.prog 56 #[.agg #[.slice A n c, .slice B m d], .int .i64 day, .slice C p q, .slice D u v, .slice G x y] w (CrP w ms fs day found cls ows) := by
  obtain ⟨W0, hW0⟩ : ∃ W0, W0 = w.alloc (.cells #[.slice A n c, .slice B m d] 25) := ⟨_, rfl⟩
  have K0 : RowKit.Hid (Kept w W0) := Lib.hid (by rw [hW0]; exact (Kept.refl _).alloc _)
  have R0 : RowKit.Hid (RowC W0 w.heap.size [.slice A n c, .slice B m d]) := Lib.hid (by rw [hW0]; exact RowC.new w [.slice A n c, .slice B m d] 25)
  have HW := Lib.hid hW0
  have HS := Lib.hid (hs.kept K0.out)
  have HFO := Lib.hid (hfo.kept K0.out)
  have HCL := Lib.hid (hcl.kept K0.out)
  have HOW := Lib.hid (how.kept K0.out)
  have HFN := Lib.hid hfo.1
  have HCN := Lib.hid hcl.1
  have HON := Lib.hid how.1
  obtain ⟨E, hE⟩ : ∃ E, chE ms fs day found cls = E := ⟨_, rfl⟩
  have HBG : RowKit.Hid (∀ W, Kept W0 W → Calls Tryz.prog 109 #[.agg #[.slice A n c, .slice B m d], .int .i64 day, .slice none 0 0, .slice C p q, .slice D u v] W fun e w' => e = .returned (.int .i64 E) ∧ Kept W w') := Lib.hid (fun W hW => by rw [← hE]; have h := rbegin_any A B C D none n c m d p q u v 0 0 ms fs day [] found cls W (HS.out.kept hW) (IntA.nil W) (by omega) (HFO.out.kept hW) (HCL.out.kept hW); rw [bgE_nil] at h; exact h)
  have HE := Lib.hid hE
  clear hE
  have hpc := hfo.2.1
  have hpm := hfo.2.2.1
  have huc := hcl.2.1
  have hum := hcl.2.2.1
  have a0 := (R0.out 0 _ rfl).1
  have a1 := (R0.out 1 _ rfl).1
  have la := cell_lt a0
  clear hW0 hs hfo hcl how
  go_enter Tryz.func56, Tryz.ntmps56
  go_upto_region 1 with (fail)
  rw [← HW.out]
  go_wp2_with fail
  refine (HBG.out _ (Kept.refl _)).mono ?_
  rintro e w1 ⟨rfl, hk1⟩
  have K1 := Lib.hid hk1
  clear hk1 a0 a1 la
  by_cases h0 : E = 0
  rotate_left
  · have h1 : (E != 0) = true := by simpa using h0
    have H0 := Lib.hid h0
    clear h0
    go_wp2_with fail
    go_ret2
    exact CrP.no E HE.out H0.out (by rfl) (K0.out.trans K1.out)
  subst h0
  obtain ⟨hp60, hu10, hcb⟩ := ch_sizes HE.out
  rw [HFN.out] at hp60
  rw [HCN.out] at hu10
  have HCB := Lib.hid hcb
  have HSE : RowKit.Hid (∀ (k : Nat) W, k ≤ 40 → Calls Tryz.prog 121 #[.int .i64 (k : Int)] W fun e w' => e = .returned (.int .i64 ((2 ^ k : Nat) : Int)) ∧ w' = W) := Lib.hid (fun k W hk => sets_any k hk W)
  have HCM : RowKit.Hid (∀ (o : Int) W, Kept W0 W → Calls Tryz.prog 117 #[.slice D u v, .int .i64 o] W fun e w' => e = .returned (.int .i64 (cmV cls o)) ∧ w' = W) := Lib.hid (fun o W hW => claimed_any D u v cls o W (HCL.out.kept hW))
  have HSH : RowKit.Hid (∀ (k : Nat) W, k < 9223372036854775808 → Kept W0 W → Calls Tryz.prog 123 #[.agg #[.slice A n c, .slice B m d], .int .i64 day, .slice C p q, .slice D u v, .int .i64 (k : Int)] W fun e w' => e = .returned (.bool (shR ms fs day found cls k)) ∧ Kept W w') := Lib.hid (fun k W hk hW => rshort_any A B n c m d ms fs day C p q found D u v cls k hk hu10 hp60 (fun x hx => cl_num (hcb x hx)) W (HS.out.kept hW) (HFO.out.kept hW) (HCL.out.kept hW))
  clear hcb
  go_wp2_with fail
  go_loopw [13, 14, 15] (fun s i z wr => ∃ (k S : Nat), k ≤ x ∧ i = .int .i64 k ∧ s = .int .i64 (S : Int) ∧ S ≤ 1024 * k ∧ S = stS cls ows k ∧ okK (clN cls) ows k = true ∧ Kept W0 wr) (fun _ i _ _ => x - (intOf i).toNat)
  case atStart => exact ⟨0, 0, by omega, by first | rfl | go_num, by first | rfl | go_num, by omega, rfl, by simp [okK], K1.out⟩
  case round =>
    obtain ⟨k, S, hk, rfl, rfl, hSk, hS, hok, hkr⟩ := hrel
    have HS5 := Lib.hid hS
    have HOK := Lib.hid hok
    have HKR := Lib.hid hkr
    clear hS hok hkr
    by_cases hlt : k < x
    · obtain ⟨o, ho⟩ : ∃ o, ows[k]? = some o := ⟨_, List.getElem?_eq_getElem (by rw [HON.out]; exact hlt)⟩
      obtain ⟨b, off, hG, htg⟩ := (HOW.out.kept HKR.out).2.2.2 (by omega)
      subst hG
      have c0 := htg k o ho
      have lc := cell_lt c0
      have HC := Lib.hid (HCM.out o wr HKR.out)
      have hi0 : (0 : Int) ≤ (k : Int) := by omega
      have hi1 : (k : Int) < (x : Int) := by omega
      have HKS : RowKit.Hid (okK (clN cls) ows (k + 1) = ((cmX cls o).isSome && (decide (k = 0) || decide (ows.getD (k - 1) 0 < o)))) := Lib.hid (by
        rw [okK_succ, HOK.out, Bool.true_and, List.getD_eq_getElem?_getD, ho, Option.getD_some, hs_cm HCB.out])
      have HNO : RowKit.Hid (okK (clN cls) ows (k + 1) = false → okK (clN cls) ows ows.length = false) := Lib.hid (fun hh => by
        rw [okK_succ, HOK.out, Bool.true_and] at hh
        exact okK_no (by rw [HON.out]; exact hlt) hh)
      have HX := Lib.hid ho
      obtain ⟨r, hr⟩ : ∃ r, cmX cls o = r := ⟨_, rfl⟩
      cases r with
      | none =>
        have HV : RowKit.Hid (cmV cls o = -1) := Lib.hid (by unfold cmV; rw [hr])
        have HF : RowKit.Hid (okK (clN cls) ows ows.length = false) := Lib.hid (HNO.out (by rw [HKS.out, hr]; rfl))
        rw [HV.out] at HC
        clear hr ho htg
        go_wp2_with fail
        refine HC.out.mono ?_
        rintro e w2 ⟨rfl, rfl⟩
        go_wp2_with fail
        go_quiet (fail)
        go_wp2_with fail
        go_ret2
        exact CrP.of false HE.out (by rfl) (by rw [HF.out]; rfl) (by first | exact K0.out.trans (HKR.out.drewN _) | exact K0.out.trans HKR.out | exact K0.out.trans HKR.out.drew)
      | some z =>
        obtain ⟨cx, hcx, _⟩ := cmX_get hr
        have hz : z < u := by rw [← HCN.out]; exact (List.getElem?_eq_some_iff.1 hcx).1
        have HV : RowKit.Hid (cmV cls o = (z : Int)) := Lib.hid (by unfold cmV; rw [hr])
        have HSS := Lib.hid (stS_succ ho hr)
        obtain ⟨T, hT⟩ : ∃ T, 2 ^ z = T := ⟨_, rfl⟩
        have hTl : T ≤ 1024 := by rw [← hT]; exact Nat.pow_le_pow_right (n := 2) (by omega) (show z ≤ 10 by omega)
        have HSZ : RowKit.Hid (∀ W, Calls Tryz.prog 121 #[.int .i64 (z : Int)] W fun e w' => e = .returned (.int .i64 (T : Int)) ∧ w' = W) := Lib.hid (fun W => by rw [← hT]; exact HSE.out z W (by omega))
        rw [hT, ← HS5.out] at HSS
        rw [HV.out] at HC
        have HKS2 := HKS.out
        rw [hr, Option.isSome_some, Bool.true_and] at HKS2
        have HKS3 := Lib.hid HKS2
        have hz0 : (0 : Int) ≤ (z : Int) := by omega
        clear hr hcx hT HKS2 HKS
        by_cases hk0 : k = 0
        · clear ho htg
          have hk0' : ¬ ((0 : Int) < (k : Int)) := by omega
          have hk0n : ¬ (0 < k) := by omega
          have hk0b : decide ((k : Int) > 0) = false := by simpa using hk0
          have hk0c : decide ((0 : Int) < (k : Int)) = false := by simpa using hk0
          have hzb : decide ((z : Int) < 0) = false := by simp
          have HT1 : RowKit.Hid (okK (clN cls) ows (k + 1) = true) := Lib.hid (by rw [HKS3.out, decide_eq_true hk0]; rfl)
          clear hk0
          go_wp2_with fail
          refine HC.out.mono ?_
          rintro e w2 ⟨rfl, rfl⟩
          go_wp2_with fail
          go_quiet (fail)
          go_wp2_with fail
          refine (HSZ.out _).mono ?_
          rintro e w3 ⟨rfl, rfl⟩
          go_wp2_with fail
          go_roundw
          case rel => exact ⟨k + 1, S + T, by omega, by go_num, by first | rfl | go_num, by omega, HSS.out.symm, HT1.out, by first | exact HKR.out.drewN _ | exact HKR.out | exact HKR.out.drew⟩
          case measure => simp [intOf]; omega
        · obtain ⟨j, hj⟩ : ∃ j, k - 1 = j := ⟨_, rfl⟩
          obtain ⟨o1, ho1⟩ : ∃ o1, ows[j]? = some o1 := ⟨_, List.getElem?_eq_getElem (by rw [HON.out]; omega)⟩
          have c1 := htg j o1 ho1
          have lc1 := cell_lt c1
          have HD : RowKit.Hid (okK (clN cls) ows (k + 1) = decide (o1 < o)) := Lib.hid (by rw [HKS3.out, hj, List.getD_eq_getElem?_getD, ho1, Option.getD_some, decide_eq_false hk0, Bool.false_or])
          have e1 : (k : Int) - 1 = (j : Int) := by omega
          have e2 : IntKind.i64.wrap ((k : Int) - 1) = (j : Int) := by rw [e1]; exact IntWalk.i64_in _ (by omega)
          have hk1' : (0 : Int) < (k : Int) := by omega
          have hk1n : 0 < k := by omega
          have hk0b : decide ((k : Int) > 0) = true := by simpa using hk1n
          have hk0c : decide ((0 : Int) < (k : Int)) = true := by simpa using hk1n
          have hzb : decide ((z : Int) < 0) = false := by simp
          have hj0 : (0 : Int) ≤ (j : Int) := by omega
          have hj1 : (j : Int) < (x : Int) := by omega
          clear ho htg ho1 hj
          by_cases hlo : o1 < o
          · have hge : ¬ o ≤ o1 := by omega
            have hgb : decide (o1 ≥ o) = false := by simpa using hge
            have HT1 : RowKit.Hid (okK (clN cls) ows (k + 1) = true) := Lib.hid (by rw [HD.out]; simpa using hlo)
            go_wp2_with fail
            refine HC.out.mono ?_
            rintro e w2 ⟨rfl, rfl⟩
            go_wp2_with fail
            go_quiet (fail)
            go_wp2_with fail
            refine (HSZ.out _).mono ?_
            rintro e w3 ⟨rfl, rfl⟩
            go_wp2_with fail
            go_roundw
            case rel => exact ⟨k + 1, S + T, by omega, by go_num, by first | rfl | go_num, by omega, HSS.out.symm, HT1.out, by first | exact HKR.out.drewN _ | exact HKR.out | exact HKR.out.drew⟩
            case measure => simp [intOf]; omega
          · have hge : o ≤ o1 := by omega
            have HF : RowKit.Hid (okK (clN cls) ows ows.length = false) := Lib.hid (HNO.out (by rw [HD.out]; simpa using hge))
            go_wp2_with fail
            refine HC.out.mono ?_
            rintro e w2 ⟨rfl, rfl⟩
            go_wp2_with fail
            go_quiet (fail)
            go_wp2_with fail
            go_ret2
            exact CrP.of false HE.out (by rfl) (by rw [HF.out]; rfl) (by first | exact K0.out.trans (HKR.out.drewN _) | exact K0.out.trans HKR.out | exact K0.out.trans HKR.out.drew)
    · obtain rfl : k = x := by omega
      have a0 := ((R0.out.kept HKR.out) 0 _ rfl).1
      have a1 := ((R0.out.kept HKR.out) 1 _ rfl).1
      have la := cell_lt a0
      obtain ⟨sb, hsb⟩ : ∃ b, shR ms fs day found cls S = b := ⟨_, rfl⟩
      have HQ := Lib.hid (HSH.out S wr (by omega) HKR.out)
      rw [hsb] at HQ
      have HB : RowKit.Hid ((okK (clN cls) ows ows.length && shR ms fs day found cls (stS cls ows ows.length)) = sb) := Lib.hid (by rw [HON.out, HOK.out, ← HS5.out, hsb]; rfl)
      clear hsb
      go_wp2_with fail
      refine HQ.out.mono ?_
      rintro e w2 ⟨rfl, hk2⟩
      have K2 := Lib.hid (HKR.out.trans hk2)
      clear hk2
      go_wp2_with fail
      go_ret2
      exact CrP.of sb HE.out (by rfl) HB.out (K0.out.trans K2.out)
end Go.Proofs.YtologmoanaccpaaGreatDoor

namespace Go.Proofs.YtologmoanaccpaaGreatDoor
set_option linter.all false
open Go.RowKit Go.Shelf

def RS (cls : List Cl) (S P : Nat) : Prop := P &&& clN cls = P ∧ ∀ (k : Nat) (c : Cl), cls[k]? = some c → S.testBit k = P.testBit c.own.toNat
theorem own_cl {cls : List Cl} (h : ∀ c ∈ cls, claimB c = true) {c : Cl} (hc : c ∈ cls) {x : Int} (hx : 0 ≤ x) (he : c.own.toNat = x.toNat) : c.own = x := by
  have := (claim_bd (h c hc)).1
  omega
theorem cl_mem {cls : List Cl} {P q : Nat} (h : P &&& clN cls = P) (hq : P.testBit q = true) : ∃ c ∈ cls, c.own.toNat = q := by
  have := sub_bit h hq
  rw [clN_bit, List.any_eq_true] at this
  obtain ⟨c, hc, he⟩ := this
  exact ⟨c, hc, by simpa using he⟩
theorem li_bit {cls : List Cl} (h : ∀ c ∈ cls, claimB c = true) {S P : Nat} (hr : RS cls S P) (i : Nat) : liP cls S ((i : Int) + 1) = P.testBit (i + 1) := by
  unfold liP
  cases e : cmX cls ((i : Int) + 1) with
  | some k =>
    obtain ⟨c, hc, he⟩ := cmX_get e
    have := hr.2 k c hc
    rw [he] at this
    rw [show ((i : Int) + 1).toNat = i + 1 by omega] at this
    exact this
  | none =>
    have hn := cmX_no e
    cases hb : P.testBit (i + 1)
    · rfl
    · obtain ⟨c, hc, he⟩ := cl_mem hr.1 hb
      exact absurd (own_cl h hc (x := (i : Int) + 1) (by omega) (by omega)) (hn c hc)
theorem li_ls {cls : List Cl} (h : ∀ c ∈ cls, claimB c = true) {S P : Nat} (hr : RS cls S P) : liL cls S 40 = lsI P := by
  have hp := sub_lt hr.1 (clN_41 h)
  have h0 := sub_0 hr.1 (clN_0 h)
  unfold lsI
  rw [bits41 hp]
  unfold bitsK liL
  rw [List.range_succ_eq_map (n := 40), List.filter_cons, h0, if_neg (by simp), List.filter_map, List.map_map]
  rw [show (List.filter (fun i : Nat => liP cls S ((i : Int) + 1)) (List.range 40)) = List.filter ((fun i => P.testBit i) ∘ Nat.succ) (List.range 40) from List.filter_congr fun i _ => li_bit h hr i]
  apply List.map_congr_left
  intro i _
  simp
theorem perm_sumI {l1 l2 : List Int} (h : l1.Perm l2) : l1.sum = l2.sum := by
  induction h with
  | nil => rfl
  | cons x _ ih => rw [List.sum_cons, List.sum_cons, ih]
  | swap x y l => simp only [List.sum_cons]; omega
  | trans _ _ h1 h2 => rw [h1, h2]
def selK (cls : List Cl) (S : Nat) : Nat → List Cl
  | 0 => []
  | k + 1 => selK cls S k ++ (match cls[k]? with | some c => if S.testBit k = true then [c] else [] | none => [])
theorem selK_sum (cls : List Cl) (S : Nat) : ∀ k, nsK cls S k = ((selK cls S k).map Cl.num).sum
  | 0 => rfl
  | k + 1 => by
    unfold nsK selK
    rw [selK_sum cls S k, List.map_append, List.sum_append]
    congr 1
    cases cls[k]? with
    | none => rfl
    | some c =>
      simp only
      split <;> simp
theorem selK_mem {cls : List Cl} {S : Nat} {c : Cl} : ∀ k, c ∈ selK cls S k ↔ ∃ j, j < k ∧ cls[j]? = some c ∧ S.testBit j = true
  | 0 => by simp [selK]
  | k + 1 => by
    unfold selK
    rw [List.mem_append, selK_mem k]
    constructor
    · rintro (⟨j, h1, h2, h3⟩ | h)
      · exact ⟨j, by omega, h2, h3⟩
      · cases e : cls[k]? with
        | none => rw [e] at h; cases h
        | some x =>
          rw [e] at h
          simp only at h
          split at h
          · rename_i hb
            rw [List.mem_singleton] at h
            exact ⟨k, by omega, by rw [e, h], hb⟩
          · cases h
    · rintro ⟨j, h1, h2, h3⟩
      by_cases hj : j < k
      · exact .inl ⟨j, hj, h2, h3⟩
      · obtain rfl : j = k := by omega
        right
        rw [h2]
        simp only
        rw [if_pos h3]
        exact List.mem_singleton.2 rfl
theorem selK_sub (cls : List Cl) (S : Nat) : ∀ k, List.Sublist (selK cls S k) (cls.take k)
  | 0 => by simp [selK]
  | k + 1 => by
    unfold selK
    cases e : cls[k]? with
    | none =>
      simp only [List.append_nil]
      exact (selK_sub cls S k).trans (List.take_sublist_take_left (by omega))
    | some c =>
      rw [take_snoc' e]
      refine List.Sublist.append (selK_sub cls S k) ?_
      simp only
      split
      · exact List.Sublist.refl _
      · exact List.nil_sublist _
theorem nodup_onat {cls : List Cl} (h : ∀ c ∈ cls, claimB c = true) (hn : (cls.map Cl.own).Nodup) : (cls.map fun c => c.own.toNat).Nodup := by
  unfold List.Nodup at hn ⊢
  rw [List.pairwise_map] at hn ⊢
  refine hn.imp_of_mem fun {a b} ha hb hne he => ?_
  have h1 := (claim_bd (h a ha)).1
  have h2 := (claim_bd (h b hb)).1
  exact hne (by omega)
theorem sum_bits {cls : List Cl} (h : ∀ c ∈ cls, claimB c = true) (hn : (cls.map Cl.own).Nodup) {S P : Nat} (hr : RS cls S P) : nsK cls S cls.length = wsum (wtL cls) (bitsK P 64) := by
  have hp := sub_lt hr.1 (clN_41 h)
  have hsub := selK_sub cls S cls.length
  rw [List.take_length] at hsub
  have hperm : ((selK cls S cls.length).map fun c => c.own.toNat).Perm (bitsK P 64) := by
    rw [List.perm_ext_iff_of_nodup (List.Nodup.sublist (hsub.map _) (nodup_onat h hn)) (bitsK_nodup P 64)]
    intro q
    rw [bitsK_mem hp, List.mem_map]
    constructor
    · rintro ⟨c, hc, rfl⟩
      obtain ⟨j, _, h2, h3⟩ := (selK_mem _).1 hc
      rw [← hr.2 j c h2]
      exact h3
    · intro hq
      obtain ⟨c, hc, rfl⟩ := cl_mem hr.1 hq
      obtain ⟨j, hj⟩ := List.getElem?_of_mem hc
      exact ⟨c, (selK_mem _).2 ⟨j, (List.getElem?_eq_some_iff.1 hj).1, hj, by rw [hr.2 j c hj]; exact hq⟩, rfl⟩
  unfold wsum
  rw [selK_sum, ← perm_sumI (hperm.map (wq (wtL cls))), List.map_map]
  congr 1
  apply List.map_congr_left
  intro c hc
  exact (wtL_at hn (fun x hx => (claim_bd (h x hx)).1) (hsub.subset hc)).symm
theorem beB_iff {ms : List Mk} {fs : List Fd} {day : Int} {cls : List Cl} {S : Nat} {s : Sg} : ∀ k, beB ms fs day cls S s k = true ↔ ∃ j c, j < k ∧ cls[j]? = some c ∧ S.testBit j = true ∧ fitR ms fs day s c.own = true
  | 0 => by simp [beB]
  | k + 1 => by
    unfold beB
    rw [Bool.or_eq_true, beB_iff k, Bool.and_eq_true]
    constructor
    · rintro (⟨j, c, h1, h2⟩ | ⟨h1, h2⟩)
      · exact ⟨j, c, by omega, h2⟩
      · cases e : cls[k]? with
        | none => rw [e] at h2; cases h2
        | some c => rw [e] at h2; exact ⟨k, c, by omega, e, h1, h2⟩
    · rintro ⟨j, c, h1, h2, h3, h4⟩
      by_cases hj : j < k
      · exact .inl ⟨j, c, hj, h2, h3, h4⟩
      · obtain rfl : j = k := by omega
        exact .inr ⟨h3, by rw [h2]; exact h4⟩
theorem ne_zero_bit {x : Nat} : (x != 0) = true ↔ ∃ q, x.testBit q = true := by
  constructor
  · intro h
    have h : x ≠ 0 := by simpa using h
    exact Nat.exists_testBit_of_ne_zero h
  · rintro ⟨q, hq⟩
    have : x ≠ 0 := fun e => by rw [e, Nat.zero_testBit] at hq; cases hq
    simpa using this
theorem be_fit {ms : List Mk} {fs : List Fd} {day : Int} {cls : List Cl} (hok : ∀ m ∈ ms, m.ok) (hfo : ∀ f ∈ fs, f.ok) (hcl : clashB ms = false) (hmk : ∀ m ∈ ms, markB m = true) (h : ∀ c ∈ cls, claimB c = true) {S P : Nat} (hr : RS cls S P) {s : Sg} (hs : s.ok) : beB ms fs day cls S s cls.length = ((ownD ms fs day s &&& clN cls) &&& P != 0) := by
  rw [Bool.eq_iff_iff, beB_iff, ne_zero_bit]
  constructor
  · rintro ⟨j, c, _, h2, h3, h4⟩
    have hm := List.mem_of_getElem? h2
    have hb := (claim_bd (h c hm)).1
    refine ⟨c.own.toNat, ?_⟩
    have hP : P.testBit c.own.toNat = true := by rw [← hr.2 j c h2]; exact h3
    rw [Nat.testBit_and, Nat.testBit_and, hP, sub_bit hr.1 hP, Bool.and_true, Bool.and_true, ownD_bit hcl hmk, ← fitR_O hok hfo hs, show ((c.own.toNat : Nat) : Int) = c.own by omega]
    exact h4
  · rintro ⟨q, hq⟩
    rw [Nat.testBit_and, Nat.testBit_and, Bool.and_eq_true, Bool.and_eq_true] at hq
    obtain ⟨⟨h1, h2⟩, h3⟩ := hq
    obtain ⟨c, hc, rfl⟩ := cl_mem hr.1 h3
    have hb := (claim_bd (h c hc)).1
    obtain ⟨j, hj⟩ := List.getElem?_of_mem hc
    rw [ownD_bit hcl hmk, ← fitR_O hok hfo hs, show ((c.own.toNat : Nat) : Int) = c.own by omega] at h1
    exact ⟨j, c, (List.getElem?_eq_some_iff.1 hj).1, hj, by rw [hr.2 j c hj]; exact h3, h1⟩
theorem cn_cnt {ms : List Mk} {fs : List Fd} {day : Int} {found : List Sg} {cls : List Cl} (hok : ∀ m ∈ ms, m.ok) (hfo : ∀ f ∈ fs, f.ok) (hcl : clashB ms = false) (hmk : ∀ m ∈ ms, markB m = true) (h : ∀ c ∈ cls, claimB c = true) {S P : Nat} (hr : RS cls S P) (hs : ∀ s ∈ found, s.ok) : ∀ k, k ≤ found.length → cnK ms fs day found cls S k = cntF (fitsN ms fs day found cls) P k
  | 0, _ => by simp [cnK, cntF]
  | k + 1, hk => by
    have ih := cn_cnt (day := day) hok hfo hcl hmk h hr hs k (by omega)
    have e : found[k]? = some found[k] := List.getElem?_eq_getElem (by omega)
    have e2 : (fitsN ms fs day found cls)[k]? = some (ownD ms fs day found[k] &&& clN cls) := by unfold fitsN; rw [List.getElem?_map, e]; rfl
    rw [cntF_succ e2, ← ih]
    conv => lhs; unfold cnK
    rw [e]
    simp only
    rw [be_fit hok hfo hcl hmk h hr (hs _ (List.mem_of_getElem? e))]
theorem sh_sh {ms : List Mk} {fs : List Fd} {day : Int} {found : List Sg} {cls : List Cl} (hok : ∀ m ∈ ms, m.ok) (hfo : ∀ f ∈ fs, f.ok) (hcl : clashB ms = false) (hmk : ∀ m ∈ ms, markB m = true) (h : ∀ c ∈ cls, claimB c = true) (hn : (cls.map Cl.own).Nodup) {S P : Nat} (hr : RS cls S P) (hs : ∀ s ∈ found, s.ok) : shR ms fs day found cls S = shB (fitsN ms fs day found cls) (wtL cls) P := by
  unfold shR shB
  rw [sum_bits h hn hr, cn_cnt hok hfo hcl hmk h hr hs _ (Nat.le_refl _)]
  rw [show (fitsN ms fs day found cls).length = found.length by simp [fitsN]]
theorem ex_P {cls : List Cl} (h : ∀ c ∈ cls, claimB c = true) (hn : (cls.map Cl.own).Nodup) (S : Nat) : ∃ P, RS cls S P := by
  refine ⟨clN (selK cls S cls.length), ?_, fun k c hk => ?_⟩
  · apply Nat.eq_of_testBit_eq
    intro q
    rw [Nat.testBit_and]
    cases e : (clN (selK cls S cls.length)).testBit q
    · rfl
    · rw [clN_bit, List.any_eq_true] at e
      obtain ⟨c, hc, he⟩ := e
      obtain ⟨j, _, h2, _⟩ := (selK_mem _).1 hc
      rw [clN_bit, Bool.true_and, List.any_eq_true]
      exact ⟨c, List.mem_of_getElem? h2, he⟩
  · have hkl := (List.getElem?_eq_some_iff.1 hk).1
    rw [clN_bit, Bool.eq_iff_iff, List.any_eq_true]
    constructor
    · intro hb
      exact ⟨c, (selK_mem _).2 ⟨k, hkl, hk, hb⟩, by simp⟩
    · rintro ⟨x, hx, he⟩
      obtain ⟨j, hj, h2, h3⟩ := (selK_mem _).1 hx
      have he : x.own.toNat = c.own.toNat := by simpa using he
      have hnn := nodup_onat h hn
      have e1 : (cls.map fun c => c.own.toNat)[j]? = some c.own.toNat := by rw [List.getElem?_map, h2, Option.map_some, he]
      have e2 : (cls.map fun c => c.own.toNat)[k]? = some c.own.toNat := by rw [List.getElem?_map, hk]; rfl
      have : j = k := (List.getElem?_inj (by rw [List.length_map]; exact hj) hnn).1 (e1.trans e2.symm)
      rw [← this]
      exact h3
def sS (cls : List Cl) (P : Nat) : Nat → Nat
  | 0 => 0
  | k + 1 => sS cls P k ||| (match cls[k]? with | some c => if P.testBit c.own.toNat = true then 2 ^ k else 0 | none => 0)
theorem sS_lt (cls : List Cl) (P : Nat) : ∀ k, sS cls P k < 2 ^ k
  | 0 => by simp [sS]
  | k + 1 => by
    have ih := sS_lt cls P k
    unfold sS
    refine Nat.or_lt_two_pow (Nat.lt_trans ih (Nat.pow_lt_pow_right (by omega) (by omega))) ?_
    split
    · split
      · exact Nat.pow_lt_pow_right (by omega) (by omega)
      · exact Nat.two_pow_pos _
    · exact Nat.two_pow_pos _
theorem sS_bit {cls : List Cl} {P : Nat} {j : Nat} {c : Cl} (hc : cls[j]? = some c) : ∀ k, (sS cls P k).testBit j = (decide (j < k) && P.testBit c.own.toNat)
  | 0 => by simp [sS]
  | k + 1 => by
    unfold sS
    rw [Nat.testBit_or, sS_bit hc k]
    by_cases hj : j = k
    · subst hj
      rw [hc]
      simp only
      rw [decide_eq_false (by omega : ¬ j < j), decide_eq_true (by omega : j < j + 1), Bool.false_and, Bool.false_or, Bool.true_and]
      cases P.testBit c.own.toNat
      · simp
      · simp
    · have e : (match cls[k]? with | some c => if P.testBit c.own.toNat = true then 2 ^ k else 0 | none => 0).testBit j = false := by
        split
        · split
          · rw [Nat.testBit_two_pow]; simpa using fun e => hj e.symm
          · simp
        · simp
      rw [e, Bool.or_false]
      by_cases hl : j < k
      · rw [decide_eq_true hl, decide_eq_true (by omega : j < k + 1)]
      · rw [decide_eq_false hl, decide_eq_false (by omega : ¬ j < k + 1)]
theorem ex_S {cls : List Cl} {P : Nat} (hP : P &&& clN cls = P) : ∃ S, S < 2 ^ cls.length ∧ RS cls S P :=
  ⟨sS cls P cls.length, sS_lt cls P _, hP, fun k c hk => by
    rw [sS_bit hk, decide_eq_true (List.getElem?_eq_some_iff.1 hk).1, Bool.true_and]⟩
end Go.Proofs.YtologmoanaccpaaGreatDoor

namespace Go.Proofs.YtologmoanaccpaaGreatDoor
set_option linter.all false
open Go.RowKit Go.Shelf

theorem cmpI_tri (x y : Int) : cmpI x y = -1 ∨ cmpI x y = 0 ∨ cmpI x y = 1 := by
  unfold cmpI
  split
  · exact .inl rfl
  · split
    · exact .inr (.inr rfl)
    · exact .inr (.inl rfl)
theorem cmpL_tri : ∀ a b : List Int, cmpL a b = -1 ∨ cmpL a b = 0 ∨ cmpL a b = 1
  | [], b => by
    simp only [cmpL]
    split
    · exact .inl rfl
    · exact .inr (.inl rfl)
  | _ :: _, [] => .inr (.inr rfl)
  | x :: a, y :: b => by
    simp only [cmpL]
    split
    · exact cmpL_tri a b
    · exact cmpI_tri x y
theorem lessB_iff {a b : List Int} : lessB a b = true ↔ cmpLL a b < 0 := by
  have h : cmpLL a b = -1 ∨ cmpLL a b = 0 ∨ cmpLL a b = 1 := by
    unfold cmpLL
    by_cases h0 : cmpI (a.length : Int) (b.length : Int) = 0
    · rw [h0, fstE_zero2]; exact cmpL_tri a b
    · rw [fstE_pick h0]; exact cmpI_tri _ _
  unfold lessB
  rw [beq_iff_eq]
  omega
theorem cmpL_anti : ∀ a b : List Int, a.length = b.length → ¬ cmpL a b < 0 → ¬ cmpL b a < 0 → a = b
  | [], [] => fun _ _ _ => rfl
  | [], y :: b => fun h _ _ => by simp at h
  | x :: a, [] => fun h _ _ => by simp at h
  | x :: a, y :: b => fun h h1 h2 => by
    rw [cmpL_cons] at h1 h2
    have e : x = y := by omega
    rw [e, cmpL_anti a b (by simpa using h) (fun h => h1 (.inr ⟨e, h⟩)) (fun h => h2 (.inr ⟨e.symm, h⟩))]
theorem cmpLL_anti {a b : List Int} (h1 : ¬ cmpLL a b < 0) (h2 : ¬ cmpLL b a < 0) : a = b := by
  rw [cmpLL_lt] at h1 h2
  have hl : a.length = b.length := by omega
  exact cmpL_anti a b hl (fun h => h1 (.inr ⟨hl, h⟩)) (fun h => h2 (.inr ⟨hl.symm, h⟩))
theorem bsK_spec {ms : List Mk} {fs : List Fd} {day : Int} {found : List Sg} {cls : List Cl} : ∀ k, (bsK ms fs day found cls k = none ∧ ∀ j, j < k → shR ms fs day found cls j = false) ∨
    (∃ j, j < k ∧ bsK ms fs day found cls k = some (liL cls j 40) ∧ shR ms fs day found cls j = true ∧ ∀ i, i < k → shR ms fs day found cls i = true → ¬ cmpLL (liL cls i 40) (liL cls j 40) < 0)
  | 0 => .inl ⟨rfl, fun j hj => by omega⟩
  | k + 1 => by
    rw [bsK_succ]
    cases hs : shR ms fs day found cls k with
    | false =>
      rw [Bool.false_and, if_neg (by simp)]
      rcases bsK_spec (ms := ms) (fs := fs) (day := day) (found := found) (cls := cls) k with ⟨h1, h2⟩ | ⟨j, h1, h2, h3, h4⟩
      · refine .inl ⟨h1, fun j hj => ?_⟩
        by_cases hk : j < k
        · exact h2 j hk
        · obtain rfl : j = k := by omega
          exact hs
      · refine .inr ⟨j, by omega, h2, h3, fun i hi hx => ?_⟩
        by_cases hk : i < k
        · exact h4 i hk hx
        · obtain rfl : i = k := by omega
          rw [hs] at hx; cases hx
    | true =>
      rw [Bool.true_and]
      rcases bsK_spec (ms := ms) (fs := fs) (day := day) (found := found) (cls := cls) k with ⟨h1, h2⟩ | ⟨j, h1, h2, h3, h4⟩
      · rw [h1, if_pos rfl]
        refine .inr ⟨k, by omega, rfl, hs, fun i hi hx => ?_⟩
        by_cases hk : i < k
        · rw [h2 i hk] at hx; cases hx
        · obtain rfl : i = k := by omega
          exact cmpLL_irr _
      · rw [h2]
        simp only
        by_cases hl : lessB (liL cls k 40) (liL cls j 40) = true
        · rw [if_pos hl]
          refine .inr ⟨k, by omega, rfl, hs, fun i hi hx => ?_⟩
          by_cases hk : i < k
          · intro hh
            exact h4 i hk hx (cmpLL_trans hh (lessB_iff.1 hl))
          · obtain rfl : i = k := by omega
            exact cmpLL_irr _
        · rw [if_neg hl]
          refine .inr ⟨j, by omega, rfl, h3, fun i hi hx => ?_⟩
          by_cases hk : i < k
          · exact h4 i hk hx
          · obtain rfl : i = k := by omega
            exact fun hh => hl (lessB_iff.2 hh)
/-- what a state without error says -/
structure GoodS (ms : List Mk) (fs : List Fd) (found : List Sg) (cls : List Cl) : Prop where
  (hok : ∀ m ∈ ms, m.ok) (hfo : ∀ f ∈ fs, f.ok) (hcl : clashB ms = false) (hmk : ∀ m ∈ ms, markB m = true)
  (hc : ∀ c ∈ cls, claimB c = true) (hn : (cls.map Cl.own).Nodup) (hs : ∀ s ∈ found, s.ok)
theorem GoodS.of {ms : List Mk} {fs : List Fd} {day : Int} {found : List Sg} {cls : List Cl} (h : chE ms fs day found cls = 0) (hok : ∀ m ∈ ms, m.ok) (hfo : ∀ f ∈ fs, f.ok) (hs : ∀ s ∈ found, s.ok) : GoodS ms fs found cls := by
  unfold chE at h
  obtain ⟨h1, _, _, h4⟩ := fstE_four h
  obtain ⟨_, h5, h6⟩ := cl_ok h4
  have h2 := sm_ok h1
  exact ⟨hok, hfo, h2.2.2.2.2.2, h2.2.2.1, h5, h6, hs⟩
theorem shB_zero {fits : List Nat} {wt : List Int} {cl : Nat} (hc : cl < 2 ^ 41) (hc0 : cl.testBit 0 = false) : shB fits wt 0 = false := by
  cases e : shB fits wt 0
  · rfl
  · have h2 := (shB_sq (p := 0) (by simp) hc hc0).1 e
    have : sq 0 (wc cl wt) = 0 := by
      rw [sq_sum (by omega) (Nat.zero_testBit 0)]
      rw [(bitsK_nil (by omega)).2 rfl]
      rfl
    omega
theorem short_none {ms : List Mk} {fs : List Fd} {day : Int} {found : List Sg} {cls : List Cl} (g : GoodS ms fs found cls) (h : ∀ x : PS (clN cls), shB (fitsN ms fs day found cls) (wtL cls) x.1 = false) (k : Nat) : bsK ms fs day found cls k = none := by
  rcases bsK_spec (ms := ms) (fs := fs) (day := day) (found := found) (cls := cls) k with ⟨h1, _⟩ | ⟨j, _, _, h3, _⟩
  · exact h1
  · obtain ⟨P, hP⟩ := ex_P g.hc g.hn j
    rw [sh_sh g.hok g.hfo g.hcl g.hmk g.hc g.hn hP g.hs] at h3
    by_cases hz : P = 0
    · rw [hz, shB_zero (clN_41 g.hc) (clN_0 g.hc)] at h3
      cases h3
    · rw [h ⟨P, hz, hP.1⟩] at h3
      cases h3
theorem short_some {ms : List Mk} {fs : List Fd} {day : Int} {found : List Sg} {cls : List Cl} (g : GoodS ms fs found cls) (P0 : PS (clN cls)) (h : shB (fitsN ms fs day found cls) (wtL cls) P0.1 = true) (hmin : ∀ x : PS (clN cls), shB (fitsN ms fs day found cls) (wtL cls) x.1 = true → ¬ cmpLL (lsI x.1) (lsI P0.1) < 0) : bsK ms fs day found cls (2 ^ cls.length) = some (lsI P0.1) := by
  obtain ⟨S0, hS0, hR0⟩ := ex_S P0.2.2
  have hsh := sh_sh (day := day) g.hok g.hfo g.hcl g.hmk g.hc g.hn hR0 g.hs
  rw [h] at hsh
  rcases bsK_spec (ms := ms) (fs := fs) (day := day) (found := found) (cls := cls) (2 ^ cls.length) with ⟨_, h2⟩ | ⟨j, _, h2, h3, h4⟩
  · rw [h2 S0 hS0] at hsh
    cases hsh
  · obtain ⟨P, hP⟩ := ex_P g.hc g.hn j
    have e1 := li_ls g.hc hP
    have e2 := li_ls g.hc hR0
    have h5 := h4 S0 hS0 hsh
    rw [sh_sh g.hok g.hfo g.hcl g.hmk g.hc g.hn hP g.hs] at h3
    have hz : P ≠ 0 := fun e => by
      rw [e, shB_zero (clN_41 g.hc) (clN_0 g.hc)] at h3
      cases h3
    have h6 := hmin ⟨P, hz, hP.1⟩ h3
    rw [h2, e1]
    rw [e1, e2] at h5
    rw [cmpLL_anti h6 h5]
theorem add_or {a z : Nat} (h : a.testBit z = false) : a + 2 ^ z = a ||| 2 ^ z := by
  have hl : a % 2 ^ z < 2 ^ z := Nat.mod_lt _ (Nat.two_pow_pos _)
  have hm : a / 2 ^ z % 2 = 0 := by
    rw [Nat.testBit_eq_decide_div_mod_eq] at h
    have := of_decide_eq_false h
    omega
  obtain ⟨l, hl2⟩ : ∃ l, a % 2 ^ z = l := ⟨_, rfl⟩
  obtain ⟨g, hg⟩ : ∃ g, a / 2 ^ z / 2 = g := ⟨_, rfl⟩
  have e1 : a = 2 ^ (z + 1) * g + l := by
    have h1 := Nat.div_add_mod a (2 ^ z)
    have h2 := Nat.div_add_mod (a / 2 ^ z) 2
    rw [hm, hg, Nat.add_zero] at h2
    rw [← h2, hl2] at h1
    rw [← h1, Nat.pow_succ, Nat.mul_assoc]
  rw [hl2] at hl
  have e2 : 2 ^ z * 1 + l = 2 ^ z * 1 ||| l := Nat.two_pow_add_eq_or_of_lt hl 1
  have e3 : 2 ^ (z + 1) * g + l = 2 ^ (z + 1) * g ||| l := Nat.two_pow_add_eq_or_of_lt (Nat.lt_trans hl (Nat.pow_lt_pow_right (by omega) (by omega))) g
  have hl3 : 2 ^ z * 1 + l < 2 ^ (z + 1) := by rw [Nat.pow_succ]; omega
  have e4 : 2 ^ (z + 1) * g + (2 ^ z * 1 + l) = 2 ^ (z + 1) * g ||| (2 ^ z * 1 + l) := Nat.two_pow_add_eq_or_of_lt hl3 g
  have e5 : a + 2 ^ z = 2 ^ (z + 1) * g + (2 ^ z * 1 + l) := by omega
  rw [e5, e4, e2, e1, e3, Nat.mul_one, Nat.or_assoc, Nat.or_comm l]
theorem ok_at {cl : Nat} {l : List Int} {k i : Nat} (h : okK cl l k = true) (hi : i < k) : hsB cl (l.getD i 0) = true ∧ (i = 0 ∨ l.getD (i - 1) 0 < l.getD i 0) := by
  unfold okK at h
  rw [List.all_eq_true] at h
  have := h i (List.mem_range.2 hi)
  rw [Bool.and_eq_true, Bool.or_eq_true, decide_eq_true_eq, decide_eq_true_eq] at this
  exact this
theorem ok_inc {cl : Nat} {l : List Int} {k : Nat} (h : okK cl l k = true) : ∀ b a, a < b → b < k → l.getD a 0 < l.getD b 0
  | 0, a => fun h1 _ => by omega
  | b + 1, a => fun h1 h2 => by
    have h3 := (ok_at h h2).2
    have h4 : l.getD b 0 < l.getD (b + 1) 0 := by
      rcases h3 with h3 | h3
      · omega
      · exact h3
    by_cases hab : a = b
    · rw [hab]; exact h4
    · have := ok_inc h b a (by omega) (by omega)
      omega
theorem ok_less {cl : Nat} {l : List Int} {k i : Nat} (h : okK cl l k = true) (hi : i ≤ k) : okK cl l i = true := by
  unfold okK at h ⊢
  rw [List.all_eq_true] at h ⊢
  intro j hj
  rw [List.mem_range] at hj
  exact h j (List.mem_range.2 (by omega))
theorem st_bit {cls : List Cl} (hc : ∀ c ∈ cls, claimB c = true) {ows : List Int} (z : Nat) : ∀ i, i ≤ ows.length → okK (clN cls) ows i = true → ((stS cls ows i).testBit z = true ↔ ∃ j o, j < i ∧ ows[j]? = some o ∧ cmX cls o = some z)
  | 0, _, _ => by simp [stS]
  | i + 1, hi, hok => by
    have ih := fun z => st_bit hc (ows := ows) z i (by omega) (ok_less hok (by omega))
    have ho : ows[i]? = some ows[i] := List.getElem?_eq_getElem (by omega)
    obtain ⟨o, hoo⟩ : ∃ o, ows[i] = o := ⟨_, rfl⟩
    rw [hoo] at ho
    have hg : ows.getD i 0 = o := by rw [List.getD_eq_getElem?_getD, ho, Option.getD_some]
    have h1 := (ok_at hok (show i < i + 1 by omega)).1
    rw [hg, hs_cm hc] at h1
    obtain ⟨y, hy⟩ := Option.isSome_iff_exists.1 h1
    have hf : (stS cls ows i).testBit y = false := by
      cases e : (stS cls ows i).testBit y
      · rfl
      · obtain ⟨j, o', hj, h2, h3⟩ := (ih y).1 e
        have h4 := ok_inc hok i j hj (by omega)
        rw [hg, List.getD_eq_getElem?_getD, h2, Option.getD_some] at h4
        obtain ⟨c, hc1, hc2⟩ := cmX_get h3
        obtain ⟨c', hc3, hc4⟩ := cmX_get hy
        rw [hc1] at hc3
        cases hc3
        omega
    rw [stS_succ ho hy, add_or hf, Nat.testBit_or, Bool.or_eq_true, ih z, Nat.testBit_two_pow]
    constructor
    · rintro (⟨j, o', hj, h2, h3⟩ | h)
      · exact ⟨j, o', by omega, h2, h3⟩
      · have h : y = z := by simpa using h
        exact ⟨i, o, by omega, ho, by rw [← h]; exact hy⟩
    · rintro ⟨j, o', hj, h2, h3⟩
      by_cases hji : j < i
      · exact .inl ⟨j, o', hji, h2, h3⟩
      · obtain rfl : j = i := by omega
        rw [ho] at h2
        cases h2
        rw [hy] at h3
        cases h3
        exact .inr (by simp)
theorem cmX_own {cls : List Cl} (hn : (cls.map Cl.own).Nodup) {k : Nat} {c : Cl} (hk : cls[k]? = some c) : cmX cls c.own = some k := by
  refine cmX_some hk rfl fun j y hj hy he => ?_
  have e1 : (cls.map Cl.own)[j]? = some c.own := by rw [List.getElem?_map, hy, Option.map_some, he]
  have e2 : (cls.map Cl.own)[k]? = some c.own := by rw [List.getElem?_map, hk]; rfl
  have hjl := (List.getElem?_eq_some_iff.1 hy).1
  have : j = k := (List.getElem?_inj (by rw [List.length_map]; exact hjl) hn).1 (e1.trans e2.symm)
  omega
theorem ok_rs {cls : List Cl} (hc : ∀ c ∈ cls, claimB c = true) (hn : (cls.map Cl.own).Nodup) {ows : List Int} (hok : okK (clN cls) ows ows.length = true) : RS cls (stS cls ows ows.length) (setL ows) := by
  have hall := okK_all hok (Nat.le_refl _)
  rw [List.take_length] at hall
  refine ⟨setL_lt _ _ hall, fun k c hk => ?_⟩
  have hb := (claim_bd (hc c (List.mem_of_getElem? hk))).1
  rw [Bool.eq_iff_iff, st_bit hc k _ (Nat.le_refl _) hok, setL_bit, List.any_eq_true]
  constructor
  · rintro ⟨j, o, _, h2, h3⟩
    obtain ⟨c', hc1, hc2⟩ := cmX_get h3
    rw [hk] at hc1
    cases hc1
    exact ⟨o, List.mem_of_getElem? h2, by rw [hc2]; simp⟩
  · rintro ⟨o, ho, he⟩
    have he : o.toNat = c.own.toNat := by simpa using he
    have h1 := hall o ho
    unfold hsB at h1
    rw [Bool.and_eq_true, inB_iff] at h1
    obtain ⟨j, hj⟩ := List.getElem?_of_mem ho
    have e : o = c.own := by omega
    exact ⟨j, o, (List.getElem?_eq_some_iff.1 hj).1, hj, by rw [e]; exact cmX_own hn hk⟩
theorem check_eq {ms : List Mk} {fs : List Fd} {day : Int} {found : List Sg} {cls : List Cl} {ows : List Int} (g : GoodS ms fs found cls) : (okK (clN cls) ows ows.length && shR ms fs day found cls (stS cls ows ows.length)) = (okK (clN cls) ows ows.length && shB (fitsN ms fs day found cls) (wtL cls) (setL ows)) := by
  cases hok : okK (clN cls) ows ows.length with
  | false => rfl
  | true => rw [sh_sh g.hok g.hfo g.hcl g.hmk g.hc g.hn (ok_rs g.hc g.hn hok) g.hs]
end Go.Proofs.YtologmoanaccpaaGreatDoor
