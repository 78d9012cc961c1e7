/-
  the search for a beast more: gain's inner function
  a beast more for an owner: gain
  small things of slices
  claims: whether all hold, whether an owner comes twice
  claims and hearings checked: checkClaims, checkHearing
-/
import Derived.Test.YtologmoanaccpaaGreatDoorBE
import Derived.Deep.RegionHeld3
import Derived.RegionTactic
namespace Go.Proofs.YtologmoanaccpaaGreatDoor
set_option linter.all false
open Go.RowKit Go.Shelf

theorem heap_set {W : World} {p : Addr} {v : Value} {b : Nat} (h : b ≠ p.block) : (W.setCell p v).heap[b]? = W.heap[b]? := by
  simp [World.setCell, Array.getElem?_modify, Ne.symm h]
theorem size_set {W : World} {p : Addr} {v : Value} : (W.setCell p v).heap.size = W.heap.size := by simp [World.setCell]
/-- where the search's variables lie -/
structure SkE where
  (w0 w1 : World) (H : Nat) (ba bh bs bk hb ho fb fo nb cb cf : Nat) (fA hA : Option Addr) (fits : List Nat)
structure SkE.ok (E : SkE) : Prop where
  (d1 : E.ba ≠ E.bh) (d2 : E.ba ≠ E.bs) (d3 : E.ba ≠ E.bk) (d4 : E.ba ≠ E.hb) (d5 : E.ba ≠ E.fb)
  (h1 : E.hb ≠ E.bh) (h2 : E.hb ≠ E.bs) (h3 : E.hb ≠ E.bk) (h4 : E.hb ≠ E.fb)
  (n0 : E.H ≤ E.ba) (n1 : E.w0.heap.size ≤ E.ba) (n2 : E.w0.heap.size ≤ E.hb)
  (ln : E.fits.length = E.nb) (sz : E.nb ≤ 60) (nc : E.nb ≤ E.cf) (nd : E.nb ≤ E.cb) (cm : E.cf ≤ 9223372036854775807) (cm2 : E.cb ≤ 9223372036854775807)
  (fs : ∀ f ∈ E.fits, f < 2 ^ 64)
  (fa : 0 < E.nb → E.fA = some ⟨E.fb, E.fo, none⟩) (ha : 0 < E.nb → E.hA = some ⟨E.hb, E.ho, none⟩)
structure SkS (E : SkE) (W : World) (a : Nat) (ow : List Int) : Prop where
  (k : Kept E.w0 W) (ab : a < 2 ^ 64)
  (ca : W.cell? ⟨E.ba, 0, none⟩ = some (.int .u64 a)) (fa : W.frozen? ⟨E.ba, 0, none⟩ = false)
  (ch : W.cell? ⟨E.bh, 0, none⟩ = some (.slice E.fA E.nb E.cf))
  (cs : W.cell? ⟨E.bs, 0, none⟩ = some (.slice E.hA E.nb E.cb))
  (ck : W.cell? ⟨E.bk, 0, none⟩ = some (.func (.func 183) #[] #[.pointer (some ⟨E.ba, 0, none⟩), .pointer (some ⟨E.bh, 0, none⟩), .pointer (some ⟨E.bs, 0, none⟩), .pointer (some ⟨E.bk, 0, none⟩)]))
  (rf : ∀ i f, E.fits[i]? = some f → W.cell? ⟨E.fb, E.fo + i, none⟩ = some (.int .u64 (f : Nat)))
  (rh : ∀ i x, ow[i]? = some x → W.cell? ⟨E.hb, E.ho + i, none⟩ = some (.int .i64 x) ∧ W.frozen? ⟨E.hb, E.ho + i, none⟩ = false)
  (v : SkV E.fits ow)
  (q : ∀ b, b < E.H → b ≠ E.hb → W.heap[b]? = E.w1.heap[b]?) (sz : E.H ≤ W.heap.size)
theorem SkS.drew {E : SkE} {W : World} {a : Nat} {ow : List Int} (h : SkS E W a ow) : SkS E W.drew a ow :=
  ⟨h.k.drew, h.ab, h.ca, h.fa, h.ch, h.cs, h.ck, h.rf, h.rh, h.v, h.q, h.sz⟩
theorem SkS.ask {E : SkE} {W : World} {a a' : Nat} {ow : List Int} (hE : E.ok) (h : SkS E W a ow) (ha : a' < 2 ^ 64) : SkS E (W.setCell ⟨E.ba, 0, none⟩ (.int .u64 (a' : Nat))) a' ow := by
  have hf : ∀ b o, b ≠ E.ba → (W.setCell ⟨E.ba, 0, none⟩ (.int .u64 (a' : Nat))).cell? ⟨b, o, none⟩ = W.cell? ⟨b, o, none⟩ := fun b o hb => World.cell?_setCell_far _ _ _ _ (Ne.symm hb)
  have hr : RowC W E.ba [.int .u64 (a : Nat)] := fun j v hv => by
    cases j with
    | zero => simp at hv; subst hv; exact ⟨h.ca, h.fa⟩
    | succ j => simp at hv
  have hp := hr.put (j := 0) (by simp) (.int .u64 (a' : Nat)) 0 _ rfl
  refine ⟨h.k.setCell hE.n1 _, ha, hp.1, hp.2, ?_, ?_, ?_, fun i f hi => ?_, fun i x hi => ?_, h.v, fun b hb h1 => (heap_set (by simp; have := hE.n0; omega)).trans (h.q b hb h1), by rw [size_set]; exact h.sz⟩
  · rw [hf _ _ hE.d1.symm]; exact h.ch
  · rw [hf _ _ hE.d2.symm]; exact h.cs
  · rw [hf _ _ hE.d3.symm]; exact h.ck
  · rw [hf _ _ hE.d5.symm]; exact h.rf i f hi
  · have h1 := h.rh i x hi
    have hr2 : RowC W E.hb [] := fun j v hv => by simp at hv
    rw [hf _ _ hE.d4.symm]
    exact ⟨h1.1, by rw [World.frozen?_setCell]; exact h1.2⟩
theorem SkS.give {E : SkE} {W : World} {a : Nat} {ow : List Int} {k : Nat} {x : Int} (hE : E.ok) (h : SkS E W a ow) (hk : k < ow.length) (hv : SkV E.fits (ow.set k x)) : SkS E (W.setCell ⟨E.hb, E.ho + k, none⟩ (.int .i64 x)) a (ow.set k x) := by
  have hf : ∀ b o, b ≠ E.hb → (W.setCell ⟨E.hb, E.ho + k, none⟩ (.int .i64 x)).cell? ⟨b, o, none⟩ = W.cell? ⟨b, o, none⟩ := fun b o hb => World.cell?_setCell_far _ _ _ _ (Ne.symm hb)
  have h0 := h.rh k _ (List.getElem?_eq_getElem hk)
  refine ⟨h.k.setCell hE.n2 _, h.ab, ?_, ?_, ?_, ?_, ?_, fun i f hi => ?_, fun i y hi => ?_, hv, fun b hb h1 => (heap_set (by simp; omega)).trans (h.q b hb h1), by rw [size_set]; exact h.sz⟩
  · rw [hf _ _ hE.d4]; exact h.ca
  · rw [World.frozen?_setCell]; exact h.fa
  · rw [hf _ _ hE.h1.symm]; exact h.ch
  · rw [hf _ _ hE.h2.symm]; exact h.cs
  · rw [hf _ _ hE.h3.symm]; exact h.ck
  · rw [hf _ _ hE.h4.symm]; exact h.rf i f hi
  · rw [set_at] at hi
    rw [World.frozen?_setCell]
    by_cases hik : k = i
    · subst hik
      rw [if_pos rfl, if_pos hk] at hi
      cases hi
      exact ⟨World.cell?_setCell_same' _ _ _ (by rw [h0.1]; rfl), h0.2⟩
    · rw [if_neg hik] at hi
      have h1 := h.rh i y hi
      exact ⟨(World.cell?_setCell_other (w := W) (a := ⟨E.hb, E.ho + k, none⟩) (b := ⟨E.hb, E.ho + i, none⟩) (v := .int .i64 x) (by simpa using hik)).trans h1.1, h1.2⟩

/-- what the search answers -/
def SkR (E : SkE) (o a : Nat) (ow : List Int) (e : Ending) (W' : World) : Prop :=
  (∃ a' ow', e = .returned (.bool true) ∧ SkS E W' a' ow' ∧ SkT o a ow ow') ∨ (∃ a', e = .returned (.bool false) ∧ SkS E W' a' ow ∧ SkF E.fits o a a' ow)
set_option maxRecDepth 100000 in
set_option maxHeartbeats 6400000 in
theorem seek_any (E : SkE) (hE : E.ok) : ∀ (μ o a : Nat) (ow : List Int) (W : World), SkS E W a ow → 1 ≤ o → o ≤ 40 → a.testBit o = false → mu a ≤ μ →
    Calls Tryz.prog 183 #[.int .i64 (o : Int), .pointer (some ⟨E.ba, 0, none⟩), .pointer (some ⟨E.bh, 0, none⟩), .pointer (some ⟨E.bs, 0, none⟩), .pointer (some ⟨E.bk, 0, none⟩)] W (SkR E o a ow) := by
  intro μ
  induction μ with
  | zero =>
    intro o a ow W _ h1 h2 h3 h4
    have : o ∈ (List.range 41).filter fun i => !a.testBit i := by simp [h3]; omega
    have := List.length_pos_of_mem this
    unfold mu at h4
    omega
  | succ μ ih =>
    intro o a ow W hS ho1 ho2 hao hmu
    have hm0 : ∀ q, a.testBit q = true → (a ||| 2 ^ o).testBit q = true := fun q h => by rw [bit_or, h]; rfl
    have hbo : (a ||| 2 ^ o).testBit o = true := by rw [bit_or]; simp
    have hmu2 : mu (a ||| 2 ^ o) < mu a := mu_lt hm0 ho2 hao hbo
    have ha64 : a ||| 2 ^ o < 2 ^ 64 := Nat.or_lt_two_pow hS.ab (Nat.pow_lt_pow_right (by omega) (by omega))
    have hor : bits BinOp.or IntKind.u64 (a : Int) ((2 : Int) ^ o) = ((a ||| 2 ^ o : Nat) : Int) := by
      have h := bits_or_u64_nat a (2 ^ o) (by simpa using hS.ab) (by simpa using Nat.pow_lt_pow_right (a := 2) (by omega) (show o < 64 by omega))
      rw [show ((2 ^ o : Nat) : Int) = (2 : Int) ^ o by push_cast; rfl] at h
      exact h
    have HS := Lib.hid hS
    have HE := Lib.hid hE
    have IH := Lib.hid ih
    have HM0 := Lib.hid hm0
    have HBO := Lib.hid hbo
    have HJ : RowKit.Hid (∀ W, Calls Tryz.prog 108 #[.int .i64 (o : Int)] W fun e w' => e = .returned (.int .u64 ((2 : Int) ^ o)) ∧ W = w') := Lib.hid (fun W => just_any o (by omega) W)
    have c0 := hS.ca
    have f0 := hS.fa
    have hmm : mu (a ||| 2 ^ o) ≤ μ := by omega
    obtain ⟨a1, ha1⟩ : ∃ a1, a1 = a ||| 2 ^ o := ⟨_, rfl⟩
    rw [← ha1] at hor hmm ha64 HM0 HBO
    have HA1 : RowKit.Hid (∀ q, a1.testBit q = (a.testBit q || decide (o = q))) := Lib.hid (fun q => by rw [ha1, bit_or])
    have HAO := Lib.hid hao
    have HMM := Lib.hid hmm
    have HA64 := Lib.hid ha64
    clear hS ih hm0 hbo hmu hmu2 hao hmm ha64 ha1 hE
    go_enter Tryz.func183, Tryz.ntmps183
    go_upto_region 1 with (fail)
    go_cut [] (fun wx => SkS E wx a1 ow)
    case first =>
      go_region_law (first | (rw [if_pos (by rfl)]; go_simp; refine (HJ.out _).mono ?_; rintro e w1 ⟨rfl, rfl⟩; go_wp2_with fail) | fail)
      all_goals go_wp2
      all_goals go_meet
      all_goals exact (HS.out.ask HE.out HA64.out).drew
    case rest =>
      obtain ⟨W1, rfl⟩ : ∃ wd, wd = wc := ⟨_, rfl⟩
      have HS1 := Lib.hid hcut
      obtain ⟨fA, hfA⟩ : ∃ x, E.fA = x := ⟨_, rfl⟩
      obtain ⟨hA, hhA⟩ : ∃ x, E.hA = x := ⟨_, rfl⟩
      have HFA := Lib.hid hfA
      have HHA := Lib.hid hhA
      have HC0 : RowKit.Hid (∀ W a ow, SkS E W a ow → W.cell? ⟨E.bh, 0, none⟩ = some (.slice fA E.nb E.cf)) := Lib.hid (fun W a ow h => by rw [← hfA]; exact h.ch)
      have HC1 : RowKit.Hid (∀ W a ow, SkS E W a ow → W.cell? ⟨E.bs, 0, none⟩ = some (.slice hA E.nb E.cb)) := Lib.hid (fun W a ow h => by rw [← hhA]; exact h.cs)
      have g1 := HC0.out W1 a1 ow hcut
      have z1 := HE.out.nc
      have z2 := HE.out.nd
      have z3 := HE.out.cm
      have z4 := HE.out.cm2
      have z5 := HE.out.sz
      clear hcut hfA hhA c0 f0 hor
      go_wp2_with fail
      clear g1
      go_loopw [17] (fun i wr => ∃ k a2 : Nat, k ≤ E.nb ∧ i = .int .i64 k ∧ SkS E wr a2 ow ∧ (∀ q, a1.testBit q = true → a2.testBit q = true) ∧ (∀ q, a2.testBit q = true → a1.testBit q = false → SkQ E.fits ow a2 q) ∧ (∀ j f, j < k → E.fits[j]? = some f → f.testBit o = true → ∃ x, ow[j]? = some x ∧ x ≠ 0 ∧ a2.testBit x.toNat = true)) (fun i _ => E.nb - (intOf i).toNat)
      case atStart =>
        refine ⟨0, a1, by omega, by first | rfl | go_num, HS1.out, fun q h => h, ?_, ?_⟩
        · intro q h1 h2
          rw [h1] at h2
          cases h2
        · intro j f hj
          omega
      case round =>
        obtain ⟨k, a2, hk, rfl, hs2, hm2, hq2, hr2⟩ := hrel
        have HS2 := Lib.hid hs2
        have HM2 := Lib.hid hm2
        have HQ2 := Lib.hid hq2
        have HR2 := Lib.hid hr2
        by_cases hlt : k < E.nb
        · obtain rfl : fA = some ⟨E.fb, E.fo, none⟩ := HFA.out.symm.trans (HE.out.fa (by omega))
          obtain rfl : hA = some ⟨E.hb, E.ho, none⟩ := HHA.out.symm.trans (HE.out.ha (by omega))
          obtain ⟨f, hf⟩ : ∃ f, E.fits[k]? = some f := ⟨_, List.getElem?_eq_getElem (by rw [HE.out.ln]; exact hlt)⟩
          obtain ⟨x, hx⟩ : ∃ x, ow[k]? = some x := ⟨_, List.getElem?_eq_getElem (by rw [hs2.v.1, HE.out.ln]; exact hlt)⟩
          have hf64 := HE.out.fs f (List.mem_of_getElem? hf)
          have HF := Lib.hid hf
          have HX := Lib.hid hx
          obtain ⟨fb, hfb⟩ : ∃ t, f.testBit o = t := ⟨_, rfl⟩
          have HFB := Lib.hid hfb
          have H22 : RowKit.Hid (∀ W, Calls Tryz.prog 92 #[.int .u64 (f : Int), .int .i64 (o : Int)] W fun e w' => e = .returned (.bool fb) ∧ W = w') := Lib.hid (fun W => by rw [← hfb]; exact has_any f o hf64 ho1 ho2 W)
          have b1 := hs2.rf k f hf
          have b2 := (hs2.rh k x hx).1
          have b3 := HC1.out wr a2 ow hs2
          have b4 := hs2.ca
          have b5 := hs2.ck
          have b6 := (hs2.rh k x hx).2
          have l1 := cell_lt b1
          have l2 := cell_lt b2
          have HKL : RowKit.Hid (k < ow.length) := Lib.hid (List.getElem?_eq_some_iff.1 hx).1
          have HXV : RowKit.Hid (x ≠ 0 → 1 ≤ x ∧ x ≤ 40) := Lib.hid (fun h => ⟨(hs2.v.2 k x hx h).1, (hs2.v.2 k x hx h).2.1⟩)
          have HRN : RowKit.Hid (∀ a3 : Nat, (∀ q, a2.testBit q = true → a3.testBit q = true) → (fb = true → x ≠ 0 ∧ a3.testBit x.toNat = true) → ∀ j f, j < k + 1 → E.fits[j]? = some f → f.testBit o = true → ∃ x, ow[j]? = some x ∧ x ≠ 0 ∧ a3.testBit x.toNat = true) := Lib.hid (fun a3 hm hfx j f' hj hfj hbj => by
            by_cases hjk : j = k
            · subst hjk
              rw [HF.out] at hfj
              cases hfj
              rw [HFB.out] at hbj
              exact ⟨x, HX.out, hfx hbj⟩
            · obtain ⟨y, y1, y2, y3⟩ := HR2.out j f' (by omega) hfj hbj
              exact ⟨y, y1, y2, hm _ y3⟩)
          clear hs2 hm2 hq2 hr2 hf hx hf64 hfb
          go_wp2_with fail
          refine (H22.out _).mono ?_
          rintro e w1 ⟨rfl, rfl⟩
          cases fb
          · go_wp2_with fail
            go_roundw
            case rel => exact ⟨k + 1, a2, by omega, by go_num, HS2.out, HM2.out, HQ2.out, HRN.out a2 (fun q h => h) (fun h => by cases h)⟩
            case measure => simp [intOf]; omega
          · by_cases hx0 : x = 0
            · subst hx0
              obtain ⟨v1, t1⟩ := skt_free (a := a) HS2.out.v ho1 ho2 HF.out HFB.out HX.out
              have HG := Lib.hid (HS2.out.give HE.out HKL.out v1)
              have HT1 := Lib.hid t1
              clear v1 t1
              go_wp2_with fail
              go_ret
              exact .inl ⟨a2, _, rfl, HG.out, HT1.out⟩
            · obtain ⟨hx1, hx2⟩ := HXV.out hx0
              obtain ⟨h, rfl⟩ : ∃ h : Nat, x = (h : Int) := ⟨x.toNat, by omega⟩
              have hxx : ((h : Int) == 0) = false := by simp; omega
              obtain ⟨tb, htb⟩ : ∃ t, a2.testBit h = t := ⟨_, rfl⟩
              have HTB := Lib.hid htb
              have H23 : RowKit.Hid (∀ W, Calls Tryz.prog 92 #[.int .u64 (a2 : Int), .int .i64 (h : Int)] W fun e w' => e = .returned (.bool tb) ∧ W = w') := Lib.hid (fun W => by rw [← htb]; exact has_any a2 h HS2.out.ab (by omega) (by omega) W)
              clear htb
              go_wp2_with fail
              refine (H23.out _).mono ?_
              rintro e w1 ⟨rfl, rfl⟩
              cases tb
              · have HI := Lib.hid (IH.out h a2 ow _ HS2.out (by omega) (by omega) HTB.out (Nat.le_trans (mu_le HM2.out) HMM.out))
                go_wp2_with fail
                refine HI.out.mono ?_
                rintro e w3 (⟨a3, ow3, rfl, hs3, ht3⟩ | ⟨a3, rfl, hs3, hf3⟩)
                · obtain ⟨v3, t3⟩ := skt_swap (a := a) HS2.out.v hs3.v ho1 ho2 HF.out HFB.out HX.out (by omega) HTB.out (fun q hq => HM2.out q (HM0.out q hq)) (HM2.out o HBO.out) ht3
                  have hk3 : k < ow3.length := by rw [hs3.v.1, HE.out.ln]; exact hlt
                  have HG := Lib.hid (hs3.give HE.out hk3 v3)
                  have HT3 := Lib.hid t3
                  have d0 := hs3.rh k _ (List.getElem?_eq_getElem hk3)
                  have d1 := d0.1
                  have d2 := d0.2
                  have d3 := HC1.out _ _ _ hs3
                  have l3 := cell_lt d1
                  clear v3 t3 hs3 ht3 d0 b1 b2 b3 b4 b5 b6
                  go_wp2_with fail
                  go_ret
                  exact .inl ⟨a3, _, rfl, HG.out, HT3.out⟩
                · have HS3 := Lib.hid hs3
                  have HF3 := Lib.hid hf3
                  clear hs3 hf3 b1 b2 b3 b4 b5 b6
                  go_wp2_with fail
                  go_roundw
                  case rel => exact ⟨k + 1, a3, by omega, by go_num, HS3.out, fun q hq => HF3.out.2.1 q (HM2.out q hq), fun q h1 h2 => by
                      cases e : a2.testBit q
                      · exact HF3.out.2.2 q h1 e
                      · exact (HQ2.out q e h2).mono HF3.out.2.1, HRN.out a3 HF3.out.2.1 (fun _ => ⟨hx0, by rw [Int.toNat_natCast]; exact HF3.out.1⟩)⟩
                  case measure => simp [intOf]; omega
              · go_wp2_with fail
                go_roundw
                case rel => exact ⟨k + 1, a2, by omega, by go_num, HS2.out, HM2.out, HQ2.out, HRN.out a2 (fun q h => h) (fun _ => ⟨hx0, by rw [Int.toNat_natCast]; exact HTB.out⟩)⟩
                case measure => simp [intOf]; omega
        · obtain rfl : k = E.nb := by omega
          clear hs2 hm2 hq2 hr2
          go_wp2_with fail
          go_ret
          refine .inr ⟨a2, rfl, HS2.out, HM2.out o HBO.out, fun q hq => HM2.out q (HM0.out q hq), fun q h1 h2 => ?_⟩
          cases e : a1.testBit q
          · exact HQ2.out q h1 e
          · have h3 := HA1.out q
            rw [e, h2] at h3
            have h4 : o = q := by simpa using h3.symm
            subst h4
            exact ⟨ho1, ho2, fun b f hb hbo => HR2.out b f (by rw [← HE.out.ln]; exact (List.getElem?_eq_some_iff.1 hb).1) hb hbo⟩
end Go.Proofs.YtologmoanaccpaaGreatDoor

namespace Go.Proofs.YtologmoanaccpaaGreatDoor
set_option linter.all false
open Go.RowKit Go.Shelf

theorem run_store_func {P : Program} {w : World} {a : Addr} {m : Mode} (fn : Fn) (first cap : Array Value) : (store a (.func fn first cap) m).run P w = stored P w a (.func fn first cap) m := run_store P w a _ m rfl
attribute [local go_sem] run_store_func
def hrL (F : Option Addr) (n c : Nat) (cl : Nat) (wt : List Int) : List Value := .slice F n c :: .int .u64 (cl : Int) :: wt.map (Value.int .i64)
structure HasR (W : World) (hA : Option Addr) (nb cb hb ho : Nat) (ow : List Int) : Prop where
  (ln : ow.length = nb) (nc : nb ≤ cb) (cm : cb ≤ 9223372036854775807)
  (ha : 0 < nb → hA = some ⟨hb, ho, none⟩) (lt : hb < W.heap.size)
  (rh : ∀ i x, ow[i]? = some x → W.cell? ⟨hb, ho + i, none⟩ = some (.int .i64 x) ∧ W.frozen? ⟨hb, ho + i, none⟩ = false)
structure FitR (W : World) (fA : Option Addr) (nb cf fb fo : Nat) (fits : List Nat) : Prop where
  (ln : fits.length = nb) (sz : nb ≤ 60) (nc : nb ≤ cf) (cm : cf ≤ 9223372036854775807) (fs : ∀ f ∈ fits, f < 2 ^ 64)
  (fa : 0 < nb → fA = some ⟨fb, fo, none⟩) (lt : fb < W.heap.size)
  (rf : ∀ i f, fits[i]? = some f → W.cell? ⟨fb, fo + i, none⟩ = some (.int .u64 (f : Nat)))
theorem FitR.kept {w w' : World} {fA : Option Addr} {nb cf fb fo : Nat} {fits : List Nat} (h : FitR w fA nb cf fb fo fits) (hk : Kept w w') : FitR w' fA nb cf fb fo fits :=
  ⟨h.ln, h.sz, h.nc, h.cm, h.fs, h.fa, Nat.lt_of_lt_of_le h.lt hk.size, fun i f hi => (hk.cells _ _ h.lt).trans (h.rf i f hi)⟩
theorem HasR.kept {w w' : World} {hA : Option Addr} {nb cb hb ho : Nat} {ow : List Int} (h : HasR w hA nb cb hb ho ow) (hk : Kept w w') : HasR w' hA nb cb hb ho ow :=
  ⟨h.ln, h.nc, h.cm, h.ha, Nat.lt_of_lt_of_le h.lt hk.size, fun i f hi => ⟨(hk.cells _ _ h.lt).trans (h.rh i f hi).1, (hk.frozens _ _ h.lt).trans (h.rh i f hi).2⟩⟩
def GnP (w0 w : World) (hA : Option Addr) (nb cb hb ho : Nat) (fits : List Nat) (o : Nat) (ow : List Int) (e : Ending) (w' : World) : Prop :=
  ∃ ow' r, e = .returned (.bool r) ∧ HasR w' hA nb cb hb ho ow' ∧ SkV fits ow' ∧ Kept w0 w' ∧ (∀ b, b < w.heap.size → b ≠ hb → w'.heap[b]? = w.heap[b]?) ∧ w.heap.size ≤ w'.heap.size ∧
    (r = true → (∀ q : Int, q ≠ 0 → q ≠ (o : Int) → ow'.count q = ow.count q) ∧ ow'.count (o : Int) = ow.count (o : Int) + 1) ∧
    (r = false → ow' = ow ∧ ∃ a : Nat, a.testBit o = true ∧ ∀ q, a.testBit q = true → SkQ fits ow a q)
set_option maxRecDepth 100000 in
set_option maxHeartbeats 3200000 in
theorem gain_any (w0 w : World) (fA hA : Option Addr) (nb cf fb fo cb hb ho cl o : Nat) (wt : List Int) (fits : List Nat) (ow : List Int) (hk : Kept w0 w) (hf : FitR w fA nb cf fb fo fits) (hh : HasR w hA nb cb hb ho ow) (hv : SkV fits ow) (hne : hb ≠ fb) (hn0 : w0.heap.size ≤ hb) (ho1 : 1 ≤ o) (ho2 : o ≤ 40) :
    Calls Tryz.prog 130 #[.agg (hrL fA nb cf cl wt).toArray, .slice hA nb cb, .int .i64 (o : Int)] w (GnP w0 w hA nb cb hb ho fits o ow) := by
  have HF := Lib.hid hf
  have HH := Lib.hid hh
  have HV := Lib.hid hv
  have HK := Lib.hid hk
  have hmf : ∀ (fn : Fn) (first cap : Array Value) (w : World), (Instr.makeFunc fn first cap).run Tryz.prog w = .ok (.func fn first cap) w := fun _ _ _ _ => rfl
  clear hf hh hv hk
  go_enter Tryz.func130, Tryz.ntmps130
  go_wp2_with fail
  obtain ⟨Wa, hWa⟩ : ∃ Wa, Wa = w.alloc (.cells (hrL fA nb cf cl wt).toArray 153) := ⟨_, rfl⟩
  obtain ⟨Wb, hWb⟩ : ∃ Wb, Wb = Wa.alloc (.cells #[.slice hA nb cb] 43) := ⟨_, rfl⟩
  obtain ⟨Wc, hWc⟩ : ∃ Wc, Wc = Wb.alloc (.cells #[.int .u64 0] 117) := ⟨_, rfl⟩
  obtain ⟨Wd, hWd⟩ : ∃ Wd, Wd = Wc.alloc (.cells #[.func (.func 183) #[] #[.pointer (some ⟨w.heap.size + 1 + 1, 0, none⟩), .pointer (some ⟨w.heap.size, 0, none⟩), .pointer (some ⟨w.heap.size + 1, 0, none⟩), .pointer (some ⟨w.heap.size + 1 + 1 + 1, 0, none⟩)]] 102) := ⟨_, rfl⟩
  have za : Wa.heap.size = w.heap.size + 1 := by rw [hWa]; simp
  have zb : Wb.heap.size = w.heap.size + 1 + 1 := by rw [hWb]; simp [za]
  have zc : Wc.heap.size = w.heap.size + 1 + 1 + 1 := by rw [hWc]; simp [zb]
  have ka : Kept w Wa := by rw [hWa]; exact (Kept.refl _).alloc _
  have kb : Kept Wa Wb := by rw [hWb]; exact (Kept.refl _).alloc _
  have kc : Kept Wb Wc := by rw [hWc]; exact (Kept.refl _).alloc _
  have kd : Kept Wc Wd := by rw [hWd]; exact (Kept.refl _).alloc _
  have kwd := ka.trans (kb.trans (kc.trans kd))
  have ra : RowC Wa w.heap.size (hrL fA nb cf cl wt) := by rw [hWa]; exact RowC.new w _ 153
  have rb : RowC Wb (w.heap.size + 1) [.slice hA nb cb] := by rw [hWb, ← za]; exact RowC.new Wa [.slice hA nb cb] 43
  have rc : RowC Wc (w.heap.size + 1 + 1) [.int .u64 0] := by rw [hWc, ← zb]; exact RowC.new Wb [.int .u64 0] 117
  have rd : RowC Wd (w.heap.size + 1 + 1 + 1) [.func (.func 183) #[] #[.pointer (some ⟨w.heap.size + 1 + 1, 0, none⟩), .pointer (some ⟨w.heap.size, 0, none⟩), .pointer (some ⟨w.heap.size + 1, 0, none⟩), .pointer (some ⟨w.heap.size + 1 + 1 + 1, 0, none⟩)]] := by
    rw [hWd, ← zc]; exact RowC.new Wc [_] 102
  have hlt := HH.out.lt
  have hfl := HF.out.lt
  have hE : SkE.ok ⟨w0, w, w.heap.size, w.heap.size + 1 + 1, w.heap.size, w.heap.size + 1, w.heap.size + 1 + 1 + 1, hb, ho, fb, fo, nb, cb, cf, fA, hA, fits⟩ := by
    refine ⟨?_, ?_, ?_, ?_, ?_, ?_, ?_, ?_, hne, ?_, ?_, hn0, HF.out.ln, HF.out.sz, HF.out.nc, HH.out.nc, HF.out.cm, HH.out.cm, HF.out.fs, HF.out.fa, HH.out.ha⟩ <;> (have := HK.out.size; dsimp only; omega)
  have hS : SkS ⟨w0, w, w.heap.size, w.heap.size + 1 + 1, w.heap.size, w.heap.size + 1, w.heap.size + 1 + 1 + 1, hb, ho, fb, fo, nb, cb, cf, fA, hA, fits⟩ Wd 0 ow := by
    have c1 := (rc.kept kd) 0 _ rfl
    have c2 := (rb.kept (kc.trans kd)) 0 _ rfl
    have c3 := (ra.kept (kb.trans (kc.trans kd))) 0 _ rfl
    refine ⟨HK.out.trans kwd, by decide, c1.1, c1.2, c3.1, c2.1, (rd 0 _ rfl).1, (HF.out.kept kwd).rf, (HH.out.kept kwd).rh, HV.out, fun b hb _ => kwd.block b hb, kwd.size⟩
  have HSK := Lib.hid (seek_any _ hE 64 o 0 ow Wd hS ho1 ho2 (Nat.zero_testBit o) (by unfold mu; exact Nat.le_trans (List.length_filter_le _ _) (by simp)))
  rw [← hWa, ← hWb, ← hWc, ← hWd]
  clear hWa hWb hWc hWd za zb zc ka kb kc kd kwd ra rb rc rd hE hS
  refine HSK.out.mono ?_
  rintro e w5 (⟨a', ow', rfl, hs, t1, t2, t3⟩ | ⟨a', rfl, hs, f1, f2, f3⟩)
  · have HS5 := Lib.hid hs
    have T1 := Lib.hid t1
    have T2 := Lib.hid t2
    clear hs t1 t2 t3
    go_wp2
    go_ret
    have h := HS5.out
    exact ⟨ow', true, rfl, ⟨h.v.1.trans HF.out.ln, HH.out.nc, HH.out.cm, HH.out.ha, Nat.lt_of_lt_of_le hlt h.sz, h.rh⟩, h.v, h.k, h.q, h.sz, (fun _ => ⟨T1.out, T2.out⟩), (fun e => by cases e)⟩
  · have HS5 := Lib.hid hs
    have F1 := Lib.hid f1
    have F3 := Lib.hid f3
    clear hs f1 f2 f3
    go_wp2
    go_ret
    have h := HS5.out
    exact ⟨ow, false, rfl, ⟨h.v.1.trans HF.out.ln, HH.out.nc, HH.out.cm, HH.out.ha, Nat.lt_of_lt_of_le hlt h.sz, h.rh⟩, h.v, h.k, h.q, h.sz, (fun e => by cases e), fun _ => ⟨rfl, a', F1.out, fun q hq => F3.out q hq (Nat.zero_testBit q)⟩⟩
end Go.Proofs.YtologmoanaccpaaGreatDoor

namespace Go.Proofs.YtologmoanaccpaaGreatDoor
set_option linter.all false
open Go.RowKit Go.Shelf

theorem own_slice {w : World} {b : Nat} {e : TypeId} {s : Nat} {v : Value} {n : Nat} {ys : List Value} (h : w.ownsRow b e s v n ys) : ∃ A c, v = .slice A n c := by
  rcases h.2 with ⟨h1, h2⟩ | ⟨g, cap, cur, h1, _⟩
  · exact ⟨none, 0, by rw [h1, h2]⟩
  · exact ⟨_, cap, h1⟩
def inC (x : Int) : List Value := [.int .i64 x]
theorem sla_row {α : Type} {enc : α → List Value} {k : Nat} {ok : α → Prop} {W : World} {b n c : Nat} {xs : List α} (hk : ∀ x, (enc x).length = k) (hn : xs.length = n) (hc : n ≤ c) (hm : c ≤ 9223372036854775807) (ho : ∀ x ∈ xs, ok x) (hr : RowC W b (xs.flatMap enc)) : SlA enc k ok W (some ⟨b, 0, none⟩) n c xs := by
  refine ⟨hn, hc, hm, ho, fun _ => ⟨b, 0, rfl, fun i x hx j v hv => ?_⟩⟩
  rw [Nat.zero_add]
  refine (hr (i * k + j) v ?_).1
  have hj : j < k := by rw [← hk x]; exact (List.getElem?_eq_some_iff.1 hv).1
  clear hn ho hr hc hm
  induction xs generalizing i with
  | nil => simp at hx
  | cons y ys ih =>
    rw [List.flatMap_cons]
    cases i with
    | zero =>
      simp at hx
      subst hx
      rw [List.getElem?_append_left (by rw [hk]; omega)]
      simpa using hv
    | succ i =>
      rw [List.getElem?_append_right (by rw [hk, Nat.succ_mul]; omega), hk, show (i + 1) * k + j - k = i * k + j by rw [Nat.succ_mul]; omega]
      exact ih i (by simpa using hx)
end Go.Proofs.YtologmoanaccpaaGreatDoor

namespace Go.Proofs.YtologmoanaccpaaGreatDoor
set_option linter.all false
open Go.RowKit Go.Shelf

def claimB (x : Cl) : Bool := inB x.own 1 40 && inB x.num 0 60
set_option maxRecDepth 100000 in
theorem isClaim_any (x : Cl) (w : World) : Calls Tryz.prog 180 #[.agg #[.int .i64 x.own, .int .i64 x.num]] w fun e w' => e = .returned (.bool (claimB x)) ∧ Kept w w' := by
  obtain ⟨W0, hW0⟩ : ∃ W0, W0 = w.alloc (.cells #[.int .i64 x.own, .int .i64 x.num] 94) := ⟨_, rfl⟩
  have K0 : RowKit.Hid (Kept w W0) := Lib.hid (by rw [hW0]; exact (Kept.refl _).alloc _)
  have R0 : RowKit.Hid (RowC W0 w.heap.size (clC x)) := Lib.hid (by rw [hW0]; exact RowC.new w (clC x) 94)
  have HW := Lib.hid hW0
  obtain ⟨b1, hb1⟩ : ∃ b, inB x.own 1 40 = b := ⟨_, rfl⟩
  obtain ⟨b2, hb2⟩ : ∃ b, inB x.num 0 60 = b := ⟨_, rfl⟩
  have HB : RowKit.Hid (claimB x = (b1 && b2)) := Lib.hid (by unfold claimB; rw [hb1, hb2])
  have H1 : RowKit.Hid (∀ W, Calls Tryz.prog 79 #[.int .i64 x.own] W fun e w' => e = .returned (.bool b1) ∧ W = w') := Lib.hid (fun W => by rw [← hb1]; exact isOwner_any _ W)
  have H2 : RowKit.Hid (∀ W, Calls Tryz.prog 147 #[.int .i64 x.num, .int .i64 0, .int .i64 60] W fun e w' => e = .returned (.bool b2) ∧ W = w') := Lib.hid (fun W => by rw [← hb2]; exact within_any _ _ _ W)
  have a0 := (R0.out 0 _ rfl).1
  have a1 := (R0.out 1 _ rfl).1
  have la := cell_lt a0
  clear hW0 hb1 hb2
  cases b1
  · go_enter Tryz.func180, Tryz.ntmps180
    go_upto_region 1 with (fail)
    rw [← HW.out]
    go_wp2_with fail
    refine (H1.out _).mono ?_
    rintro e w1 ⟨rfl, rfl⟩
    go_wp2
    go_ret
    exact ⟨ret_bool (by rw [HB.out]; rfl), K0.out⟩
  · go_enter Tryz.func180, Tryz.ntmps180
    go_upto_region 1 with (fail)
    rw [← HW.out]
    go_wp2_with fail
    refine (H1.out _).mono ?_
    rintro e w1 ⟨rfl, rfl⟩
    go_wp2_with fail
    refine (H2.out _).mono ?_
    rintro e w1 ⟨rfl, rfl⟩
    go_wp2
    go_ret
    exact ⟨ret_bool (by rw [HB.out]; rfl), K0.out⟩
set_option maxRecDepth 100000 in
theorem every_cl (g : Nat) (lb : Array Value) (p : Cl → Bool) (eg : ∀ args w, (callFunc g args).run Tryz.prog w = .ok (.enter g args) w) (A : Option Addr) (n c : Nat) (xs : List Cl) (w : World) (hs : SlA clC 2 Cl.ok w A n c xs) (hp : PredG clC Cl.ok g lb p w) :
    Calls Tryz.prog 179 #[.slice A n c, .func (.func g) #[] lb] w fun e w' => e = .returned (.bool (xs.all p)) ∧ Kept w w' := by
  have HS := Lib.hid hs
  have HP := Lib.hid hp
  have hnc := hs.2.1
  have hcm := hs.2.2.1
  clear hs hp
  go_enter Tryz.func179, Tryz.ntmps179
  go_wp2_with fail
  go_loopw [9] (fun i wr => ∃ k : Nat, k ≤ n ∧ i = .int .i64 k ∧ (∀ j x, j < k → xs[j]? = some x → p x = true) ∧ Kept w wr) (fun i _ => n - (intOf i).toNat)
  case atStart => exact ⟨0, by omega, by first | rfl | go_num, fun j x hj => by omega, Kept.refl _⟩
  case round =>
    obtain ⟨k, hk, rfl, ho, hkr⟩ := hrel
    have Ho := Lib.hid ho
    have HKR := Lib.hid hkr
    clear ho hkr
    by_cases hlt : k < n
    · obtain ⟨x, hx⟩ : ∃ x, xs[k]? = some x := ⟨_, List.getElem?_eq_getElem (by rw [HS.out.1]; exact hlt)⟩
      have hok := Lib.hid (HS.out.2.2.2.1 x (List.mem_of_getElem? hx))
      obtain ⟨b, off, hA, ht⟩ := HS.out.2.2.2.2 (by omega)
      subst hA
      have hcc := fun j v hv => (HKR.out.cells _ _ (cell_lt (ht k x hx j v hv))).trans (ht k x hx j v hv)
      have c0 := hcc 0 _ rfl
      have c1 := hcc 1 _ rfl
      simp only [Nat.add_zero] at c0
      have Hx := Lib.hid hx
      clear hx ht hcc
      obtain ⟨q, hq⟩ : ∃ q, p x = q := ⟨_, rfl⟩
      have HQ := Lib.hid hq
      have HC : RowKit.Hid (∀ W, Kept w W → Calls Tryz.prog g (#[.agg (clC x).toArray] ++ lb) W fun e w' => e = .returned (.bool q) ∧ Kept W w') := Lib.hid (fun W hW => by rw [← hq]; exact HP.out W x hok.out hW)
      unfold clC at HC
      clear hq
      go_wp2_with fail
      refine (HC.out _ (HKR.out.alloc _)).mono ?_
      rintro e w1 ⟨rfl, hk1⟩
      have HK1 := Lib.hid ((HKR.out.alloc _).trans hk1)
      clear hk1
      cases q
      · go_wp2
        go_ret
        exact ⟨ret_bool (all_false Hx.out HQ.out).symm, HK1.out⟩
      · go_wp2
        go_roundw
        case rel =>
          refine ⟨k + 1, by omega, by go_num, fun j y hj hy => ?_, HK1.out⟩
          rcases Nat.lt_or_eq_of_le (Nat.le_of_lt_succ hj) with h | h
          · exact Ho.out j y h hy
          · subst h
            have := Hx.out
            rw [hy] at this
            cases this
            exact HQ.out
        case measure => simp [intOf]; omega
    · obtain rfl : k = n := by omega
      go_wp2
      go_ret
      exact ⟨ret_bool (all_true HS.out.1 Ho.out).symm, HKR.out⟩

theorem e81 : ∀ args w, (callFunc 180 args).run Tryz.prog w = .ok (.enter 180 args) w := enters_of Tryz.func180 (by kernel_rfl) rfl
theorem pred81 (w : World) : PredG clC Cl.ok 180 #[] claimB w := fun W x hx _ => isClaim_any x W
set_option maxRecDepth 100000 in
set_option maxHeartbeats 3200000 in
theorem repeats_in (A : Option Addr) (n c : Nat) (xs : List Int) (w : World) (hs : SlA inC 1 i64 w A n c xs) :
    Calls Tryz.prog 181 #[.slice A n c] w fun e w' => e = .returned (.bool (repB xs)) ∧ Kept w w' := by
  have HS := Lib.hid hs
  have hnc := hs.2.1
  have hcm := hs.2.2.1
  have hmm := @run_makeMap Tryz.prog
  have m0 := Lib.hid (MapG.new k3 w)
  clear hs
  go_enter Tryz.func181, Tryz.ntmps181
  go_wp2_with fail
  go_loopw [9] (fun i wr => ∃ k : Nat, k ≤ n ∧ i = .int .i64 k ∧ (xs.take k).Nodup ∧ MapG k3 wr w.heap.size (seenF (xs.take k)) ∧ Kept w wr) (fun i _ => n - (intOf i).toNat)
  case atStart => exact ⟨0, by omega, by first | rfl | go_num, by simp, MapG.congr k3 m0.out (fun k => by simp [seenF]), (Kept.refl _).alloc _⟩
  case round =>
    obtain ⟨k, hk, rfl, ho, hmap, hkr⟩ := hrel
    have Ho := Lib.hid ho
    have HKR := Lib.hid hkr
    have hsz := hkr.size
    clear ho hkr
    by_cases hlt : k < n
    · obtain ⟨x, hx⟩ : ∃ x, xs[k]? = some x := ⟨_, List.getElem?_eq_getElem (by rw [HS.out.1]; exact hlt)⟩
      obtain ⟨b, off, hA, ht⟩ := HS.out.2.2.2.2 (by omega)
      subst hA
      have hcc := fun j v hv => (HKR.out.cells _ _ (cell_lt (ht k x hx j v hv))).trans (ht k x hx j v hv)
      have c0 := hcc 0 _ rfl
      simp only [Nat.add_zero, Nat.mul_one] at c0
      have Hx := Lib.hid hx
      have m2 := hmap
      clear hx ht hcc hmap
      by_cases hin : x ∈ xs.take k
      · have r2 := run_lookup_some k3 (T := 248) Tryz.underlying248 m2 (k := x) (v := .bool true) (by unfold seenF; rw [if_pos hin])
        simp only [k3, intKeys] at r2
        have HIN := Lib.hid hin
        clear hin m2
        go_wp2
        go_ret
        exact ⟨ret_bool (rep_yes Hx.out HIN.out).symm, HKR.out⟩
      · have r2 := run_lookup_none k3 (T := 248) Tryz.underlying248 (z := .bool false) zeroValue4 m2 (k := x) (by unfold seenF; rw [if_neg hin])
        obtain ⟨w2, r3, m3, b3⟩ := run_mapUpdate_is k3 (T := 248) Tryz.underlying248 m2 x (.bool true)
        have M3 := Lib.hid (MapG.congr k3 m3 (seenF_snoc (xs.take k) x))
        have K3 := Lib.hid (Kept.only HKR.out b3 (Nat.le_refl _))
        simp only [k3, intKeys] at r2 r3
        have HIN := Lib.hid hin
        clear hin m2 m3 b3
        go_wp2
        go_roundw
        case rel => exact ⟨k + 1, by omega, by go_num, by rw [take_snoc' Hx.out]; exact nodup_snoc Ho.out HIN.out, by rw [take_snoc' Hx.out]; exact M3.out, K3.out⟩
        case measure => simp [intOf]; omega
    · obtain rfl : k = n := by omega
      have hT : xs.take k = xs := List.take_of_length_le (by rw [HS.out.1]; exact Nat.le_refl _)
      have ho := Ho.out
      rw [hT] at ho
      have HO := Lib.hid ho
      clear hT ho
      go_wp2
      go_ret
      exact ⟨ret_bool (rep_no HO.out).symm, HKR.out⟩
end Go.Proofs.YtologmoanaccpaaGreatDoor

namespace Go.Proofs.YtologmoanaccpaaGreatDoor
set_option linter.all false
open Go.RowKit Go.Shelf

theorem own_sla {α : Type} {enc : α → List Value} {k : Nat} {ok : α → Prop} {w : World} {b : Nat} {e : TypeId} {v : Value} {n : Nat} {xs : List α} (hk : ∀ x, (enc x).length = k) (h : w.ownsRow b e k v n (xs.flatMap enc)) (hn : xs.length = n) (ho : ∀ x ∈ xs, ok x) : ∃ A c, v = .slice A n c ∧ SlA enc k ok w A n c xs := by
  rcases h.2 with ⟨h1, h2⟩ | ⟨g, cap, cur, h1, hb, hh, hc, hm, hs, ht⟩
  · exact ⟨none, 0, by rw [h1, h2], hn, by omega, by omega, ho, fun hp => by omega⟩
  · refine ⟨_, cap, h1, sla_row hk hn hc (by unfold maxLen at hm; omega) ho (fun j v hv => ?_)⟩
    have hj := (List.getElem?_eq_some_iff.1 hv).1
    rw [h.1] at hj
    rw [← ht, List.getElem?_take, if_pos hj] at hv
    exact ⟨by rw [cell_of_row _ _ _ _ _ _ hh]; simpa using hv, frozen_of_row _ _ _ _ _ hh⟩
def clE (l : List Cl) : Int := if 10 < l.length then 2 else if l.all claimB = true then (if repB (l.map Cl.own) = true then 6 else 0) else 1
set_option maxRecDepth 100000 in
set_option maxHeartbeats 3200000 in
theorem checkClaims_any (A : Option Addr) (n c : Nat) (l : List Cl) (w : World) (hs : SlA clC 2 Cl.ok w A n c l) :
    Calls Tryz.prog 126 #[.slice A n c] w fun e w' => e = .returned (.int .i64 (clE l)) ∧ Kept w w' := by
  obtain ⟨i0, hi0, hz0, hz1, hz2⟩ := info_parts info3
  have HS := Lib.hid hs
  have hnc := hs.2.1
  have hcm := hs.2.2.1
  obtain ⟨b, hb⟩ : ∃ b, l.all claimB = b := ⟨_, rfl⟩
  have HB : RowKit.Hid (clE l = if 10 < n then 2 else if b = true then (if repB (l.map Cl.own) = true then 6 else 0) else 1) := Lib.hid (by unfold clE; rw [hs.1, hb])
  have H80 : RowKit.Hid (∀ W, Kept w W → Calls Tryz.prog 179 #[.slice A n c, .func (.func 180) #[] #[]] W fun e w' => e = .returned (.bool b) ∧ Kept W w') := Lib.hid (fun W hW => by rw [← hb]; exact every_cl 180 #[] claimB e81 A n c l W (hs.kept hW) (pred81 W))
  clear hb hs
  by_cases h1 : 10 < n
  · have g1 : (10 : Int) < (n : Int) := by omega
    have HN := Lib.hid h1
    clear h1
    go_enter Tryz.func126, Tryz.ntmps126
    go_wp2
    go_ret
    exact ⟨ret_int (by rw [HB.out, if_pos HN.out]), Kept.refl _⟩
  · have g1 : ¬ (10 : Int) < (n : Int) := by omega
    have HN := Lib.hid h1
    have hn10 : n ≤ 10 := by omega
    clear h1
    go_enter Tryz.func126, Tryz.ntmps126
    go_wp2_with fail
    refine (H80.out _ (Kept.refl _)).mono ?_
    rintro e W0 ⟨rfl, hk1⟩
    have K0 := Lib.hid hk1
    have HS0 := Lib.hid (HS.out.kept hk1)
    clear hk1
    cases b
    · go_wp2
      go_ret
      exact ⟨ret_int (by rw [HB.out, if_neg HN.out]; rfl), K0.out⟩
    · go_wp2_with fail
      go_loopw [3, 14] (fun v i wr => ∃ k : Nat, k ≤ n ∧ i = .int .i64 k ∧ wr.ownsRow W0.heap.size 3 1 v k (((l.take k).map Cl.own).flatMap inC) ∧ Kept W0 wr) (fun _ i _ => n - (intOf i).toNat)
      case atStart => exact ⟨0, by omega, by first | rfl | go_num, World.ownsRow_nil _ _ _ _, Kept.refl _⟩
      case round =>
        obtain ⟨k, hk, rfl, ho, hkr⟩ := hrel
        have HO := Lib.hid ho
        have HKR := Lib.hid hkr
        clear ho hkr
        by_cases hlt : k < n
        · obtain ⟨x, hx⟩ : ∃ x, l[k]? = some x := ⟨_, List.getElem?_eq_getElem (by rw [HS0.out.1]; exact hlt)⟩
          obtain ⟨b, off, hA, ht⟩ := HS0.out.2.2.2.2 (by omega)
          subst hA
          have hcc := fun j v hv => (HKR.out.cells _ _ (cell_lt (ht k x hx j v hv))).trans (ht k x hx j v hv)
          have c0 := hcc 0 _ rfl
          have c1 := hcc 1 _ rfl
          simp only [Nat.add_zero] at c0
          have HT : RowKit.Hid (((l.take (k + 1)).map Cl.own).flatMap inC = ((l.take k).map Cl.own).flatMap inC ++ inC x.own) := Lib.hid (by rw [take_snoc' hx]; simp)
          obtain ⟨Wa, hWa⟩ : ∃ Wa, Wa = wr.alloc (.cells #[.int .i64 x.own, .int .i64 x.num] 94) := ⟨_, rfl⟩
          have ka : Kept wr Wa := by rw [hWa]; exact (Kept.refl _).alloc _
          have HWA := Lib.hid hWa
          have HKA := Lib.hid (HKR.out.trans ka)
          have HOA := Lib.hid (own_kept HO.out ka)
          have HNW := Lib.hid (news_of (W := Wa) (cs := inC x.own) (t := 3) (m := Wa.heap.size) rfl)
          have HA3 : RowKit.Hid (k + 1 ≤ maxLen) := Lib.hid (by unfold maxLen; omega)
          have HA4 : RowKit.Hid ((k + 1) * 8 ≤ 140737488355328) := Lib.hid (by omega)
          have HB1 : RowKit.Hid (W0.heap.size ≤ (Wa.alloc (.cells #[.int .i64 x.own] 3)).heap.size) := Lib.hid (by have := HKA.out.size; simp; omega)
          have ra : RowC Wa wr.heap.size (clC x) := by rw [hWa]; exact RowC.new wr (clC x) 94
          have d0 := (ra 0 _ rfl).1
          have ld := cell_lt d0
          clear hx ht hcc hWa ka ra
          go_upto_region 9 with (fail)
          rw [← HWA.out]
          clear c0 c1
          go_wp2_with (at_builtin; refine wpList_append_lies _ rfl (.tmp 18) (.tmp 21) 43 rfl W0.heap.size 3 i0 _ 1 8 Tryz.underlying43 hi0 hz0 hz1 hz2 rfl (by decide) _ k _ rfl (own_kept HOA.out ((Kept.refl _).alloc _)) ⟨Wa.heap.size, 0, none⟩ 1 1 (inC x.own) rfl rfl HNW.out (fun u hu => by simp [inC] at hu; subst hu; rfl) (by decide) HA3.out HA4.out HB1.out _ rfl ?_; intro g cap w6 hown6 hgrow6 hat6 hlt6)
          have HO6 := Lib.hid hown6
          have HK6 := Lib.hid ((HKA.out.alloc _).grown hgrow6 (fun r hr => (HOA.out.lt r hr).1))
          clear hown6 hgrow6 hat6 hlt6
          go_roundw
          case rel => exact ⟨k + 1, by omega, by go_num, by rw [HT.out]; exact HO6.out, HK6.out⟩
          case measure => simp [intOf]; omega
        · obtain rfl : k = n := by omega
          have hT : l.take k = l := List.take_of_length_le (by rw [HS0.out.1]; exact Nat.le_refl _)
          have ho := HO.out
          rw [hT] at ho
          obtain ⟨A', c', rfl, hs'⟩ := own_sla (enc := inC) (xs := l.map Cl.own) (ok := i64) (fun _ => rfl) ho (by rw [List.length_map]; exact HS0.out.1) (fun x hx => by
            obtain ⟨y, hy, rfl⟩ := List.mem_map.1 hx
            exact (HS0.out.2.2.2.1 y hy).1)
          obtain ⟨q, hq⟩ : ∃ q, repB (l.map Cl.own) = q := ⟨_, rfl⟩
          have HQ := Lib.hid hq
          have HR : RowKit.Hid (Calls Tryz.prog 181 #[.slice A' k c'] wr fun e w' => e = .returned (.bool q) ∧ Kept wr w') := Lib.hid (by rw [← hq]; exact repeats_in A' k c' _ wr hs')
          clear hT ho hs' hq
          go_wp2_with fail
          refine HR.out.mono ?_
          rintro e w7 ⟨rfl, hk7⟩
          have K7 := Lib.hid ((K0.out.trans HKR.out).trans hk7)
          clear hk7
          cases q
          · go_wp2
            go_ret
            exact ⟨ret_int (by rw [HB.out, if_neg HN.out, HQ.out]; rfl), K7.out⟩
          · go_wp2
            go_ret
            exact ⟨ret_int (by rw [HB.out, if_neg HN.out, HQ.out]; rfl), K7.out⟩
def chE (ms : List Mk) (fs : List Fd) (day : Int) (found : List Sg) (claims : List Cl) : Int := fstE [smE ms fs, errB (inB day 0 100000), fnE found, clE claims]
set_option maxRecDepth 100000 in
set_option maxHeartbeats 3200000 in
theorem checkHearing_any (A B C D : Option Addr) (n c m d p q u v : Nat) (ms : List Mk) (fs : List Fd) (day : Int) (found : List Sg) (cls : List Cl) (w : World) (hs : SmA w A n c ms B m d fs) (hfo : SlA sgV 6 Sg.ok w C p q found) (hcl : SlA clC 2 Cl.ok w D u v cls) :
    Calls Tryz.prog 113 #[.agg #[.slice A n c, .slice B m d], .int .i64 day, .slice C p q, .slice D u v] w fun e w' => e = .returned (.int .i64 (chE ms fs day found cls)) ∧ Kept w w' := by
  obtain ⟨W0, hW0⟩ : ∃ W0, W0 = w.alloc (.cells #[.slice A n c, .slice B m d] 25) := ⟨_, rfl⟩
  have K0 : RowKit.Hid (Kept w W0) := Lib.hid (by rw [hW0]; exact (Kept.refl _).alloc _)
  have R0 : RowKit.Hid (RowC W0 w.heap.size [.slice A n c, .slice B m d]) := Lib.hid (by rw [hW0]; exact RowC.new w [.slice A n c, .slice B m d] 25)
  have HW := Lib.hid hW0
  have HS := Lib.hid (hs.kept K0.out)
  have HFO := Lib.hid (hfo.kept K0.out)
  have HCL := Lib.hid (hcl.kept K0.out)
  obtain ⟨E1, hE1⟩ : ∃ E, smE ms fs = E := ⟨_, rfl⟩
  obtain ⟨b2, hb2⟩ : ∃ b, inB day 0 100000 = b := ⟨_, rfl⟩
  obtain ⟨v2, hv2⟩ : ∃ v, errB b2 = v := ⟨_, rfl⟩
  obtain ⟨E3, hE3⟩ : ∃ E, fnE found = E := ⟨_, rfl⟩
  obtain ⟨E4, hE4⟩ : ∃ E, clE cls = E := ⟨_, rfl⟩
  obtain ⟨E, hE⟩ : ∃ E, fstE [E1, v2, E3, E4] = E := ⟨_, rfl⟩
  have HE : RowKit.Hid (chE ms fs day found cls = E) := Lib.hid (by unfold chE; rw [hE1, hb2, hv2, hE3, hE4, hE])
  have H14 : RowKit.Hid (∀ W, Kept W0 W → Calls Tryz.prog 25 #[.agg #[.slice A n c, .slice B m d]] W fun e w' => e = .returned (.int .i64 E1) ∧ Kept W w') := Lib.hid (fun W hW => by rw [← hE1]; exact checkSmits_any A B n c m d ms fs W (HS.out.kept hW))
  have H16 : RowKit.Hid (∀ W, Calls Tryz.prog 75 #[.int .i64 day] W fun e w' => e = .returned (.bool b2) ∧ W = w') := Lib.hid (fun W => by rw [← hb2]; exact isDay_any _ W)
  have HV2 : RowKit.Hid (∀ W, Calls Tryz.prog 74 #[.bool b2] W fun e w' => e = .returned (.int .i64 v2) ∧ W = w') := Lib.hid (fun W => by rw [← hv2]; exact valid_any b2 W)
  have H18 : RowKit.Hid (∀ W, Kept W0 W → Calls Tryz.prog 107 #[.slice C p q] W fun e w' => e = .returned (.int .i64 E3) ∧ Kept W w') := Lib.hid (fun W hW => by rw [← hE3]; exact checkFound_any C p q found W (HFO.out.kept hW))
  have H59 : RowKit.Hid (∀ W, Kept W0 W → Calls Tryz.prog 126 #[.slice D u v] W fun e w' => e = .returned (.int .i64 E4) ∧ Kept W w') := Lib.hid (fun W hW => by rw [← hE4]; exact checkClaims_any D u v cls W (HCL.out.kept hW))
  have H13 : RowKit.Hid (∀ W g, RowC W g [.int .i64 E1, .int .i64 v2, .int .i64 E3, .int .i64 E4] → Calls Tryz.prog 73 #[.slice (some ⟨g, 0, none⟩) 4 4] W fun e w' => e = .returned (.int .i64 E) ∧ W = w') := Lib.hid (fun W g hr => by
    rw [← hE]
    exact firstError_any g 0 4 4 [E1, v2, E3, E4] rfl (by omega) W (intsR hr))
  have a0 := (R0.out 0 _ rfl).1
  have a1 := (R0.out 1 _ rfl).1
  have la := cell_lt a0
  clear hW0 hs hfo hcl hE1 hb2 hv2 hE3 hE4 hE
  go_enter Tryz.func113, Tryz.ntmps113
  go_upto_region 1 with (fail)
  rw [← HW.out]
  go_wp2_with fail
  refine (H14.out _ (Kept.refl _)).mono ?_
  rintro e w1 ⟨rfl, hk1⟩
  have K1 := Lib.hid hk1
  clear hk1 a0 a1 la
  go_wp2_with fail
  refine (H16.out _).mono ?_
  rintro e w2 ⟨rfl, rfl⟩
  go_wp2_with fail
  refine (HV2.out _).mono ?_
  rintro e w2 ⟨rfl, rfl⟩
  go_wp2_with fail
  refine (H18.out _ K1.out).mono ?_
  rintro e w2 ⟨rfl, hk2⟩
  have K2 := Lib.hid (K1.out.trans hk2)
  clear hk2
  go_wp2_with fail
  refine (H59.out _ K2.out).mono ?_
  rintro e w3 ⟨rfl, hk3⟩
  have K3 := Lib.hid (K2.out.trans hk3)
  clear hk3
  go_wp2_with fail
  refine (H13.out _ _ (RowC.new _ _ _)).mono ?_
  rintro e w4 ⟨rfl, rfl⟩
  go_wp2
  go_ret
  exact ⟨ret_int HE.out.symm, K0.out.trans (K3.out.alloc _)⟩
end Go.Proofs.YtologmoanaccpaaGreatDoor
