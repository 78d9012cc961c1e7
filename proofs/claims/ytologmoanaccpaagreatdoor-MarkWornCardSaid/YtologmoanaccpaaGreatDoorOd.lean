/-
  the search for a beast more: gain's inner function
-/
import Derived.Test.YtologmoanaccpaaGreatDoorOC
import Derived.Test.YtologmoanaccpaaGreatDoorNc
import Derived.Deep.RegionHeld3
import Derived.RegionTactic
namespace Go.Proofs.YtologmoanaccpaaGreatDoor
set_option linter.all false
open Go.RowKit Go.Shelf

theorem heap_set {W : World} {p : Addr} {v : Value} {b : Nat} (h : b ≠ p.block) : (W.setCell p v).heap[b]? = W.heap[b]? := by
  simp [World.setCell, Array.getElem?_modify, Ne.symm h]
theorem size_set {W : World} {p : Addr} {v : Value} : (W.setCell p v).heap.size = W.heap.size := by simp [World.setCell]
/-- where the search's variables lie -/
structure SkE where
  (w0 w1 : World) (H : Nat) (ba bh bs bk hb ho fb fo nb cb cf : Nat) (fA hA : Option Addr) (fits : List Nat)
structure SkE.ok (E : SkE) : Prop where
  (d1 : E.ba ≠ E.bh) (d2 : E.ba ≠ E.bs) (d3 : E.ba ≠ E.bk) (d4 : E.ba ≠ E.hb) (d5 : E.ba ≠ E.fb)
  (h1 : E.hb ≠ E.bh) (h2 : E.hb ≠ E.bs) (h3 : E.hb ≠ E.bk) (h4 : E.hb ≠ E.fb)
  (n0 : E.H ≤ E.ba) (n1 : E.w0.heap.size ≤ E.ba) (n2 : E.w0.heap.size ≤ E.hb)
  (ln : E.fits.length = E.nb) (sz : E.nb ≤ 60) (nc : E.nb ≤ E.cf) (nd : E.nb ≤ E.cb) (cm : E.cf ≤ 9223372036854775807) (cm2 : E.cb ≤ 9223372036854775807)
  (fs : ∀ f ∈ E.fits, f < 2 ^ 64)
  (fa : 0 < E.nb → E.fA = some ⟨E.fb, E.fo, none⟩) (ha : 0 < E.nb → E.hA = some ⟨E.hb, E.ho, none⟩)
structure SkS (E : SkE) (W : World) (a : Nat) (ow : List Int) : Prop where
  (k : Kept E.w0 W) (ab : a < 2 ^ 64)
  (ca : W.cell? ⟨E.ba, 0, none⟩ = some (.int .u64 a)) (fa : W.frozen? ⟨E.ba, 0, none⟩ = false)
  (ch : W.cell? ⟨E.bh, 0, none⟩ = some (.slice E.fA E.nb E.cf))
  (cs : W.cell? ⟨E.bs, 0, none⟩ = some (.slice E.hA E.nb E.cb))
  (ck : W.cell? ⟨E.bk, 0, none⟩ = some (.func (.func 183) #[] #[.pointer (some ⟨E.ba, 0, none⟩), .pointer (some ⟨E.bh, 0, none⟩), .pointer (some ⟨E.bs, 0, none⟩), .pointer (some ⟨E.bk, 0, none⟩)]))
  (rf : ∀ i f, E.fits[i]? = some f → W.cell? ⟨E.fb, E.fo + i, none⟩ = some (.int .u64 (f : Nat)))
  (rh : ∀ i x, ow[i]? = some x → W.cell? ⟨E.hb, E.ho + i, none⟩ = some (.int .i64 x) ∧ W.frozen? ⟨E.hb, E.ho + i, none⟩ = false)
  (v : SkV E.fits ow)
  (q : ∀ b, b < E.H → b ≠ E.hb → W.heap[b]? = E.w1.heap[b]?) (sz : E.H ≤ W.heap.size)
theorem SkS.drew {E : SkE} {W : World} {a : Nat} {ow : List Int} (h : SkS E W a ow) : SkS E W.drew a ow :=
  ⟨h.k.drew, h.ab, h.ca, h.fa, h.ch, h.cs, h.ck, h.rf, h.rh, h.v, h.q, h.sz⟩
theorem SkS.ask {E : SkE} {W : World} {a a' : Nat} {ow : List Int} (hE : E.ok) (h : SkS E W a ow) (ha : a' < 2 ^ 64) : SkS E (W.setCell ⟨E.ba, 0, none⟩ (.int .u64 (a' : Nat))) a' ow := by
  have hf : ∀ b o, b ≠ E.ba → (W.setCell ⟨E.ba, 0, none⟩ (.int .u64 (a' : Nat))).cell? ⟨b, o, none⟩ = W.cell? ⟨b, o, none⟩ := fun b o hb => World.cell?_setCell_far _ _ _ _ (Ne.symm hb)
  have hr : RowC W E.ba [.int .u64 (a : Nat)] := fun j v hv => by
    cases j with
    | zero => simp at hv; subst hv; exact ⟨h.ca, h.fa⟩
    | succ j => simp at hv
  have hp := hr.put (j := 0) (by simp) (.int .u64 (a' : Nat)) 0 _ rfl
  refine ⟨h.k.setCell hE.n1 _, ha, hp.1, hp.2, ?_, ?_, ?_, fun i f hi => ?_, fun i x hi => ?_, h.v, fun b hb h1 => (heap_set (by simp; have := hE.n0; omega)).trans (h.q b hb h1), by rw [size_set]; exact h.sz⟩
  · rw [hf _ _ hE.d1.symm]; exact h.ch
  · rw [hf _ _ hE.d2.symm]; exact h.cs
  · rw [hf _ _ hE.d3.symm]; exact h.ck
  · rw [hf _ _ hE.d5.symm]; exact h.rf i f hi
  · have h1 := h.rh i x hi
    have hr2 : RowC W E.hb [] := fun j v hv => by simp at hv
    rw [hf _ _ hE.d4.symm]
    exact ⟨h1.1, by rw [World.frozen?_setCell]; exact h1.2⟩
theorem SkS.give {E : SkE} {W : World} {a : Nat} {ow : List Int} {k : Nat} {x : Int} (hE : E.ok) (h : SkS E W a ow) (hk : k < ow.length) (hv : SkV E.fits (ow.set k x)) : SkS E (W.setCell ⟨E.hb, E.ho + k, none⟩ (.int .i64 x)) a (ow.set k x) := by
  have hf : ∀ b o, b ≠ E.hb → (W.setCell ⟨E.hb, E.ho + k, none⟩ (.int .i64 x)).cell? ⟨b, o, none⟩ = W.cell? ⟨b, o, none⟩ := fun b o hb => World.cell?_setCell_far _ _ _ _ (Ne.symm hb)
  have h0 := h.rh k _ (List.getElem?_eq_getElem hk)
  refine ⟨h.k.setCell hE.n2 _, h.ab, ?_, ?_, ?_, ?_, ?_, fun i f hi => ?_, fun i y hi => ?_, hv, fun b hb h1 => (heap_set (by simp; omega)).trans (h.q b hb h1), by rw [size_set]; exact h.sz⟩
  · rw [hf _ _ hE.d4]; exact h.ca
  · rw [World.frozen?_setCell]; exact h.fa
  · rw [hf _ _ hE.h1.symm]; exact h.ch
  · rw [hf _ _ hE.h2.symm]; exact h.cs
  · rw [hf _ _ hE.h3.symm]; exact h.ck
  · rw [hf _ _ hE.h4.symm]; exact h.rf i f hi
  · rw [set_at] at hi
    rw [World.frozen?_setCell]
    by_cases hik : k = i
    · subst hik
      rw [if_pos rfl, if_pos hk] at hi
      cases hi
      exact ⟨World.cell?_setCell_same' _ _ _ (by rw [h0.1]; rfl), h0.2⟩
    · rw [if_neg hik] at hi
      have h1 := h.rh i y hi
      exact ⟨(World.cell?_setCell_other (w := W) (a := ⟨E.hb, E.ho + k, none⟩) (b := ⟨E.hb, E.ho + i, none⟩) (v := .int .i64 x) (by simpa using hik)).trans h1.1, h1.2⟩

/-- what the search answers -/
def SkR (E : SkE) (o a : Nat) (ow : List Int) (e : Ending) (W' : World) : Prop :=
  (∃ a' ow', e = .returned (.bool true) ∧ SkS E W' a' ow' ∧ SkT o a ow ow') ∨ (∃ a', e = .returned (.bool false) ∧ SkS E W' a' ow ∧ SkF E.fits o a a' ow)
set_option maxRecDepth 100000 in
set_option maxHeartbeats 6400000 in
theorem seek_any (E : SkE) (hE : E.ok) : ∀ (μ o a : Nat) (ow : List Int) (W : World), SkS E W a ow → 1 ≤ o → o ≤ 40 → a.testBit o = false → mu a ≤ μ →
    Calls Tryz.prog 183 #[.int .i64 (o : Int), .pointer (some ⟨E.ba, 0, none⟩), .pointer (some ⟨E.bh, 0, none⟩), .pointer (some ⟨E.bs, 0, none⟩), .pointer (some ⟨E.bk, 0, none⟩)] W (SkR E o a ow) := by
  intro μ
  induction μ with
  | zero =>
    intro o a ow W _ h1 h2 h3 h4
    have : o ∈ (List.range 41).filter fun i => !a.testBit i := by simp [h3]; omega
    have := List.length_pos_of_mem this
    unfold mu at h4
    omega
  | succ μ ih =>
    intro o a ow W hS ho1 ho2 hao hmu
    have hm0 : ∀ q, a.testBit q = true → (a ||| 2 ^ o).testBit q = true := fun q h => by rw [bit_or, h]; rfl
    have hbo : (a ||| 2 ^ o).testBit o = true := by rw [bit_or]; simp
    have hmu2 : mu (a ||| 2 ^ o) < mu a := mu_lt hm0 ho2 hao hbo
    have ha64 : a ||| 2 ^ o < 2 ^ 64 := Nat.or_lt_two_pow hS.ab (Nat.pow_lt_pow_right (by omega) (by omega))
    have hor : bits BinOp.or IntKind.u64 (a : Int) ((2 : Int) ^ o) = ((a ||| 2 ^ o : Nat) : Int) := by
      have h := bits_or_u64_nat a (2 ^ o) (by simpa using hS.ab) (by simpa using Nat.pow_lt_pow_right (a := 2) (by omega) (show o < 64 by omega))
      rw [show ((2 ^ o : Nat) : Int) = (2 : Int) ^ o by push_cast; rfl] at h
      exact h
    have HS := Lib.hid hS
    have HE := Lib.hid hE
    have IH := Lib.hid ih
    have HM0 := Lib.hid hm0
    have HBO := Lib.hid hbo
    have HJ : RowKit.Hid (∀ W, Calls Tryz.prog 108 #[.int .i64 (o : Int)] W fun e w' => e = .returned (.int .u64 ((2 : Int) ^ o)) ∧ W = w') := Lib.hid (fun W => just_any o (by omega) W)
    have c0 := hS.ca
    have f0 := hS.fa
    have hmm : mu (a ||| 2 ^ o) ≤ μ := by omega
    obtain ⟨a1, ha1⟩ : ∃ a1, a1 = a ||| 2 ^ o := ⟨_, rfl⟩
    rw [← ha1] at hor hmm ha64 HM0 HBO
    have HA1 : RowKit.Hid (∀ q, a1.testBit q = (a.testBit q || decide (o = q))) := Lib.hid (fun q => by rw [ha1, bit_or])
    have HAO := Lib.hid hao
    have HMM := Lib.hid hmm
    have HA64 := Lib.hid ha64
    clear hS ih hm0 hbo hmu hmu2 hao hmm ha64 ha1 hE
    go_enter Tryz.func183, Tryz.ntmps183
    go_upto_region 1 with (fail)
    go_cut [] (fun wx => SkS E wx a1 ow)
    case first =>
      go_region_law (first | (rw [if_pos (by rfl)]; go_simp; refine (HJ.out _).mono ?_; rintro e w1 ⟨rfl, rfl⟩; go_wp2_with fail) | fail)
      all_goals go_wp2
      all_goals go_meet
      all_goals exact (HS.out.ask HE.out HA64.out).drew
    case rest =>
      obtain ⟨W1, rfl⟩ : ∃ wd, wd = wc := ⟨_, rfl⟩
      have HS1 := Lib.hid hcut
      obtain ⟨fA, hfA⟩ : ∃ x, E.fA = x := ⟨_, rfl⟩
      obtain ⟨hA, hhA⟩ : ∃ x, E.hA = x := ⟨_, rfl⟩
      have HFA := Lib.hid hfA
      have HHA := Lib.hid hhA
      have HC0 : RowKit.Hid (∀ W a ow, SkS E W a ow → W.cell? ⟨E.bh, 0, none⟩ = some (.slice fA E.nb E.cf)) := Lib.hid (fun W a ow h => by rw [← hfA]; exact h.ch)
      have HC1 : RowKit.Hid (∀ W a ow, SkS E W a ow → W.cell? ⟨E.bs, 0, none⟩ = some (.slice hA E.nb E.cb)) := Lib.hid (fun W a ow h => by rw [← hhA]; exact h.cs)
      have g1 := HC0.out W1 a1 ow hcut
      have z1 := HE.out.nc
      have z2 := HE.out.nd
      have z3 := HE.out.cm
      have z4 := HE.out.cm2
      have z5 := HE.out.sz
      clear hcut hfA hhA c0 f0 hor
      go_wp2_with fail
      clear g1
      go_loopw [17] (fun i wr => ∃ k a2 : Nat, k ≤ E.nb ∧ i = .int .i64 k ∧ SkS E wr a2 ow ∧ (∀ q, a1.testBit q = true → a2.testBit q = true) ∧ (∀ q, a2.testBit q = true → a1.testBit q = false → SkQ E.fits ow a2 q) ∧ (∀ j f, j < k → E.fits[j]? = some f → f.testBit o = true → ∃ x, ow[j]? = some x ∧ x ≠ 0 ∧ a2.testBit x.toNat = true)) (fun i _ => E.nb - (intOf i).toNat)
      case atStart =>
        refine ⟨0, a1, by omega, by first | rfl | go_num, HS1.out, fun q h => h, ?_, ?_⟩
        · intro q h1 h2
          rw [h1] at h2
          cases h2
        · intro j f hj
          omega
      case round =>
        obtain ⟨k, a2, hk, rfl, hs2, hm2, hq2, hr2⟩ := hrel
        have HS2 := Lib.hid hs2
        have HM2 := Lib.hid hm2
        have HQ2 := Lib.hid hq2
        have HR2 := Lib.hid hr2
        by_cases hlt : k < E.nb
        · obtain rfl : fA = some ⟨E.fb, E.fo, none⟩ := HFA.out.symm.trans (HE.out.fa (by omega))
          obtain rfl : hA = some ⟨E.hb, E.ho, none⟩ := HHA.out.symm.trans (HE.out.ha (by omega))
          obtain ⟨f, hf⟩ : ∃ f, E.fits[k]? = some f := ⟨_, List.getElem?_eq_getElem (by rw [HE.out.ln]; exact hlt)⟩
          obtain ⟨x, hx⟩ : ∃ x, ow[k]? = some x := ⟨_, List.getElem?_eq_getElem (by rw [hs2.v.1, HE.out.ln]; exact hlt)⟩
          have hf64 := HE.out.fs f (List.mem_of_getElem? hf)
          have HF := Lib.hid hf
          have HX := Lib.hid hx
          obtain ⟨fb, hfb⟩ : ∃ t, f.testBit o = t := ⟨_, rfl⟩
          have HFB := Lib.hid hfb
          have H22 : RowKit.Hid (∀ W, Calls Tryz.prog 92 #[.int .u64 (f : Int), .int .i64 (o : Int)] W fun e w' => e = .returned (.bool fb) ∧ W = w') := Lib.hid (fun W => by rw [← hfb]; exact has_any f o hf64 ho1 ho2 W)
          have b1 := hs2.rf k f hf
          have b2 := (hs2.rh k x hx).1
          have b3 := HC1.out wr a2 ow hs2
          have b4 := hs2.ca
          have b5 := hs2.ck
          have b6 := (hs2.rh k x hx).2
          have l1 := cell_lt b1
          have l2 := cell_lt b2
          have HKL : RowKit.Hid (k < ow.length) := Lib.hid (List.getElem?_eq_some_iff.1 hx).1
          have HXV : RowKit.Hid (x ≠ 0 → 1 ≤ x ∧ x ≤ 40) := Lib.hid (fun h => ⟨(hs2.v.2 k x hx h).1, (hs2.v.2 k x hx h).2.1⟩)
          have HRN : RowKit.Hid (∀ a3 : Nat, (∀ q, a2.testBit q = true → a3.testBit q = true) → (fb = true → x ≠ 0 ∧ a3.testBit x.toNat = true) → ∀ j f, j < k + 1 → E.fits[j]? = some f → f.testBit o = true → ∃ x, ow[j]? = some x ∧ x ≠ 0 ∧ a3.testBit x.toNat = true) := Lib.hid (fun a3 hm hfx j f' hj hfj hbj => by
            by_cases hjk : j = k
            · subst hjk
              rw [HF.out] at hfj
              cases hfj
              rw [HFB.out] at hbj
              exact ⟨x, HX.out, hfx hbj⟩
            · obtain ⟨y, y1, y2, y3⟩ := HR2.out j f' (by omega) hfj hbj
              exact ⟨y, y1, y2, hm _ y3⟩)
          clear hs2 hm2 hq2 hr2 hf hx hf64 hfb
          go_wp2_with fail
          refine (H22.out _).mono ?_
          rintro e w1 ⟨rfl, rfl⟩
          cases fb
          · go_wp2_with fail
            go_roundw
            case rel => exact ⟨k + 1, a2, by omega, by go_num, HS2.out, HM2.out, HQ2.out, HRN.out a2 (fun q h => h) (fun h => by cases h)⟩
            case measure => simp [intOf]; omega
          · by_cases hx0 : x = 0
            · subst hx0
              obtain ⟨v1, t1⟩ := skt_free (a := a) HS2.out.v ho1 ho2 HF.out HFB.out HX.out
              have HG := Lib.hid (HS2.out.give HE.out HKL.out v1)
              have HT1 := Lib.hid t1
              clear v1 t1
              go_wp2_with fail
              go_ret
              exact .inl ⟨a2, _, rfl, HG.out, HT1.out⟩
            · obtain ⟨hx1, hx2⟩ := HXV.out hx0
              obtain ⟨h, rfl⟩ : ∃ h : Nat, x = (h : Int) := ⟨x.toNat, by omega⟩
              have hxx : ((h : Int) == 0) = false := by simp; omega
              obtain ⟨tb, htb⟩ : ∃ t, a2.testBit h = t := ⟨_, rfl⟩
              have HTB := Lib.hid htb
              have H23 : RowKit.Hid (∀ W, Calls Tryz.prog 92 #[.int .u64 (a2 : Int), .int .i64 (h : Int)] W fun e w' => e = .returned (.bool tb) ∧ W = w') := Lib.hid (fun W => by rw [← htb]; exact has_any a2 h HS2.out.ab (by omega) (by omega) W)
              clear htb
              go_wp2_with fail
              refine (H23.out _).mono ?_
              rintro e w1 ⟨rfl, rfl⟩
              cases tb
              · have HI := Lib.hid (IH.out h a2 ow _ HS2.out (by omega) (by omega) HTB.out (Nat.le_trans (mu_le HM2.out) HMM.out))
                go_wp2_with fail
                refine HI.out.mono ?_
                rintro e w3 (⟨a3, ow3, rfl, hs3, ht3⟩ | ⟨a3, rfl, hs3, hf3⟩)
                · obtain ⟨v3, t3⟩ := skt_swap (a := a) HS2.out.v hs3.v ho1 ho2 HF.out HFB.out HX.out (by omega) HTB.out (fun q hq => HM2.out q (HM0.out q hq)) (HM2.out o HBO.out) ht3
                  have hk3 : k < ow3.length := by rw [hs3.v.1, HE.out.ln]; exact hlt
                  have HG := Lib.hid (hs3.give HE.out hk3 v3)
                  have HT3 := Lib.hid t3
                  have d0 := hs3.rh k _ (List.getElem?_eq_getElem hk3)
                  have d1 := d0.1
                  have d2 := d0.2
                  have d3 := HC1.out _ _ _ hs3
                  have l3 := cell_lt d1
                  clear v3 t3 hs3 ht3 d0 b1 b2 b3 b4 b5 b6
                  go_wp2_with fail
                  go_ret
                  exact .inl ⟨a3, _, rfl, HG.out, HT3.out⟩
                · have HS3 := Lib.hid hs3
                  have HF3 := Lib.hid hf3
                  clear hs3 hf3 b1 b2 b3 b4 b5 b6
                  go_wp2_with fail
                  go_roundw
                  case rel => exact ⟨k + 1, a3, by omega, by go_num, HS3.out, fun q hq => HF3.out.2.1 q (HM2.out q hq), fun q h1 h2 => by
                      cases e : a2.testBit q
                      · exact HF3.out.2.2 q h1 e
                      · exact (HQ2.out q e h2).mono HF3.out.2.1, HRN.out a3 HF3.out.2.1 (fun _ => ⟨hx0, by rw [Int.toNat_natCast]; exact HF3.out.1⟩)⟩
                  case measure => simp [intOf]; omega
              · go_wp2_with fail
                go_roundw
                case rel => exact ⟨k + 1, a2, by omega, by go_num, HS2.out, HM2.out, HQ2.out, HRN.out a2 (fun q h => h) (fun _ => ⟨hx0, by rw [Int.toNat_natCast]; exact HTB.out⟩)⟩
                case measure => simp [intOf]; omega
        · obtain rfl : k = E.nb := by omega
          clear hs2 hm2 hq2 hr2
          go_wp2_with fail
          go_ret
          refine .inr ⟨a2, rfl, HS2.out, HM2.out o HBO.out, fun q hq => HM2.out q (HM0.out q hq), fun q h1 h2 => ?_⟩
          cases e : a1.testBit q
          · exact HQ2.out q h1 e
          · have h3 := HA1.out q
            rw [e, h2] at h3
            have h4 : o = q := by simpa using h3.symm
            subst h4
            exact ⟨ho1, ho2, fun b f hb hbo => HR2.out b f (by rw [← HE.out.ln]; exact (List.getElem?_eq_some_iff.1 hb).1) hb hbo⟩
end Go.Proofs.YtologmoanaccpaaGreatDoor
