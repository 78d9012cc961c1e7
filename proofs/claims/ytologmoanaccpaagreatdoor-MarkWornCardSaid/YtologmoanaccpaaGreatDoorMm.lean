/-
  mark: looksOf
-/
import Derived.Test.YtologmoanaccpaaGreatDoorMl
import Derived.Laws.Tables
namespace Go.Proofs.YtologmoanaccpaaGreatDoor
set_option linter.all false
open Go Go.RowKit

def lkV (fs : List Fd) : Value := .agg (lkL (lkX fs)).toArray
theorem Kept.setRow {w w1 : World} (h : Kept w w1) {g : Nat} (hg : w.heap.size ≤ g) (cs : Array Value) : Kept w (w1.setRow g cs) := by
  have hz : (w1.setRow g cs).heap.size = w1.heap.size := by simp [World.setRow]
  refine ⟨h.os, h.tape, h.output, by rw [hz]; exact h.size, fun k hk => ?_⟩
  rw [setRow_other w1 g k cs (by omega)]
  exact h.block k hk
set_option maxRecDepth 100000 in
set_option maxHeartbeats 6400000 in
theorem looksOf_any (B : Option Addr) (m d : Nat) (fs : List Fd) (w : World) (hs : SlA fdC 2 Fd.ok w B m d fs) (hf : ∀ f ∈ fs, fadeB f = true) :
    Calls Tryz.prog 103 #[.slice B m d] w fun e w' => e = .returned (lkV fs) ∧ Kept w w' := by
  have HS := Lib.hid hs
  have HF := Lib.hid hf
  have hnc := hs.2.1
  have hcm := hs.2.2.1
  have hseen : ∀ f ∈ fs, f.seen ≤ 4 := fun f h => by
    have := hf f h
    unfold fadeB at this
    simp at this
    exact this.1.2
  have HSE := Lib.hid hseen
  have z0 : lkL (fun _ => 0) = [.int .u8 0, .int .u8 0, .int .u8 0, .int .u8 0, .int .u8 0, .int .u8 0, .int .u8 0, .int .u8 0, .int .u8 0, .int .u8 0, .int .u8 0, .int .u8 0, .int .u8 0, .int .u8 0, .int .u8 0, .int .u8 0, .int .u8 0, .int .u8 0, .int .u8 0, .int .u8 0, .int .u8 0, .int .u8 0, .int .u8 0, .int .u8 0, .int .u8 0, .int .u8 0, .int .u8 0, .int .u8 0, .int .u8 0, .int .u8 0] := rfl
  obtain ⟨W0, hW0⟩ : ∃ W0, W0 = w.alloc (.cells (lkL (fun _ => 0)).toArray 120) := ⟨_, rfl⟩
  obtain ⟨W1, hW1⟩ : ∃ W1, W1 = W0.alloc (.cells (lkL (fun _ => 0)).toArray 120) := ⟨_, rfl⟩
  have hz0 : W0.heap.size = w.heap.size + 1 := by rw [hW0]; simp
  have B0 : BlkF W1 w.heap.size (fun _ => 0) := by
    have h0 : BlkF W0 w.heap.size (fun _ => 0) := by rw [hW0]; exact heap_alloc_new w _
    rw [hW1]; exact h0.kept ((Kept.refl _).alloc _)
  have B1 : BlkF W1 (w.heap.size + 1) (fun _ => 0) := by rw [hW1, ← hz0]; exact heap_alloc_new W0 _
  have K1 : Kept w W1 := by rw [hW1, hW0]; exact ((Kept.refl _).alloc _).alloc _
  have HB0 := Lib.hid B0
  have HB1 := Lib.hid B1
  have HK1 := Lib.hid K1
  have HW : RowKit.Hid (W1 = (w.alloc (.cells #[.int .u8 0, .int .u8 0, .int .u8 0, .int .u8 0, .int .u8 0, .int .u8 0, .int .u8 0, .int .u8 0, .int .u8 0, .int .u8 0, .int .u8 0, .int .u8 0, .int .u8 0, .int .u8 0, .int .u8 0, .int .u8 0, .int .u8 0, .int .u8 0, .int .u8 0, .int .u8 0, .int .u8 0, .int .u8 0, .int .u8 0, .int .u8 0, .int .u8 0, .int .u8 0, .int .u8 0, .int .u8 0, .int .u8 0, .int .u8 0] 120)).alloc (.cells #[.int .u8 0, .int .u8 0, .int .u8 0, .int .u8 0, .int .u8 0, .int .u8 0, .int .u8 0, .int .u8 0, .int .u8 0, .int .u8 0, .int .u8 0, .int .u8 0, .int .u8 0, .int .u8 0, .int .u8 0, .int .u8 0, .int .u8 0, .int .u8 0, .int .u8 0, .int .u8 0, .int .u8 0, .int .u8 0, .int .u8 0, .int .u8 0, .int .u8 0, .int .u8 0, .int .u8 0, .int .u8 0, .int .u8 0, .int .u8 0] 120)) := Lib.hid (by rw [hW1, hW0, z0])
  clear hs hf hseen z0 hz0 hW0 hW1 B0 B1 K1
  go_enter Tryz.func103, Tryz.ntmps103
  go_wp2_with fail
  rw [← HW.out]
  go_loopw [8] (fun i wr => ∃ p : Nat, p ≤ 6 ∧ i = .int .i64 p ∧ BlkF wr w.heap.size (fun _ => 0) ∧ BlkF wr (w.heap.size + 1) (lk1 fs p) ∧ Kept w wr) (fun i _ => 6 - (intOf i).toNat)
  case atStart => exact ⟨0, by omega, by first | rfl | go_num, HB0.out, HB1.out.congr (fun i hi => by unfold lk1; rw [if_neg (by omega)]), HK1.out⟩
  case round =>
    obtain ⟨p, hp, rfl, b0, b1, kr⟩ := hrel
    obtain ⟨wo, rfl⟩ : ∃ wo, wo = wr := ⟨_, rfl⟩
    have HB0 := Lib.hid b0
    have HB1 := Lib.hid b1
    have HKR := Lib.hid kr
    have hlb := b1.lt
    clear b0 b1 kr
    by_cases hlt : p < 6
    · go_wp2_with fail
      go_loopw [11] (fun i wr => ∃ s : Nat, s ≤ 5 ∧ i = .int .i64 s ∧ BlkF wr w.heap.size (fun _ => 0) ∧ BlkF wr (w.heap.size + 1) (lk2 fs p s) ∧ Kept w wr) (fun i _ => 5 - (intOf i).toNat)
      case atStart => exact ⟨0, by omega, by first | rfl | go_num, HB0.out, HB1.out.congr (fun i _ => lk2_zero fs p i), HKR.out⟩
      case round =>
        obtain ⟨s, hs, rfl, b0, b1, kr⟩ := hrel
        have HC0 := Lib.hid b0
        have HC1 := Lib.hid b1
        have HKS := Lib.hid kr
        by_cases hls : s < 5
        · have q0 := (b1.cell (i := p * 5 + s) (by omega)).1
          have q1 := (b1.cell (i := p * 5 + s) (by omega)).2
          have hp0 : (0 : Int) ≤ (p : Int) := by omega
          have hp1 : (p : Int) < 6 := by omega
          have hs0 : (0 : Int) ≤ (s : Int) := by omega
          have hs1 : (s : Int) < 5 := by omega
          have hpw := (pow_u8 (s := s) (by omega)).1
          have hl1 := b1.lt
          clear b0 b1 kr
          go_upto_region 8 with (fail)
          go_region
          all_goals go_wp2
          go_roundw
          case rel =>
            have e : ((2 ^ s : Nat) : Int) = (2 : Int) ^ s := by push_cast; rfl
            refine ⟨s + 1, by omega, by go_num, (HC0.out.far (by omega) _ _).drew, ?_, (HKS.out.setCell (by simp) _).drew⟩
            have := (HC1.out.put (p * 5 + s) (2 ^ s)).drew.congr (G := lk2 fs p (s + 1)) (fun i _ => by rw [show p * 5 + s = 5 * p + s by omega]; exact lk2_succ fs p s i)
            rw [e] at this
            exact this
          case measure => simp [intOf]; omega
        · obtain rfl : s = 5 := by omega
          clear b0 b1 kr
          by_cases hear : p < 2
          · have hd : decide ((p : Int) < 2) = true := decide_eq_true (by omega)
            go_wp2_with fail
            refine (isEar_any _ _).mono ?_
            rintro e w1 ⟨rfl, rfl⟩
            rw [hd]
            go_wp2
            go_roundw
            case rel => exact ⟨p + 1, by omega, by go_num, HC0.out, HC1.out.congr (fun i _ => lk2_ear fs p i hear), HKS.out⟩
            case measure => simp [intOf]; omega
          · have hd : decide ((p : Int) < 2) = false := decide_eq_false (by omega)
            have HE := Lib.hid hear
            clear hear
            go_wp2_with fail
            refine (isEar_any _ _).mono ?_
            rintro e w1 ⟨rfl, rfl⟩
            rw [hd]
            go_wp2_with fail
            obtain ⟨wi, rfl⟩ : ∃ wi, wi = wr := ⟨_, rfl⟩
            go_loopw [25] (fun i wr => ∃ k : Nat, k ≤ m ∧ i = .int .i64 k ∧ BlkF wr w.heap.size (fun _ => 0) ∧ BlkF wr (w.heap.size + 1) (lk3 fs p k) ∧ Kept w wr) (fun i _ => m - (intOf i).toNat)
            case atStart => exact ⟨0, by omega, by first | rfl | go_num, HC0.out, HC1.out.congr (fun i _ => lk3_zero fs p i), HKS.out⟩
            case round =>
              obtain ⟨k, hk, rfl, b0, b1, kr⟩ := hrel
              have HD0 := Lib.hid b0
              have HD1 := Lib.hid b1
              have HKT := Lib.hid kr
              by_cases hlk : k < m
              · obtain ⟨f, hfk⟩ : ∃ f, fs[k]? = some f := ⟨_, List.getElem?_eq_getElem (by rw [HS.out.1]; exact hlk)⟩
                have hfm := List.mem_of_getElem? hfk
                have hfd := HF.out f hfm
                have hf4 := HSE.out f hfm
                have hfu := (HS.out.2.2.2.1 f hfm).2.1
                have hfs : 1 ≤ f.sign ∧ f.sign ≤ 4 := by
                  unfold fadeB at hfd
                  simp [inB] at hfd
                  exact hfd.1.1
                obtain ⟨f1, f2⟩ := hfs
                obtain ⟨bb, off, hA, ht⟩ := HS.out.2.2.2.2 (by omega)
                subst hA
                have hcc := fun j v hv => (HKT.out.cells _ _ (cell_lt (ht k f hfk j v hv))).trans (ht k f hfk j v hv)
                have c0 := hcc 0 _ rfl
                have c1 := hcc 1 _ rfl
                simp only [Nat.add_zero] at c0
                obtain ⟨sn, hsn⟩ : ∃ sn : Nat, f.sign = (sn : Int) := ⟨f.sign.toNat, by omega⟩
                obtain ⟨se, hse⟩ : ∃ se : Nat, f.seen = (se : Int) := ⟨f.seen.toNat, by omega⟩
                rw [hsn] at c0 f1 f2
                rw [hse] at c1 hf4
                have q0 := (b1.cell (i := p * 5 + sn) (by omega)).1
                have q1 := (b1.cell (i := p * 5 + sn) (by omega)).2
                have hv := lk3_lt HSE.out p k sn (by omega)
                rw [show 5 * p + sn = p * 5 + sn by omega] at hv
                obtain ⟨V, hV⟩ : ∃ V, lk3 fs p k (p * 5 + sn) = V := ⟨_, rfl⟩
                rw [hV] at q0 hv
                have hor : bits BinOp.or IntKind.u8 (V : Int) ((2 : Int) ^ se) = ((V ||| 2 ^ se : Nat) : Int) := by
                  have e : ((2 ^ se : Nat) : Int) = (2 : Int) ^ se := by push_cast; rfl
                  rw [← e]
                  exact (bits_nat .u8 8 (by decide) (fun n h0 h1 => u8_wrap_id h0 (by simpa using h1)) V (2 ^ se) (by omega) (by have := pow_lt32 (s := se) (by omega); omega)).2
                have hlt8 : V ||| 2 ^ se < 32 := Nat.or_lt_two_pow (n := 5) hv (pow_lt32 (by omega))
                have hpw := (pow_u8 (s := se) (by omega)).1
                have hp0 : (0 : Int) ≤ (p : Int) := by omega
                have hp1 : (p : Int) < 6 := by omega
                have hs0 : (0 : Int) ≤ (sn : Int) := by omega
                have hs1 : (sn : Int) < 5 := by omega
                have hl1 := b1.lt
                have HSN := Lib.hid hsn
                have HSEE := Lib.hid hse
                have HV := Lib.hid hV
                have HFK := Lib.hid hfk
                have HLT8 := Lib.hid hlt8
                clear b0 b1 kr ht hcc hfm hfd hfu hsn hse hV hfk hv hlt8
                go_upto_region 14 with (fail)
                go_region
                all_goals go_wp2
                go_roundw
                case rel =>
                  refine ⟨k + 1, by omega, by go_num, ((HD0.out.far (by omega) _ _).kept ((Kept.refl _).alloc _)).drew, ?_, ((HKT.out.setCell (by simp) _).alloc _).drew⟩
                  refine (((HD1.out.put (p * 5 + sn) (V ||| 2 ^ se)).kept ((Kept.refl _).alloc _)).drew).congr (fun i _ => ?_)
                  have h8 := lk3_succ fs p k i HFK.out (by have := HSN.out; omega) (by have := HSN.out; omega)
                  have e1 : f.sign.toNat = sn := by have := HSN.out; omega
                  have e2 : f.seen.toNat = se := by have := HSEE.out; omega
                  rw [e1, e2, show 5 * p + sn = p * 5 + sn by omega, HV.out] at h8
                  exact h8
                case measure => simp [intOf]; omega
              · obtain rfl : k = m := by omega
                clear b0 b1 kr
                go_wp2
                go_roundw
                case rel => exact ⟨p + 1, by omega, by go_num, HD0.out, HD1.out.congr (fun i _ => by rw [← HS.out.1]; exact lk3_end fs p i HE.out), HKT.out⟩
                case measure => simp [intOf]; omega
    · obtain rfl : p = 6 := by omega
      have hi : (Tryz.prog.info? 120).map (·.size) = some 30 := by kernel_rfl
      have HX : RowKit.Hid (BlkF wo (w.heap.size + 1) (lkX fs)) := Lib.hid (HB1.out.congr (fun i hi => by unfold lk1; rw [if_pos (by omega)]))
      go_wp2_with (first
        | (refine wpList_load_row rfl 120 (.tmp 3) rfl (w.heap.size + 1) rfl 120 (lkL (lkX fs)).toArray (0, 0) _ HX.out Tryz.underlying120 rfl (by rw [hi]; simp [lkL_len]) ?_)
        | (refine wpList_store_row rfl 120 (.tmp 2) (.tmp 43) rfl w.heap.size (lkL (lkX fs)).toArray rfl rfl 120 _ HB0.out (by rw [hi]; simp [lkL_len]) (by simp [lkL_len]) (by simp [lkL, Value.oneCell']) ?_)
        | fail)
      refine bodyPost_ret (v := lkV fs) (results_cell_row (fn := Tryz.f103) (p := 2) (ty := 120) rfl _ _ w.heap.size 120 (lkL (lkX fs)).toArray (0, 0) _ rfl (setRow_heap _ _ _ _ _ _ HB0.out) Tryz.underlying120 rfl (by rw [hi]; simp [lkL_len])) rfl ⟨rfl, HKR.out.setRow (Nat.le_refl _) _⟩
end Go.Proofs.YtologmoanaccpaaGreatDoor
