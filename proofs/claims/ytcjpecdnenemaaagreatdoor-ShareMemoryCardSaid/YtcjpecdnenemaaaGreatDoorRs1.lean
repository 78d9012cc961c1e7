/-
  stints and begins, of the reference.
-/
import Derived.Test.YtcjpecdnenemaaaGreatDoorRn7
import Derived.Test.YtcjpecdnenemaaaGreatDoorGQ
namespace Go.Proofs.YtcjpecdnenemaaaGreatDoor
set_option linter.all false
open Go.RowKit Go.Shelf

set_option maxRecDepth 100000 in
theorem rstints_any (A : Option Addr) (n c : Nat) (xs : List Eqv) (sort : ByteArray) (day known : Int) (w : World) (hT : TabA w A n c xs) (hc : ∀ x ∈ xs, formB x = true) :
    Calls Tryz.prog 124 #[.slice A n c, .string sort, .int .i64 day, .int .i64 known] w fun e w' => e = .returned (.agg #[.int .i64 (stS (inForceS xs sort day known)).1, .int .i64 (stS (inForceS xs sort day known)).2]) ∧ Kept w w' := by
  have HT := Lib.hid hT
  clear hT
  have R0 : RowC (w.alloc (.cells #[.int .i64 0, .int .i64 0] 23)) w.heap.size [.int .i64 0, .int .i64 0] := RowC.new w [.int .i64 0, .int .i64 0] 23
  have HR0 := Lib.hid R0
  clear R0
  go_enter Tryz.func124, Tryz.ntmps124
  go_wp2_with fail
  refine (rinForce_for A n c xs sort day known _ (HT.out.kept ((Kept.refl _).alloc _)) hc).mono ?_
  rintro e w1 ⟨rfl, hk1⟩
  obtain ⟨m, hm⟩ : ∃ m, inForceS xs sort day known = m := ⟨_, rfl⟩
  rw [hm]
  have HM := Lib.hid hm
  clear hm
  have R := HR0.out.kept hk1
  have t0 := (R 0 _ rfl).1
  have z0 := (R 0 _ rfl).2
  have t1 := (R 1 _ rfl).1
  have z1 := (R 1 _ rfl).2
  have hzz := hk1.size
  simp only [World.size_alloc] at hzz
  have hzq : w.heap.size < w1.heap.size := by omega
  clear R hzz
  dsimp only [forV, eqV]
  go_wp2
  refine bodyPost_ret (v := .agg #[.int .i64 (m.getD zeroE).num, .int .i64 (m.getD zeroE).den]) (by simp [results, Tryz.results124, go_sem, hzq, t0, t1]) rfl ⟨by rw [HM.out]; rfl, ?_⟩
  exact ((((Kept.refl w).alloc _).trans hk1).setCell (by simp) _ |>.setCell (by simp) _).alloc _

def nst (d : Int) (nx : Int) (x : Eqv) : Int := if x.off = 0 ∧ d ≤ x.frm ∧ (nx < 0 ∨ x.frm < nx) then x.frm else nx
def nextK (xs : List Eqv) (d : Int) (k : Nat) : Int := (xs.take k).foldl (nst d) (-1)
theorem nextK_snoc {xs : List Eqv} {d : Int} {k : Nat} {x : Eqv} (h : xs[k]? = some x) : nextK xs d (k + 1) = nst d (nextK xs d k) x := by
  unfold nextK
  rw [take_snoc' h, List.foldl_append]; rfl
def begL (xs : List Eqv) : Nat → Int → List Int
  | 0, _ => []
  | f + 1, d => if nextK xs d xs.length < 0 then [] else nextK xs d xs.length :: begL xs f (nextK xs d xs.length + 1)
def begS (xs : List Eqv) : List Int := begL xs (xs.length + 1) 0
theorem nextK_le {xs : List Eqv} {d : Int} (hc : ∀ x ∈ xs, formB x = true) : ∀ k, nextK xs d k ≤ 100000 := by
  intro k
  induction k with
  | zero => simp [nextK]
  | succ k ih =>
    rcases hx : xs[k]? with _ | x
    · have : xs.take (k + 1) = xs.take k := by rw [List.take_succ, hx]; simp
      unfold nextK at ih ⊢
      rw [this]; exact ih
    · rw [nextK_snoc hx]
      unfold nst
      split
      · exact (frm_bd (hc x (List.mem_of_getElem? hx))).2
      · exact ih
set_option maxRecDepth 100000 in
set_option maxHeartbeats 3200000 in
theorem begins_any (A : Option Addr) (n c : Nat) (xs : List Eqv) (w : World) (hT : TabA w A n c xs) (hlt : n ≤ 1000000) (hc : ∀ x ∈ xs, formB x = true) :
    Calls Tryz.prog 123 #[.slice A n c] w (IntRes w (begS xs)) := by
  obtain ⟨i0, hi0, hz0, hz1, hz2⟩ := info_parts info3
  have HT := Lib.hid hT
  have hlen := hT.1
  have hnc := hT.2.1
  have hcm := hT.2.2.1
  have HC := Lib.hid hc
  clear hT hc
  have hwn : wrap64 ((n : Int) + 1) = (n : Int) + 1 := by unfold wrap64; omega
  have hwn2 : IntKind.i64.wrap ((n : Int) + 1) = (n : Int) + 1 := IntWalk.i64_in _ (by omega)
  go_enter Tryz.func123, Tryz.ntmps123
  go_wp2_with fail
  go_loopw [3, 4] (fun v dv wr => ∃ (zs : List Int) (d : Int), dv = .int .i64 d ∧ 0 ≤ d ∧ d ≤ 100001 ∧ zs.length ≤ n + 1 ∧ zs ++ begL xs (n + 1 - zs.length) d = begS xs ∧ wr.ownsRow w.heap.size 3 1 v zs.length (zs.map (Value.int .i64)) ∧ Kept w wr ∧ (∃ sA sc, v = .slice sA zs.length sc)) (fun v _ _ => n + 2 - (match v with | .slice _ q _ => q | _ => 0))
  case atStart => exact ⟨[], 0, by first | rfl | go_num, by omega, by omega, by simp, by unfold begS; rw [hlen]; rfl, by exact ⟨rfl, .inl ⟨rfl, rfl⟩⟩, Kept.refl _, none, 0, rfl⟩
  case round =>
    rename World => wo
    obtain ⟨zs, d, rfl, hd0, hd1, hzl, hinv, hown, hkr, sA, sc, rfl⟩ := hrel
    have HO := Lib.hid hown
    have HI := Lib.hid hinv
    have HKr := Lib.hid hkr
    clear hown hinv hkr
    by_cases hlz : zs.length < n + 1
    · have i1 : (zs.length : Int) < (n : Int) + 1 := by omega
      go_wp2_with fail
      go_loopw [5, 6] (fun nx i wi => ∃ k : Nat, k ≤ n ∧ i = .int .i64 k ∧ nx = .int .i64 (nextK xs d k) ∧ wo = wi) (fun _ i _ => n - (intOf i).toNat)
      case atStart => exact ⟨0, by omega, by first | rfl | go_num, by rfl, rfl⟩
      case round =>
        obtain ⟨k, hk, rfl, rfl, rfl⟩ := hrel
        have kz : (0 : Int) ≤ (k : Int) := by omega
        by_cases hkn : k < n
        · obtain ⟨x, hx⟩ : ∃ x, xs[k]? = some x := ⟨xs[k]'(by omega), List.getElem?_eq_getElem (by omega)⟩
          have HS := Lib.hid (nextK_snoc (d := d) hx)
          obtain ⟨N, hN⟩ : ∃ N, nextK xs d k = N := ⟨_, rfl⟩
          rw [hN] at HS ⊢
          obtain ⟨bb, of, hB, hcc⟩ := HT.out.2.2.2.2 (by omega)
          subst hB
          have Y := (hcc k x hx).kept HKr.out
          have y1 := Y.2.1
          have y6 := Y.2.2.2.2.2.2
          have k1 : (k : Int) < (n : Int) := by omega
          have kt : (k : Int).toNat = k := by omega
          clear hN hx hcc Y
          rcases b0 : (x.off == 0) with _ | _
          · have HE := Lib.hid (show ¬ x.off = 0 by simpa using b0)
            have HB := Lib.hid (show nextK xs d (k + 1) = N by rw [HS.out]; unfold nst; rw [if_neg (fun h => HE.out h.1)])
            go_wp2_with fail
            go_roundw
            case rel => exact ⟨k + 1, by omega, by go_num, by rw [HB.out], by first | rfl | trivial⟩
            case measure => simp [intOf]; omega
          · have HE := Lib.hid (show x.off = 0 by simpa using b0)
            by_cases b1 : d ≤ x.frm
            · by_cases b2 : N < 0
              · have HB := Lib.hid (show nextK xs d (k + 1) = x.frm by rw [HS.out]; unfold nst; rw [if_pos ⟨HE.out, b1, .inl b2⟩])
                go_wp2_with fail
                go_roundw
                case rel => exact ⟨k + 1, by omega, by go_num, by rw [HB.out], by first | rfl | trivial⟩
                case measure => simp [intOf]; omega
              · by_cases b3 : x.frm < N
                · have HB := Lib.hid (show nextK xs d (k + 1) = x.frm by rw [HS.out]; unfold nst; rw [if_pos ⟨HE.out, b1, .inr b3⟩])
                  go_wp2_with fail
                  go_roundw
                  case rel => exact ⟨k + 1, by omega, by go_num, by rw [HB.out], by first | rfl | trivial⟩
                  case measure => simp [intOf]; omega
                · have HB := Lib.hid (show nextK xs d (k + 1) = N by rw [HS.out]; unfold nst; rw [if_neg (fun h => h.2.2.elim b2 b3)])
                  go_wp2_with fail
                  go_roundw
                  case rel => exact ⟨k + 1, by omega, by go_num, by rw [HB.out], by first | rfl | trivial⟩
                  case measure => simp [intOf]; omega
            · have HB := Lib.hid (show nextK xs d (k + 1) = N by rw [HS.out]; unfold nst; rw [if_neg (fun h => b1 h.2.1)])
              go_wp2_with fail
              go_roundw
              case rel => exact ⟨k + 1, by omega, by go_num, by rw [HB.out], by first | rfl | trivial⟩
              case measure => simp [intOf]; omega
        · obtain rfl : k = n := by omega
          have HNX := Lib.hid (show nextK xs d xs.length = nextK xs d k by rw [hlen])
          have hle := nextK_le (d := d) HC.out k
          have HG := Lib.hid (show begL xs (k + 1 - zs.length) d = if nextK xs d xs.length < 0 then [] else nextK xs d xs.length :: begL xs (k + 1 - (zs.length + 1)) (nextK xs d xs.length + 1) by
            rw [show k + 1 - zs.length = (k + 1 - (zs.length + 1)) + 1 by omega]; rfl)
          obtain ⟨N, hN⟩ : ∃ N, nextK xs d k = N := ⟨_, rfl⟩
          rw [hN] at HNX hle ⊢
          clear hN
          by_cases hneg : N < 0
          · have HZ := Lib.hid (show zs = begS xs by have h := HI.out; rw [HG.out, HNX.out, if_pos hneg, List.append_nil] at h; exact h)
            go_wp2_with fail
            go_ret
            rw [← HZ.out]
            exact ⟨_, rfl, HO.out, HKr.out⟩
          · have HZ := Lib.hid (show (zs ++ [N]) ++ begL xs (k + 1 - (zs ++ [N]).length) (N + 1) = begS xs by
              have h := HI.out
              rw [HG.out, HNX.out, if_neg hneg] at h
              rw [List.append_assoc, List.length_append]
              exact h)
            have HN := Lib.hid (news_of (W := wo) (cs := [.int .i64 N]) (t := 3) (m := wo.heap.size) rfl)
            have H3 := Lib.hid (one1 N)
            have hw1 : wrap64 (N + 1) = N + 1 := by unfold wrap64; omega
            have hw2 : IntKind.i64.wrap (N + 1) = N + 1 := IntWalk.i64_in _ (by omega)
            go_wp2_with (at_builtin; refine wpList_append_own _ rfl (.tmp 54) (.tmp 56) 55 rfl w.heap.size 3 i0 _ 1 8 Tryz.underlying55 hi0 hz0 hz1 hz2 rfl (by decide) _ zs.length (zs.map (Value.int .i64)) rfl (own_kept HO.out ((Kept.refl _).alloc _)) ⟨wo.heap.size, 0, none⟩ 1 1 [.int .i64 N] rfl rfl HN.out H3.out (by simp only [maxLen]; omega) (by omega) (by have := HKr.out.size; simp; omega) ?_; intro v' w6 hown6 hg6 _hx6)
            obtain ⟨sA', sc', hv'⟩ : ∃ sA' sc', v' = .slice sA' (zs ++ [N]).length sc' := by
              rcases own_form hown6 with ⟨rfl, hz⟩ | ⟨g, cap, rfl, h1, h2, h3, h4⟩
              · simp at hz
              · exact ⟨some ⟨g, 0, none⟩, cap, by simp⟩
            subst hv'
            refine ⟨⟨zs ++ [N], N + 1, rfl, by omega, by omega, by simp; omega, HZ.out, ?_, (HKr.out.alloc _).grown hg6 (fun r hr => (HO.out.lt r hr).1), sA', sc', rfl⟩, ?_⟩
            · rw [List.map_append]
              rw [List.length_append] at hown6 ⊢
              exact hown6
            · simp; omega
    · have hz0' : zs.length = n + 1 := by omega
      have HZ := Lib.hid (show zs = begS xs by have h := HI.out; rw [hz0', Nat.sub_self] at h; simpa [begL] using h)
      have i1 : ¬ (zs.length : Int) < (n : Int) + 1 := by omega
      clear hz0'
      go_wp2_with fail
      go_ret
      rw [← HZ.out]
      exact ⟨_, rfl, HO.out, HKr.out⟩
end Go.Proofs.YtcjpecdnenemaaaGreatDoor
