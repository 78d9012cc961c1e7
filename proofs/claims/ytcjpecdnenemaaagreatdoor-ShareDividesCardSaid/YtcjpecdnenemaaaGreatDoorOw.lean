/- an own row read; slices.Equal 53 of equal numbers -/
import Derived.Test.YtcjpecdnenemaaaGreatDoorGN
import Derived.Test.YtcjpecdnenemaaaGreatDoorGQ
import Derived.Test.YtcjpecdnenemaaaGreatDoorGR
import Derived.Test.YtcjpecdnenemaaaGreatDoorSm1
import Derived.BigQuiet
import Derived.Deep.DeepCutAuto
namespace Go.Proofs.YtcjpecdnenemaaaGreatDoor
set_option linter.all false
open Go.RowKit Go.Shelf

theorem own_rowD {w : World} {base : Nat} {t : TypeId} {s g n c : Nat} {ys : List Value} (h : w.ownsRow base t s (.slice (some ⟨g, 0, none⟩) n c) n ys) : RowC w g ys := by
  intro j v hv
  have hj : j < n * s := by rw [← h.1]; exact (List.getElem?_eq_some_iff.1 hv).1
  refine ⟨by rw [h.cellAt j hj]; exact hv, ?_⟩
  rcases h.2 with ⟨h1, _⟩ | ⟨g', c', cur, h1, hb, hh, _⟩
  · cases h1
  · cases h1
    unfold World.frozen?
    rw [show (⟨g, j, none⟩ : Addr).block = g from rfl, hh]
    simp
theorem fracs_ownD {w : World} {base : Nat} {t : TypeId} {v : Value} {es : List (Int × Int)} (h : w.ownsRow base t 2 v es.length (fl2 es)) : ∃ A c, v = .slice A es.length c ∧ FracsA w A es.length c es := by
  obtain ⟨A, c, rfl, h1, h2, h3⟩ := FrA.of_own h
  refine ⟨A, c, rfl, rfl, h1, h2, fun hn => ?_⟩
  obtain ⟨g, e, hc⟩ := h3 hn
  exact ⟨g, 0, e, fun i p hp => ⟨by rw [Nat.zero_add]; exact hc _ _ (fl2_at hp).1, by rw [Nat.zero_add]; exact hc _ _ (fl2_at hp).2⟩⟩
set_option maxRecDepth 100000 in
set_option maxHeartbeats 3200000 in
theorem e53 (A B : Option Addr) (n c d : Nat) (ss : List Int) (w : World) (h1 : IntsA w A n c ss) (h2 : IntsA w B n d ss) :
    Calls Tryz.prog 53 #[.slice A n c, .slice B n d] w fun e w' => e = .returned (.bool true) ∧ Kept w w' := by
  have H1 := Lib.hid h1
  have H2 := Lib.hid h2
  have hnc := h1.2.1
  have hcm := h1.2.2.1
  have hnd := h2.2.1
  have hdm := h2.2.2.1
  clear h1 h2
  have hnn : ((n : Int) != (n : Int)) = false := by simp
  go_enter Tryz.func53, Tryz.ntmps53
  go_wp2_with fail
  go_loopw [13] (fun i wr => ∃ k : Nat, k ≤ n ∧ i = .int .i64 k ∧ Kept w wr) (fun i _ => n - (intOf i).toNat)
  case atStart => exact ⟨0, by omega, by first | rfl | go_num, Kept.refl _⟩
  case round =>
    obtain ⟨k, hk, rfl, hkr⟩ := hrel
    have HKR := Lib.hid hkr
    clear hkr
    by_cases hlt : k < n
    · have hxl : k < ss.length := by rw [H1.out.1]; exact hlt
      obtain ⟨x, hx⟩ : ∃ x, ss[k]? = some x := ⟨ss[k]'hxl, List.getElem?_eq_getElem hxl⟩
      obtain ⟨b, off, hA, hcc'⟩ := H1.out.2.2.2.2 (by omega)
      obtain ⟨b2, off2, hB, hcc2'⟩ := H2.out.2.2.2.2 (by omega)
      have hcc := hcc' k x hx
      have hcc2 := hcc2' k x hx
      subst hA
      subst hB
      have q0 := (HKR.out.cells _ _ (cell_lt hcc)).trans hcc
      have p0 := (HKR.out.cells _ _ (cell_lt hcc2)).trans hcc2
      have i0 : (0 : Int) ≤ (k : Int) := by omega
      have i1 : (k : Int) < (n : Int) := by omega
      have it : (k : Int).toNat = k := by omega
      have he : (x != x) = false := by simp
      clear hcc hcc2 hcc' hcc2' hx
      go_upto_region 6 with (fail)
      go_cut [24] (fun s24 wx => s24 = .bool false ∧ Kept wr wx)
      case first =>
        go_quiet (fail)
        go_wp2
        go_meet
        exact ⟨by first | rfl | (simp; done), by first | exact Kept.refl _ | exact (Kept.refl _).drewN _ | exact (Kept.refl _).drew⟩
      obtain ⟨rfl, kx⟩ := hcut
      have KX := Lib.hid (HKR.out.trans kx)
      clear kx q0 p0
      go_wp2
      go_roundw
      case rel => exact ⟨k + 1, by omega, by go_num, KX.out⟩
      case measure => simp [intOf]; omega
    · obtain rfl : k = n := by omega
      go_wp2
      go_ret
      exact ⟨rfl, HKR.out⟩
theorem info23D : (Tryz.prog.info? 23).map (fun i => (i.zero, i.size, i.bytes)) = some (some (.agg #[.int .i64 0, .int .i64 0]), 2, 16) := by kernel_rfl
end Go.Proofs.YtcjpecdnenemaaaGreatDoor
