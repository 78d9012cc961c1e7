/-
  Names, of the reference.
-/
import Derived.Test.YtcjpecdnenemaaaGreatDoorGE
import Derived.Test.YtcjpecdnenemaaaGreatDoorGC
namespace Go.Proofs.YtcjpecdnenemaaaGreatDoor
set_option linter.all false
open Go.RowKit

/-- what the reference knows of a string's first k bytes -/
def rnB (s : ByteArray) (k : Nat) : Bool := inB s.size 1 24 && decide (∀ j, j < k → chrB (byteAt s j) = true ∧ (j = 0 → letB (byteAt s j) = true))
theorem rnB_all (s : ByteArray) : rnB s s.size = nameB s := by
  unfold rnB nameB
  rcases h : inB s.size 1 24 with _ | _
  · rfl
  · have hs := (inB_iff.1 h).1
    rw [Bool.true_and, Bool.true_and, Bool.eq_iff_iff, Bool.and_eq_true, decide_eq_true_iff, decide_eq_true_iff]
    constructor
    · intro H
      exact ⟨(H 0 (by omega)).2 rfl, fun i hi => (H i hi).1⟩
    · rintro ⟨h0, H⟩ j hj
      exact ⟨H j hj, fun e => by rw [e]; exact h0⟩
theorem rnB_zero (s : ByteArray) : rnB s 0 = inB s.size 1 24 := by
  unfold rnB
  simp
theorem rnB_yes {s : ByteArray} {k : Nat} (h : rnB s k = true) (h1 : chrB (byteAt s k) = true) (h2 : k = 0 → letB (byteAt s k) = true) : rnB s (k + 1) = true := by
  unfold rnB at h ⊢
  rw [Bool.and_eq_true, decide_eq_true_iff] at h ⊢
  exact ⟨h.1, fun j hj => by
    rcases Nat.lt_or_eq_of_le (Nat.le_of_lt_succ hj) with e | e
    · exact h.2 j e
    · subst e; exact ⟨h1, h2⟩⟩
theorem rnB_no {s : ByteArray} {k : Nat} (h : chrB (byteAt s k) = true → k = 0 ∧ letB (byteAt s k) = false) : rnB s (k + 1) = false := by
  unfold rnB
  rw [Bool.and_eq_false_iff]
  right
  rw [decide_eq_false_iff_not]
  intro H
  obtain ⟨h1, h2⟩ := H k (by omega)
  obtain ⟨h3, h4⟩ := h h1
  rw [h2 h3] at h4; cases h4
theorem rnB_fell {s : ByteArray} {k : Nat} (h : rnB s k = false) : rnB s (k + 1) = false := by
  unfold rnB at h ⊢
  rw [Bool.and_eq_false_iff] at h ⊢
  rcases h with h | h
  · exact .inl h
  · right
    rw [decide_eq_false_iff_not] at h ⊢
    intro H; exact h fun j hj => H j (by omega)
set_option maxRecDepth 100000 in
set_option maxHeartbeats 3200000 in
theorem rname_any (s : ByteArray) (hs : s.size ≤ 9223372036854775807) (w : World) :
    Calls Tryz.prog 155 #[.string s] w fun e w' => e = .returned (.bool (nameB s)) ∧ Kept w w' := by
  rw [← rnB_all]
  have R := Lib.hid (rnB_zero s)
  by_cases z0 : (0 : Int) < (s.size : Int)
  · by_cases z1 : (s.size : Int) ≤ 24
    · have i0 : inB s.size 1 24 = true := by rw [inB_iff]; omega
      go_enter Tryz.func155, Tryz.ntmps155
      go_wp2_with fail
      go_loop [3, 4] (fun o i => ∃ k : Nat, k ≤ s.size ∧ i = .int .i64 k ∧ o = .bool (rnB s k)) (fun _ i => s.size - (intOf i).toNat)
      case atStart => exact ⟨0, by omega, by first | rfl | go_num, by rw [R.out, i0]⟩
      case round =>
        obtain ⟨k, hk, rfl, rfl⟩ := hrel
        by_cases hlt : k < s.size
        · have hbk := byteAt_eq s k hlt
          have bk : (s[k].toNat : Int) ≤ 255 := by have := s[k].toNat_lt; omega
          have kz : (0 : Int) ≤ (k : Int) := by omega
          have kl : (k : Int) < (s.size : Int) := by omega
          by_cases q0 : 97 ≤ (s[k].toNat : Int) ∧ (s[k].toNat : Int) ≤ 122
          · have c1 : 97 ≤ (s[k].toNat : Int) := by first | omega | (simp; omega)
            have c2 : (s[k].toNat : Int) ≤ 122 := by first | omega | (simp; omega)
            have c3 : 48 ≤ (s[k].toNat : Int) := by first | omega | (simp; omega)
            have c4 : ¬ (s[k].toNat : Int) ≤ 57 := by first | omega | (simp; omega)
            have c5 : ((s[k].toNat : Int) == 45) = false := by first | omega | (simp; omega)
            have ch : letB (byteAt s k) = true := by rw [hbk]; unfold letB; rw [inB_iff]; omega
            have CH := Lib.hid ch
            clear ch hbk q0
            rcases hok : rnB s k with _ | _
            · have HN := Lib.hid (rnB_fell hok)
              go_wp2_with fail
              go_round
              case rel => exact ⟨k + 1, by omega, by go_num, by rw [HN.out] <;> (try (simp; omega))⟩
              case measure => simp [intOf]; omega
            · have HN := Lib.hid (rnB_yes hok (by have := CH.out; unfold chrB; rw [this]; rfl) (fun _ => CH.out))
              go_wp2_with fail
              go_round
              case rel => exact ⟨k + 1, by omega, by go_num, by rw [HN.out] <;> (try (simp; omega))⟩
              case measure => simp [intOf]; omega
          by_cases q1 : 48 ≤ (s[k].toNat : Int) ∧ (s[k].toNat : Int) ≤ 57
          · have c1 : ¬ 97 ≤ (s[k].toNat : Int) := by first | omega | (simp; omega)
            have c3 : 48 ≤ (s[k].toNat : Int) := by first | omega | (simp; omega)
            have c4 : (s[k].toNat : Int) ≤ 57 := by first | omega | (simp; omega)
            have ch : chrB (byteAt s k) = true ∧ letB (byteAt s k) = false := by rw [hbk]; constructor; (unfold chrB; simp [inB]; omega); (unfold letB; simp [inB]; omega)
            have CH := Lib.hid ch
            clear ch hbk q0 q1
            rcases hok : rnB s k with _ | _
            · have HN := Lib.hid (rnB_fell hok)
              go_wp2_with fail
              go_round
              case rel => exact ⟨k + 1, by omega, by go_num, by rw [HN.out] <;> (try (simp; omega))⟩
              case measure => simp [intOf]; omega
            · by_cases hk0 : k = 0
              · have HN := Lib.hid (rnB_no (s := s) (k := k) (fun _ => ⟨hk0, CH.out.2⟩))
                have kk : ¬ (0 : Int) < (k : Int) := by omega
                clear hk0
                go_wp2_with fail
                go_round
                case rel => exact ⟨k + 1, by omega, by go_num, by rw [HN.out] <;> (try (simp; omega))⟩
                case measure => simp [intOf]; omega
              · have HN := Lib.hid (rnB_yes hok CH.out.1 (fun h => absurd h hk0))
                have kk : (0 : Int) < (k : Int) := by omega
                clear hk0
                go_wp2_with fail
                go_round
                case rel => exact ⟨k + 1, by omega, by go_num, by rw [HN.out] <;> (try (simp; omega))⟩
                case measure => simp [intOf]; omega
          by_cases q2 : (s[k].toNat : Int) = 45
          · have c1 : ¬ 97 ≤ (s[k].toNat : Int) := by first | omega | (simp; omega)
            have c3 : ¬ 48 ≤ (s[k].toNat : Int) := by first | omega | (simp; omega)
            have c5 : ((s[k].toNat : Int) == 45) = true := by first | omega | (simp; omega)
            have ch : chrB (byteAt s k) = true ∧ letB (byteAt s k) = false := by rw [hbk]; constructor; (unfold chrB; simp [inB]; omega); (unfold letB; simp [inB]; omega)
            have CH := Lib.hid ch
            clear ch hbk q0 q1 q2
            rcases hok : rnB s k with _ | _
            · have HN := Lib.hid (rnB_fell hok)
              go_wp2_with fail
              go_round
              case rel => exact ⟨k + 1, by omega, by go_num, by rw [HN.out] <;> (try (simp; omega))⟩
              case measure => simp [intOf]; omega
            · by_cases hk0 : k = 0
              · have HN := Lib.hid (rnB_no (s := s) (k := k) (fun _ => ⟨hk0, CH.out.2⟩))
                have kk : ¬ (0 : Int) < (k : Int) := by omega
                clear hk0
                go_wp2_with fail
                go_round
                case rel => exact ⟨k + 1, by omega, by go_num, by rw [HN.out] <;> (try (simp; omega))⟩
                case measure => simp [intOf]; omega
              · have HN := Lib.hid (rnB_yes hok CH.out.1 (fun h => absurd h hk0))
                have kk : (0 : Int) < (k : Int) := by omega
                clear hk0
                go_wp2_with fail
                go_round
                case rel => exact ⟨k + 1, by omega, by go_num, by rw [HN.out] <;> (try (simp; omega))⟩
                case measure => simp [intOf]; omega
          by_cases q3 : (s[k].toNat : Int) < 48
          · have c1 : ¬ 97 ≤ (s[k].toNat : Int) := by first | omega | (simp; omega)
            have c3 : ¬ 48 ≤ (s[k].toNat : Int) := by first | omega | (simp; omega)
            have c5 : ((s[k].toNat : Int) == 45) = false := by first | omega | (simp; omega)
            have ch : chrB (byteAt s k) = false := by rw [hbk]; unfold chrB letB; simp [inB]; omega
            have CH := Lib.hid ch
            clear ch hbk q0 q1 q2 q3
            rcases hok : rnB s k with _ | _
            · have HN := Lib.hid (rnB_fell hok)
              go_wp2_with fail
              go_round
              case rel => exact ⟨k + 1, by omega, by go_num, by rw [HN.out] <;> (try (simp; omega))⟩
              case measure => simp [intOf]; omega
            · have HN := Lib.hid (rnB_no (s := s) (k := k) (fun h => by rw [CH.out] at h; cases h))
              go_wp2_with fail
              go_round
              case rel => exact ⟨k + 1, by omega, by go_num, by rw [HN.out] <;> (try (simp; omega))⟩
              case measure => simp [intOf]; omega
          by_cases q4 : (s[k].toNat : Int) < 97
          · have c1 : ¬ 97 ≤ (s[k].toNat : Int) := by first | omega | (simp; omega)
            have c3 : 48 ≤ (s[k].toNat : Int) := by first | omega | (simp; omega)
            have c4 : ¬ (s[k].toNat : Int) ≤ 57 := by first | omega | (simp; omega)
            have c5 : ((s[k].toNat : Int) == 45) = false := by first | omega | (simp; omega)
            have ch : chrB (byteAt s k) = false := by rw [hbk]; unfold chrB letB; simp [inB]; omega
            have CH := Lib.hid ch
            clear ch hbk q0 q1 q2 q3 q4
            rcases hok : rnB s k with _ | _
            · have HN := Lib.hid (rnB_fell hok)
              go_wp2_with fail
              go_round
              case rel => exact ⟨k + 1, by omega, by go_num, by rw [HN.out] <;> (try (simp; omega))⟩
              case measure => simp [intOf]; omega
            · have HN := Lib.hid (rnB_no (s := s) (k := k) (fun h => by rw [CH.out] at h; cases h))
              go_wp2_with fail
              go_round
              case rel => exact ⟨k + 1, by omega, by go_num, by rw [HN.out] <;> (try (simp; omega))⟩
              case measure => simp [intOf]; omega
          have c1 : 97 ≤ (s[k].toNat : Int) := by first | omega | (simp; omega)
          have c2 : ¬ (s[k].toNat : Int) ≤ 122 := by first | omega | (simp; omega)
          have c3 : 48 ≤ (s[k].toNat : Int) := by first | omega | (simp; omega)
          have c4 : ¬ (s[k].toNat : Int) ≤ 57 := by first | omega | (simp; omega)
          have c5 : ((s[k].toNat : Int) == 45) = false := by first | omega | (simp; omega)
          have ch : chrB (byteAt s k) = false := by rw [hbk]; unfold chrB letB; simp [inB]; omega
          have CH := Lib.hid ch
          clear ch hbk q0 q1 q2 q3 q4
          rcases hok : rnB s k with _ | _
          · have HN := Lib.hid (rnB_fell hok)
            go_wp2_with fail
            go_round
            case rel => exact ⟨k + 1, by omega, by go_num, by rw [HN.out] <;> (try (simp; omega))⟩
            case measure => simp [intOf]; omega
          · have HN := Lib.hid (rnB_no (s := s) (k := k) (fun h => by rw [CH.out] at h; cases h))
            go_wp2_with fail
            go_round
            case rel => exact ⟨k + 1, by omega, by go_num, by rw [HN.out] <;> (try (simp; omega))⟩
            case measure => simp [intOf]; omega
        · obtain rfl : k = s.size := by omega
          go_wp2
          go_ret
          exact ⟨rfl, Kept.refl _⟩
    · have i0 : inB s.size 1 24 = false := by unfold inB; simp; omega
      go_enter Tryz.func155, Tryz.ntmps155
      go_wp2_with fail
      go_loop [3, 4] (fun o i => ∃ k : Nat, k ≤ s.size ∧ i = .int .i64 k ∧ o = .bool (rnB s k)) (fun _ i => s.size - (intOf i).toNat)
      case atStart => exact ⟨0, by omega, by first | rfl | go_num, by rw [R.out, i0]⟩
      case round =>
        obtain ⟨k, hk, rfl, rfl⟩ := hrel
        by_cases hlt : k < s.size
        · have hbk := byteAt_eq s k hlt
          have bk : (s[k].toNat : Int) ≤ 255 := by have := s[k].toNat_lt; omega
          have kz : (0 : Int) ≤ (k : Int) := by omega
          have kl : (k : Int) < (s.size : Int) := by omega
          by_cases q0 : 97 ≤ (s[k].toNat : Int) ∧ (s[k].toNat : Int) ≤ 122
          · have c1 : 97 ≤ (s[k].toNat : Int) := by first | omega | (simp; omega)
            have c2 : (s[k].toNat : Int) ≤ 122 := by first | omega | (simp; omega)
            have c3 : 48 ≤ (s[k].toNat : Int) := by first | omega | (simp; omega)
            have c4 : ¬ (s[k].toNat : Int) ≤ 57 := by first | omega | (simp; omega)
            have c5 : ((s[k].toNat : Int) == 45) = false := by first | omega | (simp; omega)
            have ch : letB (byteAt s k) = true := by rw [hbk]; unfold letB; rw [inB_iff]; omega
            have CH := Lib.hid ch
            clear ch hbk q0
            rcases hok : rnB s k with _ | _
            · have HN := Lib.hid (rnB_fell hok)
              go_wp2_with fail
              go_round
              case rel => exact ⟨k + 1, by omega, by go_num, by rw [HN.out] <;> (try (simp; omega))⟩
              case measure => simp [intOf]; omega
            · have HN := Lib.hid (rnB_yes hok (by have := CH.out; unfold chrB; rw [this]; rfl) (fun _ => CH.out))
              go_wp2_with fail
              go_round
              case rel => exact ⟨k + 1, by omega, by go_num, by rw [HN.out] <;> (try (simp; omega))⟩
              case measure => simp [intOf]; omega
          by_cases q1 : 48 ≤ (s[k].toNat : Int) ∧ (s[k].toNat : Int) ≤ 57
          · have c1 : ¬ 97 ≤ (s[k].toNat : Int) := by first | omega | (simp; omega)
            have c3 : 48 ≤ (s[k].toNat : Int) := by first | omega | (simp; omega)
            have c4 : (s[k].toNat : Int) ≤ 57 := by first | omega | (simp; omega)
            have ch : chrB (byteAt s k) = true ∧ letB (byteAt s k) = false := by rw [hbk]; constructor; (unfold chrB; simp [inB]; omega); (unfold letB; simp [inB]; omega)
            have CH := Lib.hid ch
            clear ch hbk q0 q1
            rcases hok : rnB s k with _ | _
            · have HN := Lib.hid (rnB_fell hok)
              go_wp2_with fail
              go_round
              case rel => exact ⟨k + 1, by omega, by go_num, by rw [HN.out] <;> (try (simp; omega))⟩
              case measure => simp [intOf]; omega
            · by_cases hk0 : k = 0
              · have HN := Lib.hid (rnB_no (s := s) (k := k) (fun _ => ⟨hk0, CH.out.2⟩))
                have kk : ¬ (0 : Int) < (k : Int) := by omega
                clear hk0
                go_wp2_with fail
                go_round
                case rel => exact ⟨k + 1, by omega, by go_num, by rw [HN.out] <;> (try (simp; omega))⟩
                case measure => simp [intOf]; omega
              · have HN := Lib.hid (rnB_yes hok CH.out.1 (fun h => absurd h hk0))
                have kk : (0 : Int) < (k : Int) := by omega
                clear hk0
                go_wp2_with fail
                go_round
                case rel => exact ⟨k + 1, by omega, by go_num, by rw [HN.out] <;> (try (simp; omega))⟩
                case measure => simp [intOf]; omega
          by_cases q2 : (s[k].toNat : Int) = 45
          · have c1 : ¬ 97 ≤ (s[k].toNat : Int) := by first | omega | (simp; omega)
            have c3 : ¬ 48 ≤ (s[k].toNat : Int) := by first | omega | (simp; omega)
            have c5 : ((s[k].toNat : Int) == 45) = true := by first | omega | (simp; omega)
            have ch : chrB (byteAt s k) = true ∧ letB (byteAt s k) = false := by rw [hbk]; constructor; (unfold chrB; simp [inB]; omega); (unfold letB; simp [inB]; omega)
            have CH := Lib.hid ch
            clear ch hbk q0 q1 q2
            rcases hok : rnB s k with _ | _
            · have HN := Lib.hid (rnB_fell hok)
              go_wp2_with fail
              go_round
              case rel => exact ⟨k + 1, by omega, by go_num, by rw [HN.out] <;> (try (simp; omega))⟩
              case measure => simp [intOf]; omega
            · by_cases hk0 : k = 0
              · have HN := Lib.hid (rnB_no (s := s) (k := k) (fun _ => ⟨hk0, CH.out.2⟩))
                have kk : ¬ (0 : Int) < (k : Int) := by omega
                clear hk0
                go_wp2_with fail
                go_round
                case rel => exact ⟨k + 1, by omega, by go_num, by rw [HN.out] <;> (try (simp; omega))⟩
                case measure => simp [intOf]; omega
              · have HN := Lib.hid (rnB_yes hok CH.out.1 (fun h => absurd h hk0))
                have kk : (0 : Int) < (k : Int) := by omega
                clear hk0
                go_wp2_with fail
                go_round
                case rel => exact ⟨k + 1, by omega, by go_num, by rw [HN.out] <;> (try (simp; omega))⟩
                case measure => simp [intOf]; omega
          by_cases q3 : (s[k].toNat : Int) < 48
          · have c1 : ¬ 97 ≤ (s[k].toNat : Int) := by first | omega | (simp; omega)
            have c3 : ¬ 48 ≤ (s[k].toNat : Int) := by first | omega | (simp; omega)
            have c5 : ((s[k].toNat : Int) == 45) = false := by first | omega | (simp; omega)
            have ch : chrB (byteAt s k) = false := by rw [hbk]; unfold chrB letB; simp [inB]; omega
            have CH := Lib.hid ch
            clear ch hbk q0 q1 q2 q3
            rcases hok : rnB s k with _ | _
            · have HN := Lib.hid (rnB_fell hok)
              go_wp2_with fail
              go_round
              case rel => exact ⟨k + 1, by omega, by go_num, by rw [HN.out] <;> (try (simp; omega))⟩
              case measure => simp [intOf]; omega
            · have HN := Lib.hid (rnB_no (s := s) (k := k) (fun h => by rw [CH.out] at h; cases h))
              go_wp2_with fail
              go_round
              case rel => exact ⟨k + 1, by omega, by go_num, by rw [HN.out] <;> (try (simp; omega))⟩
              case measure => simp [intOf]; omega
          by_cases q4 : (s[k].toNat : Int) < 97
          · have c1 : ¬ 97 ≤ (s[k].toNat : Int) := by first | omega | (simp; omega)
            have c3 : 48 ≤ (s[k].toNat : Int) := by first | omega | (simp; omega)
            have c4 : ¬ (s[k].toNat : Int) ≤ 57 := by first | omega | (simp; omega)
            have c5 : ((s[k].toNat : Int) == 45) = false := by first | omega | (simp; omega)
            have ch : chrB (byteAt s k) = false := by rw [hbk]; unfold chrB letB; simp [inB]; omega
            have CH := Lib.hid ch
            clear ch hbk q0 q1 q2 q3 q4
            rcases hok : rnB s k with _ | _
            · have HN := Lib.hid (rnB_fell hok)
              go_wp2_with fail
              go_round
              case rel => exact ⟨k + 1, by omega, by go_num, by rw [HN.out] <;> (try (simp; omega))⟩
              case measure => simp [intOf]; omega
            · have HN := Lib.hid (rnB_no (s := s) (k := k) (fun h => by rw [CH.out] at h; cases h))
              go_wp2_with fail
              go_round
              case rel => exact ⟨k + 1, by omega, by go_num, by rw [HN.out] <;> (try (simp; omega))⟩
              case measure => simp [intOf]; omega
          have c1 : 97 ≤ (s[k].toNat : Int) := by first | omega | (simp; omega)
          have c2 : ¬ (s[k].toNat : Int) ≤ 122 := by first | omega | (simp; omega)
          have c3 : 48 ≤ (s[k].toNat : Int) := by first | omega | (simp; omega)
          have c4 : ¬ (s[k].toNat : Int) ≤ 57 := by first | omega | (simp; omega)
          have c5 : ((s[k].toNat : Int) == 45) = false := by first | omega | (simp; omega)
          have ch : chrB (byteAt s k) = false := by rw [hbk]; unfold chrB letB; simp [inB]; omega
          have CH := Lib.hid ch
          clear ch hbk q0 q1 q2 q3 q4
          rcases hok : rnB s k with _ | _
          · have HN := Lib.hid (rnB_fell hok)
            go_wp2_with fail
            go_round
            case rel => exact ⟨k + 1, by omega, by go_num, by rw [HN.out] <;> (try (simp; omega))⟩
            case measure => simp [intOf]; omega
          · have HN := Lib.hid (rnB_no (s := s) (k := k) (fun h => by rw [CH.out] at h; cases h))
            go_wp2_with fail
            go_round
            case rel => exact ⟨k + 1, by omega, by go_num, by rw [HN.out] <;> (try (simp; omega))⟩
            case measure => simp [intOf]; omega
        · obtain rfl : k = s.size := by omega
          go_wp2
          go_ret
          exact ⟨rfl, Kept.refl _⟩
  · have i0 : inB s.size 1 24 = false := by unfold inB; simp; omega
    go_enter Tryz.func155, Tryz.ntmps155
    go_wp2_with fail
    go_loop [3, 4] (fun o i => ∃ k : Nat, k ≤ s.size ∧ i = .int .i64 k ∧ o = .bool (rnB s k)) (fun _ i => s.size - (intOf i).toNat)
    case atStart => exact ⟨0, by omega, by first | rfl | go_num, by rw [R.out, i0]⟩
    case round =>
      obtain ⟨k, hk, rfl, rfl⟩ := hrel
      by_cases hlt : k < s.size
      · have hbk := byteAt_eq s k hlt
        have bk : (s[k].toNat : Int) ≤ 255 := by have := s[k].toNat_lt; omega
        have kz : (0 : Int) ≤ (k : Int) := by omega
        have kl : (k : Int) < (s.size : Int) := by omega
        by_cases q0 : 97 ≤ (s[k].toNat : Int) ∧ (s[k].toNat : Int) ≤ 122
        · have c1 : 97 ≤ (s[k].toNat : Int) := by first | omega | (simp; omega)
          have c2 : (s[k].toNat : Int) ≤ 122 := by first | omega | (simp; omega)
          have c3 : 48 ≤ (s[k].toNat : Int) := by first | omega | (simp; omega)
          have c4 : ¬ (s[k].toNat : Int) ≤ 57 := by first | omega | (simp; omega)
          have c5 : ((s[k].toNat : Int) == 45) = false := by first | omega | (simp; omega)
          have ch : letB (byteAt s k) = true := by rw [hbk]; unfold letB; rw [inB_iff]; omega
          have CH := Lib.hid ch
          clear ch hbk q0
          rcases hok : rnB s k with _ | _
          · have HN := Lib.hid (rnB_fell hok)
            go_wp2_with fail
            go_round
            case rel => exact ⟨k + 1, by omega, by go_num, by rw [HN.out] <;> (try (simp; omega))⟩
            case measure => simp [intOf]; omega
          · have HN := Lib.hid (rnB_yes hok (by have := CH.out; unfold chrB; rw [this]; rfl) (fun _ => CH.out))
            go_wp2_with fail
            go_round
            case rel => exact ⟨k + 1, by omega, by go_num, by rw [HN.out] <;> (try (simp; omega))⟩
            case measure => simp [intOf]; omega
        by_cases q1 : 48 ≤ (s[k].toNat : Int) ∧ (s[k].toNat : Int) ≤ 57
        · have c1 : ¬ 97 ≤ (s[k].toNat : Int) := by first | omega | (simp; omega)
          have c3 : 48 ≤ (s[k].toNat : Int) := by first | omega | (simp; omega)
          have c4 : (s[k].toNat : Int) ≤ 57 := by first | omega | (simp; omega)
          have ch : chrB (byteAt s k) = true ∧ letB (byteAt s k) = false := by rw [hbk]; constructor; (unfold chrB; simp [inB]; omega); (unfold letB; simp [inB]; omega)
          have CH := Lib.hid ch
          clear ch hbk q0 q1
          rcases hok : rnB s k with _ | _
          · have HN := Lib.hid (rnB_fell hok)
            go_wp2_with fail
            go_round
            case rel => exact ⟨k + 1, by omega, by go_num, by rw [HN.out] <;> (try (simp; omega))⟩
            case measure => simp [intOf]; omega
          · by_cases hk0 : k = 0
            · have HN := Lib.hid (rnB_no (s := s) (k := k) (fun _ => ⟨hk0, CH.out.2⟩))
              have kk : ¬ (0 : Int) < (k : Int) := by omega
              clear hk0
              go_wp2_with fail
              go_round
              case rel => exact ⟨k + 1, by omega, by go_num, by rw [HN.out] <;> (try (simp; omega))⟩
              case measure => simp [intOf]; omega
            · have HN := Lib.hid (rnB_yes hok CH.out.1 (fun h => absurd h hk0))
              have kk : (0 : Int) < (k : Int) := by omega
              clear hk0
              go_wp2_with fail
              go_round
              case rel => exact ⟨k + 1, by omega, by go_num, by rw [HN.out] <;> (try (simp; omega))⟩
              case measure => simp [intOf]; omega
        by_cases q2 : (s[k].toNat : Int) = 45
        · have c1 : ¬ 97 ≤ (s[k].toNat : Int) := by first | omega | (simp; omega)
          have c3 : ¬ 48 ≤ (s[k].toNat : Int) := by first | omega | (simp; omega)
          have c5 : ((s[k].toNat : Int) == 45) = true := by first | omega | (simp; omega)
          have ch : chrB (byteAt s k) = true ∧ letB (byteAt s k) = false := by rw [hbk]; constructor; (unfold chrB; simp [inB]; omega); (unfold letB; simp [inB]; omega)
          have CH := Lib.hid ch
          clear ch hbk q0 q1 q2
          rcases hok : rnB s k with _ | _
          · have HN := Lib.hid (rnB_fell hok)
            go_wp2_with fail
            go_round
            case rel => exact ⟨k + 1, by omega, by go_num, by rw [HN.out] <;> (try (simp; omega))⟩
            case measure => simp [intOf]; omega
          · by_cases hk0 : k = 0
            · have HN := Lib.hid (rnB_no (s := s) (k := k) (fun _ => ⟨hk0, CH.out.2⟩))
              have kk : ¬ (0 : Int) < (k : Int) := by omega
              clear hk0
              go_wp2_with fail
              go_round
              case rel => exact ⟨k + 1, by omega, by go_num, by rw [HN.out] <;> (try (simp; omega))⟩
              case measure => simp [intOf]; omega
            · have HN := Lib.hid (rnB_yes hok CH.out.1 (fun h => absurd h hk0))
              have kk : (0 : Int) < (k : Int) := by omega
              clear hk0
              go_wp2_with fail
              go_round
              case rel => exact ⟨k + 1, by omega, by go_num, by rw [HN.out] <;> (try (simp; omega))⟩
              case measure => simp [intOf]; omega
        by_cases q3 : (s[k].toNat : Int) < 48
        · have c1 : ¬ 97 ≤ (s[k].toNat : Int) := by first | omega | (simp; omega)
          have c3 : ¬ 48 ≤ (s[k].toNat : Int) := by first | omega | (simp; omega)
          have c5 : ((s[k].toNat : Int) == 45) = false := by first | omega | (simp; omega)
          have ch : chrB (byteAt s k) = false := by rw [hbk]; unfold chrB letB; simp [inB]; omega
          have CH := Lib.hid ch
          clear ch hbk q0 q1 q2 q3
          rcases hok : rnB s k with _ | _
          · have HN := Lib.hid (rnB_fell hok)
            go_wp2_with fail
            go_round
            case rel => exact ⟨k + 1, by omega, by go_num, by rw [HN.out] <;> (try (simp; omega))⟩
            case measure => simp [intOf]; omega
          · have HN := Lib.hid (rnB_no (s := s) (k := k) (fun h => by rw [CH.out] at h; cases h))
            go_wp2_with fail
            go_round
            case rel => exact ⟨k + 1, by omega, by go_num, by rw [HN.out] <;> (try (simp; omega))⟩
            case measure => simp [intOf]; omega
        by_cases q4 : (s[k].toNat : Int) < 97
        · have c1 : ¬ 97 ≤ (s[k].toNat : Int) := by first | omega | (simp; omega)
          have c3 : 48 ≤ (s[k].toNat : Int) := by first | omega | (simp; omega)
          have c4 : ¬ (s[k].toNat : Int) ≤ 57 := by first | omega | (simp; omega)
          have c5 : ((s[k].toNat : Int) == 45) = false := by first | omega | (simp; omega)
          have ch : chrB (byteAt s k) = false := by rw [hbk]; unfold chrB letB; simp [inB]; omega
          have CH := Lib.hid ch
          clear ch hbk q0 q1 q2 q3 q4
          rcases hok : rnB s k with _ | _
          · have HN := Lib.hid (rnB_fell hok)
            go_wp2_with fail
            go_round
            case rel => exact ⟨k + 1, by omega, by go_num, by rw [HN.out] <;> (try (simp; omega))⟩
            case measure => simp [intOf]; omega
          · have HN := Lib.hid (rnB_no (s := s) (k := k) (fun h => by rw [CH.out] at h; cases h))
            go_wp2_with fail
            go_round
            case rel => exact ⟨k + 1, by omega, by go_num, by rw [HN.out] <;> (try (simp; omega))⟩
            case measure => simp [intOf]; omega
        have c1 : 97 ≤ (s[k].toNat : Int) := by first | omega | (simp; omega)
        have c2 : ¬ (s[k].toNat : Int) ≤ 122 := by first | omega | (simp; omega)
        have c3 : 48 ≤ (s[k].toNat : Int) := by first | omega | (simp; omega)
        have c4 : ¬ (s[k].toNat : Int) ≤ 57 := by first | omega | (simp; omega)
        have c5 : ((s[k].toNat : Int) == 45) = false := by first | omega | (simp; omega)
        have ch : chrB (byteAt s k) = false := by rw [hbk]; unfold chrB letB; simp [inB]; omega
        have CH := Lib.hid ch
        clear ch hbk q0 q1 q2 q3 q4
        rcases hok : rnB s k with _ | _
        · have HN := Lib.hid (rnB_fell hok)
          go_wp2_with fail
          go_round
          case rel => exact ⟨k + 1, by omega, by go_num, by rw [HN.out] <;> (try (simp; omega))⟩
          case measure => simp [intOf]; omega
        · have HN := Lib.hid (rnB_no (s := s) (k := k) (fun h => by rw [CH.out] at h; cases h))
          go_wp2_with fail
          go_round
          case rel => exact ⟨k + 1, by omega, by go_num, by rw [HN.out] <;> (try (simp; omega))⟩
          case measure => simp [intOf]; omega
      · obtain rfl : k = s.size := by omega
        go_wp2
        go_ret
        exact ⟨rfl, Kept.refl _⟩
end Go.Proofs.YtcjpecdnenemaaaGreatDoor
