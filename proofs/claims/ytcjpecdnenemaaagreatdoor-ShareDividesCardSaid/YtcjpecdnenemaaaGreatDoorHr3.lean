/- ShareHeirs: what Divide and Whole return -/
import Derived.Test.YtcjpecdnenemaaaGreatDoorHr1
import Derived.Test.YtcjpecdnenemaaaGreatDoorHr2
import Derived.Test.YtcjpecdnenemaaaGreatDoorSm2
import Derived.Test.YtcjpecdnenemaaaGreatDoorGR
namespace Go.Proofs.YtcjpecdnenemaaaGreatDoor
set_option linter.all false
open Go.RowKit Go.Shelf Go.Sort

theorem div_ok {sn sd : Int} {zs : List Int} (h : (divS sn sd zs).2 = 0) : vld sn sd = true ∧ 0 ≤ sn ∧ partsB zs = true ∧ zs.length ≤ 40 ∧ 0 < zs.sum ∧ zs.sum ≤ 40000 ∧ (divS sn sd zs).1 = shareL sn sd zs.sum zs ∧ ∀ z ∈ zs, (shareS sn sd zs.sum z).2.2 = 0 := by
  unfold divS at h ⊢
  dsimp only at h ⊢
  by_cases he : (sumOfS zs (vld sn sd && decide (0 ≤ sn))).2 = 0
  · rw [if_pos he] at h ⊢
    obtain ⟨hd, hp, h40, hs, hpos, hsb⟩ := sumOf_ok he
    simp only [Bool.and_eq_true, decide_eq_true_eq] at hd
    rw [hs] at h ⊢
    by_cases hE : shareE sn sd zs.sum zs = 0
    · rw [if_pos hE]
      refine ⟨hd.1, hd.2, hp, h40, hpos, hsb, rfl, fun z hz => ?_⟩
      unfold shareE at hE
      split at hE
      · rename_i p hp'
        have := List.find?_some hp'
        simp at this
        exact absurd hE this
      · rename_i hn
        have := List.find?_eq_none.1 hn z hz
        simpa using this
    · rw [if_neg hE] at h
      exact absurd h hE
  · rw [if_neg he] at h
    exact absurd h he
theorem take_sum {l : List Int} (h : ∀ x ∈ l, 0 ≤ x) (k : Nat) : 0 ≤ (l.take k).sum ∧ (l.take k).sum ≤ l.sum := by
  have nn : ∀ l : List Int, (∀ x ∈ l, 0 ≤ x) → 0 ≤ l.sum := by
    intro l
    induction l with
    | nil => intro _; simp
    | cons b l ih => intro h; have := ih (fun x hx => h x (List.mem_cons_of_mem _ hx)); have := h b (List.mem_cons_self ..); simp only [List.sum_cons]; omega
  have h1 := nn (l.take k) (fun x hx => h x (List.mem_of_mem_take hx))
  have h2 := nn (l.drop k) (fun x hx => h x (List.mem_of_mem_drop hx))
  have h3 : l.sum = (l.take k).sum + (l.drop k).sum := by rw [← List.sum_append, List.take_append_drop]
  omega
theorem divide_yes (A : Option Addr) (n c : Nat) (zs : List Int) (sn sd s : Int) (hs : zs.sum = s) (hE : (divS sn sd zs).2 = 0) (w : World) (h : IntsA w A n c zs) :
    Calls Tryz.prog 70 #[.agg #[.int .i64 sn, .int .i64 sd], .slice A n c] w fun e w' => ∃ g, e = .returned (.tuple #[.slice (some ⟨g, 0, none⟩) n n, .int .i64 0]) ∧ RowC w' g (fl2 (shareL sn sd s zs)) ∧ Kept w w' := by
  obtain ⟨_, _, _, _, _, _, hL, _⟩ := div_ok hE
  rw [hs] at hL
  refine (divide_any A n c zs sn sd w h).mono fun e w' hh => ?_
  obtain ⟨hh, hk⟩ := hh
  rcases hh with ⟨h1, _⟩ | ⟨_, g, he, _, hr⟩
  · exact absurd hE h1
  · rw [hL] at he hr
    have e1 : (shareL sn sd s zs).length = n := by unfold shareL; rw [List.length_map, h.1]
    rw [e1] at he
    exact ⟨g, he, hr, hk⟩
theorem divide_no (A : Option Addr) (n c : Nat) (zs : List Int) (sn sd : Int) (hE : (divS sn sd zs).2 ≠ 0) (w : World) (h : IntsA w A n c zs) :
    Calls Tryz.prog 70 #[.agg #[.int .i64 sn, .int .i64 sd], .slice A n c] w fun e w' => e = .returned (.tuple #[.slice none 0 0, .int .i64 (divS sn sd zs).2]) ∧ Kept w w' := by
  refine (divide_any A n c zs sn sd w h).mono fun e w' hh => ?_
  obtain ⟨hh, hk⟩ := hh
  rcases hh with ⟨_, h1⟩ | ⟨h1, _⟩
  · exact ⟨h1, hk⟩
  · exact absurd h1 hE
/-- what Whole gives -/
def WholeL (total s : Int) (zs ws : List Int) : Prop := ws.length = zs.length ∧ ws.sum = total ∧ ∀ (i : Nat) (z : Int), zs[i]? = some z → ∃ v, ws[i]? = some v ∧ 0 ≤ v ∧ v ≤ total ∧ -s < v * s - total * z ∧ v * s - total * z < s
theorem whole_yes (A : Option Addr) (n c : Nat) (zs : List Int) (total s : Int) (hs : zs.sum = s) (hE : (sumOfS zs (inB total 0 1000000000)).2 = 0) (w : World) (h : IntsA w A n c zs) :
    Calls Tryz.prog 72 #[.int .i64 total, .slice A n c] w fun e w' => ∃ g ws, e = .returned (.tuple #[.slice (some ⟨g, 0, none⟩) n n, .int .i64 0]) ∧ WholeL total s zs ws ∧ RowC w' g (intsV ws) ∧ Kept w w' := by
  subst hs
  obtain ⟨htot, hpart, h40, hs1, hpos, hsb⟩ := sumOf_ok hE
  refine (whole_all A n c zs total w h).mono fun e w' hh => ?_
  obtain ⟨hh, hk⟩ := hh
  rcases hh with ⟨h1, _⟩ | ⟨_, g, Z, he, _, hw, hp, hr⟩
  · exact absurd hE h1
  · rw [h.1] at he
    exact ⟨g, _, he, whole_part (inB_iff.1 htot).1 hpos hpart hp hw, hr, hk⟩
theorem whole_no (A : Option Addr) (n c : Nat) (zs : List Int) (total : Int) (hE : (sumOfS zs (inB total 0 1000000000)).2 ≠ 0) (w : World) (h : IntsA w A n c zs) :
    Calls Tryz.prog 72 #[.int .i64 total, .slice A n c] w fun e w' => e = .returned (.tuple #[.slice none 0 0, .int .i64 (sumOfS zs (inB total 0 1000000000)).2]) ∧ Kept w w' := by
  refine (whole_all A n c zs total w h).mono fun e w' hh => ?_
  obtain ⟨hh, hk⟩ := hh
  rcases hh with ⟨_, h1⟩ | ⟨h1, _⟩
  · exact ⟨h1, hk⟩
  · exact absurd h1 hE
end Go.Proofs.YtcjpecdnenemaaaGreatDoor
