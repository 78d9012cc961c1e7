/-
  Append, of the reference.
-/
import Derived.Test.YtcjpecdnenemaaaGreatDoorRs1
import Derived.Test.YtcjpecdnenemaaaGreatDoorLa2
namespace Go.Proofs.YtcjpecdnenemaaaGreatDoor
set_option linter.all false
open Go.RowKit Go.Shelf

theorem chk_snoc {xs : List Eqv} {x : Eqv} : (chkS (xs ++ [x])).2 = if (chkS xs).2 = 0 then refS xs x else (chkS xs).2 := by
  have hat : ∀ j, j < xs.length → refAt (xs ++ [x]) j = refAt xs j := by
    intro j hj
    unfold refAt
    rw [List.getElem?_append_left hj, List.take_append_of_le_length (by omega)]
  have hlast : refAt (xs ++ [x]) xs.length = refS xs x := by
    unfold refAt
    rw [List.getElem?_append_right (Nat.le_refl _)]
    simp
  by_cases h : (chkS xs).2 = 0
  · rw [if_pos h]
    have ho := chk_all h
    by_cases h2 : refS xs x = 0
    · rw [h2, chkS_none]
      intro j hj
      simp at hj
      rcases Nat.lt_or_eq_of_le (Nat.le_of_lt_succ hj) with h' | h'
      · rw [hat j h']; exact ho j h'
      · rw [h', hlast]; exact h2
    · rw [chkS_at (k := xs.length) (by simp) (by rw [hlast]; exact h2) (fun j hj => by rw [hat j hj]; exact ho j hj), hlast]
  · rw [if_neg h]
    have hf : ∃ k, k < xs.length ∧ refAt xs k ≠ 0 ∧ ∀ j, j < k → refAt xs j = 0 := by
      unfold chkS at h
      rcases hf : (List.range xs.length).find? (fun i => refAt xs i != 0) with _ | i
      · rw [hf] at h; exact absurd rfl h
      · obtain ⟨h1, la, lb, h2, h3⟩ := List.find?_eq_some_iff_append.1 hf
        have hl := List.mem_of_find?_eq_some hf
        refine ⟨i, List.mem_range.1 hl, by simpa using h1, fun j hj => ?_⟩
        have hlen : la.length = i := by
          have : (List.range xs.length)[la.length]? = some i := by rw [h2]; simp
          have h4 := List.getElem?_eq_some_iff.1 this
          obtain ⟨_, h4⟩ := h4
          simpa using h4
        have hm : j ∈ la := by
          have : (List.range xs.length)[j]? = some j := List.getElem?_range (Nat.lt_trans hj (List.mem_range.1 hl))
          rw [h2, List.getElem?_append_left (by omega)] at this
          exact List.mem_of_getElem? this
        simpa using h3 j hm
    obtain ⟨k, hk, hne, ho⟩ := hf
    rw [chkS_at (xs := xs ++ [x]) (k := k) (by simp; omega) (by rw [hat k hk]; exact hne) (fun j hj => by rw [hat j (by omega)]; exact ho j hj), hat k hk, chkS_at hk hne ho]
theorem chk_len {xs : List Eqv} (h : (chkS xs).2 = 0) : xs.length ≤ 200 := by
  rcases Nat.lt_or_ge 200 xs.length with h' | h'
  · exact absurd (few_of h' (fun j hj => chk_all h j (by omega))) (fun _ => by
      have h0 := chk_all h 200 h'
      have hx : xs[200]? = some (xs[200]'(by omega)) := List.getElem?_eq_getElem (by omega)
      unfold refAt at h0
      rw [hx] at h0
      have : refS (xs.take 200) (xs[200]'(by omega)) = 2 := by
        unfold refS
        rw [if_pos (by rw [List.length_take]; omega)]
      simp only [this] at h0
      exact absurd h0 (by decide))
  · exact h'
set_option maxRecDepth 100000 in
set_option maxHeartbeats 1600000 in
theorem rappend_err (A : Option Addr) (n c : Nat) (xs : List Eqv) (x : Eqv) (hs : x.sort.size ≤ 9223372036854775807) (E : Int) (h0 : (chkS (xs ++ [x])).2 = E) (hE : (E != 0) = true) (w : World) (h : TabA w A n c xs) :
    Calls Tryz.prog 39 #[.slice A n c, eqV x] w fun e w' => e = .returned (.tuple #[.slice none 0 0, .int .i64 E]) ∧ Kept w w' := by
  have HT := Lib.hid h
  have X0 := Lib.hid (RowC.new w (eqCells x) 37)
  have KB := Lib.hid ((Kept.refl w).alloc (boxX x))
  have hln := h.1
  rw [chk_snoc] at h0
  have CK := Lib.hid (fun W h => rcheck_any A n c xs W h)
  by_cases hc : (chkS xs).2 = 0
  · rw [if_pos hc] at h0
    have hl := chk_len hc
    have RF := Lib.hid (fun W h => rrefused_any A n c xs x E h0 hs (by omega) W h)
    rw [hc] at CK
    clear h hc h0
    obtain ⟨F, hF⟩ : ∃ F, (chkS xs).1 = F := ⟨_, rfl⟩
    rw [hF] at CK
    clear hF
    obtain ⟨id, frm, kno, srt, num, den, off⟩ := x
    unfold boxX at KB
    unfold eqV at RF ⊢
    dsimp only at KB RF ⊢
    go_enter Tryz.func39, Tryz.ntmps39
    go_wp2_with fail
    refine (CK.out _ (HT.out.kept KB.out)).mono ?_
    rintro e w1 ⟨rfl, hk1⟩
    have K1 := Lib.hid (KB.out.trans hk1)
    have X1 := X0.out.kept hk1
    have x0 := (X1 0 _ rfl).1
    have x1 := (X1 1 _ rfl).1
    have x2 := (X1 2 _ rfl).1
    have x3 := (X1 3 _ rfl).1
    have x4 := (X1 4 _ rfl).1
    have x5 := (X1 5 _ rfl).1
    have x6 := (X1 6 _ rfl).1
    clear X1 hk1
    go_wp2_with fail
    refine (RF.out _ (HT.out.kept K1.out)).mono ?_
    rintro e w2 ⟨rfl, hk2⟩
    go_wp2_with fail
    go_ret2
    exact ⟨rfl, K1.out.trans hk2⟩
  · rw [if_neg hc] at h0
    rw [h0] at CK
    clear h hc h0
    obtain ⟨F, hF⟩ : ∃ F, (chkS xs).1 = F := ⟨_, rfl⟩
    rw [hF] at CK
    clear hF
    obtain ⟨id, frm, kno, srt, num, den, off⟩ := x
    unfold boxX at KB
    unfold eqV
    dsimp only at KB ⊢
    go_enter Tryz.func39, Tryz.ntmps39
    go_wp2_with fail
    refine (CK.out _ (HT.out.kept KB.out)).mono ?_
    rintro e w1 ⟨rfl, hk1⟩
    go_wp2_with fail
    go_ret2
    exact ⟨rfl, KB.out.trans hk1⟩
end Go.Proofs.YtcjpecdnenemaaaGreatDoor
