/- TallyTexts: what Write gives is read, what Read takes is written (no run in this text) -/
import Derived.Test.YtdeokdlkjgpffaaGreatDoorXh
import Derived.Test.YtdeokdlkjgpffaaGreatDoorXf
namespace Go.Proofs.YtdeokdlkjgpffaaGreatDoor
set_option linter.all false
open Go.RowKit Go.Shelf

theorem ct_bd {x : Ct} (h : ctB x = true) : ∀ y ∈ ctNums x, 0 ≤ y ∧ y ≤ 1000000000 := by
  unfold ctB countB entryB at h
  simp only [Bool.and_eq_true, List.all_cons, List.all_nil, Bool.and_true, inB_iff] at h
  intro y hy
  simp only [ctNums, List.mem_cons, List.not_mem_nil, or_false] at hy
  omega
theorem rc_bd {x : Rcn} (h : rcB x = true) : ∀ y ∈ rcNums x, 0 ≤ y ∧ y ≤ 1000000000 := by
  unfold rcB recountB entryB at h
  simp only [Bool.and_eq_true, List.all_cons, List.all_nil, Bool.and_true, inB_iff, decide_eq_true_eq] at h
  intro y hy
  simp only [rcNums, List.mem_cons, List.not_mem_nil, or_false] at hy
  omega
theorem read_written {x : Ct} (h : ctB x = true) : readC (ctLine x) = (x, 0) := by
  have h1 : readN (numsB (ctNums x)) 5 = (ctNums x, true) := readN_nums x.id [x.dy, x.sh, x.nu, x.wo] (ct_bd h)
  have h2 : mkCt (ctNums x) = x := rfl
  unfold readC ctLine
  rw [if_pos h, h1]
  simp only [h2, h, Bool.and_self, if_true]
theorem readR_written {x : Rcn} (h : rcB x = true) : readR (rcLine x) = (x, 0) := by
  have h1 : readN (numsB (rcNums x)) 6 = (rcNums x, true) := readN_nums x.id [x.kn, x.dy, x.sh, x.tr, x.nu] (rc_bd h)
  have h2 : mkRc (rcNums x) = x := rfl
  unfold readR rcLine
  rw [if_pos h, h1]
  simp only [h2, h, Bool.and_self, if_true]
theorem bytes_eq {a b : ByteArray} (h : (a.toList == b.toList) = true) : a = b := by
  first
    | exact Lib.toList_inj (by simpa using h)
    | (have h1 := beq_iff_eq.1 h; simp only [ByteArray.toList_eq] at h1; cases a; cases b; simp_all)
theorem readN_true {line : ByteArray} {size : Nat} (h : (readN line size).2 = true) : numsB (readN line size).1 = line := by
  unfold readN at h ⊢
  split at h
  · rename_i h1
    rw [if_pos h1]
    exact bytes_eq h
  · simp at h
theorem written_read {s : ByteArray} (h : (readC s).2 = 0) : ctB (readC s).1 = true ∧ ctLine (readC s).1 = s := by
  unfold readC at h ⊢
  by_cases hc : ((readN s 5).2 && ctB (mkCt (readN s 5).1)) = true
  · rw [if_pos hc]
    obtain ⟨h1, h2⟩ := Bool.and_eq_true_iff.1 hc
    refine ⟨h2, ?_⟩
    unfold ctLine
    rw [if_pos h2]
    have hl := readN_len h1
    have hn := readN_true h1
    have he : ctNums (mkCt (readN s 5).1) = (readN s 5).1 := by
      match (readN s 5).1, hl with
      | [a, b, c, d, e], _ => rfl
    rw [he]; exact hn
  · rw [if_neg hc] at h; cases h
theorem written_readR {s : ByteArray} (h : (readR s).2 = 0) : rcB (readR s).1 = true ∧ rcLine (readR s).1 = s := by
  unfold readR at h ⊢
  by_cases hc : ((readN s 6).2 && rcB (mkRc (readN s 6).1)) = true
  · rw [if_pos hc]
    obtain ⟨h1, h2⟩ := Bool.and_eq_true_iff.1 hc
    refine ⟨h2, ?_⟩
    unfold rcLine
    rw [if_pos h2]
    have hl := readN_len h1
    have hn := readN_true h1
    have he : rcNums (mkRc (readN s 6).1) = (readN s 6).1 := by
      match (readN s 6).1, hl with
      | [a, b, c, d, e, f], _ => rfl
    rw [he]; exact hn
  · rw [if_neg hc] at h; cases h
theorem readC_err (s : ByteArray) : (readC s).2 = 0 ∨ (readC s).2 = 4 := by unfold readC; split <;> simp
theorem readR_err (s : ByteArray) : (readR s).2 = 0 ∨ (readR s).2 = 4 := by unfold readR; split <;> simp
theorem join_size (xs : List Int) (h : i64B xs) : (numsB xs).size ≤ 22 * xs.length := by
  have := nums_len xs h
  show (numsB xs).data.size ≤ _
  unfold numsB joinB
  simpa using this
theorem ctLine_size (x : Ct) : (ctLine x).size ≤ 1000000 := by
  unfold ctLine
  split
  · rename_i h
    have := join_size (ctNums x) (ct_b h)
    have hl : (ctNums x).length = 5 := rfl
    omega
  · show (0 : Nat) ≤ _; omega
theorem rcLine_size (x : Rcn) : (rcLine x).size ≤ 1000000 := by
  unfold rcLine
  split
  · rename_i h
    have := join_size (rcNums x) (rc_b h)
    have hl : (rcNums x).length = 6 := rfl
    omega
  · show (0 : Nat) ≤ _; omega
end Go.Proofs.YtdeokdlkjgpffaaGreatDoor
