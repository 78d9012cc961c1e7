/- tests of rates, tallies, re-counts: the code's and the reference's -/
import Derived.Test.YtdeokdlkjgpffaaGreatDoorTd
namespace Go.Proofs.YtdeokdlkjgpffaaGreatDoor
set_option linter.all false
open Go.RowKit

theorem cellOld {W : World} {a : Addr} {v : Value} (o : Obj) (h : W.cell? a = some v) : (W.alloc o).cell? a = some v := by
  rcases a with ⟨b, f, s⟩
  have hb : b < W.heap.size := by
    rcases Nat.lt_or_ge b W.heap.size with hlt | hge
    · exact hlt
    · simp [World.cell?, Array.getElem?_eq_none hge] at h
  have := (Below.alloc (Below.refl W.heap.size W) (Nat.le_refl _) o)
  rw [Below.cell this (p := ⟨b, f, s⟩) hb]; exact h

/-- a test's error -/
def errI (b : Bool) : Int := if b = true then 0 else 1
theorem errI_true : errI true = 0 := rfl
theorem errI_false : errI false = 1 := rfl
def countB (i dy s n x : Int) : Bool := entryB i s [dy] && inB n 0 100000 && inB x 0 10000
def recountB (i dy kn s t n : Int) : Bool := entryB i s [dy, kn] && inB t 0 100000 && decide (0 < t) && inB n 0 200000

set_option maxHeartbeats 1000000 in
theorem rcount_any (i dy s n x : Int) (w : World) :
    Calls Tryz.prog 26 #[.agg #[.int .i64 i, .int .i64 dy, .int .i64 s, .int .i64 n, .int .i64 x]] w fun e w' => e = .returned (.int .i64 (errI (countB i dy s n x))) ∧ Kept w w' := by
  by_cases h0 : i < 1
  · have hs : countB i dy s n x = false := by simp [countB, entryB, inB]; try omega
    have Hs := Lib.hid hs
    clear hs
    go_enter Tryz.func26, Tryz.ntmps26
    go_wp2
    go_ret
    exact ⟨ret_int (by rw [Hs.out]; rfl), (Kept.refl _).alloc _⟩
  · skip
    by_cases h1 : 1000000 < i
    · have hs : countB i dy s n x = false := by simp [countB, entryB, inB]; try omega
      have Hs := Lib.hid hs
      clear hs
      go_enter Tryz.func26, Tryz.ntmps26
      go_wp2
      go_ret
      exact ⟨ret_int (by rw [Hs.out]; rfl), (Kept.refl _).alloc _⟩
    · skip
      by_cases h2 : dy < 0
      · have hs : countB i dy s n x = false := by simp [countB, entryB, inB]; try omega
        have Hs := Lib.hid hs
        clear hs
        go_enter Tryz.func26, Tryz.ntmps26
        go_wp2
        go_ret
        exact ⟨ret_int (by rw [Hs.out]; rfl), (Kept.refl _).alloc _⟩
      · skip
        by_cases h3 : 100000 < dy
        · have hs : countB i dy s n x = false := by simp [countB, entryB, inB]; try omega
          have Hs := Lib.hid hs
          clear hs
          go_enter Tryz.func26, Tryz.ntmps26
          go_wp2
          go_ret
          exact ⟨ret_int (by rw [Hs.out]; rfl), (Kept.refl _).alloc _⟩
        · skip
          by_cases h4 : s < 1
          · have hs : countB i dy s n x = false := by simp [countB, entryB, inB]; try omega
            have Hs := Lib.hid hs
            clear hs
            go_enter Tryz.func26, Tryz.ntmps26
            go_wp2
            go_ret
            exact ⟨ret_int (by rw [Hs.out]; rfl), (Kept.refl _).alloc _⟩
          · skip
            by_cases h5 : 40 < s
            · have hs : countB i dy s n x = false := by simp [countB, entryB, inB]; try omega
              have Hs := Lib.hid hs
              clear hs
              go_enter Tryz.func26, Tryz.ntmps26
              go_wp2
              go_ret
              exact ⟨ret_int (by rw [Hs.out]; rfl), (Kept.refl _).alloc _⟩
            · skip
              by_cases h6 : n < 0
              · have hs : countB i dy s n x = false := by simp [countB, entryB, inB]; try omega
                have Hs := Lib.hid hs
                clear hs
                go_enter Tryz.func26, Tryz.ntmps26
                go_wp2
                go_ret
                exact ⟨ret_int (by rw [Hs.out]; rfl), (Kept.refl _).alloc _⟩
              · skip
                by_cases h7 : 100000 < n
                · have hs : countB i dy s n x = false := by simp [countB, entryB, inB]; try omega
                  have Hs := Lib.hid hs
                  clear hs
                  go_enter Tryz.func26, Tryz.ntmps26
                  go_wp2
                  go_ret
                  exact ⟨ret_int (by rw [Hs.out]; rfl), (Kept.refl _).alloc _⟩
                · skip
                  by_cases h8 : x < 0
                  · have hs : countB i dy s n x = false := by simp [countB, entryB, inB]; try omega
                    have Hs := Lib.hid hs
                    clear hs
                    go_enter Tryz.func26, Tryz.ntmps26
                    go_wp2
                    go_ret
                    exact ⟨ret_int (by rw [Hs.out]; rfl), (Kept.refl _).alloc _⟩
                  · skip
                    by_cases h9 : 10000 < x
                    · have hs : countB i dy s n x = false := by simp [countB, entryB, inB]; try omega
                      have Hs := Lib.hid hs
                      clear hs
                      go_enter Tryz.func26, Tryz.ntmps26
                      go_wp2
                      go_ret
                      exact ⟨ret_int (by rw [Hs.out]; rfl), (Kept.refl _).alloc _⟩
                    · skip
                      have e_i : inB i 1 1000000 = true := inB_iff.2 ⟨by omega, by omega⟩
                      have e_dy : inB dy 0 100000 = true := inB_iff.2 ⟨by omega, by omega⟩
                      have e_s : inB s 1 40 = true := inB_iff.2 ⟨by omega, by omega⟩
                      have e_n : inB n 0 100000 = true := inB_iff.2 ⟨by omega, by omega⟩
                      have e_x : inB x 0 10000 = true := inB_iff.2 ⟨by omega, by omega⟩
                      have hs : countB i dy s n x = true := by simp [countB, entryB, e_i, e_dy, e_s, e_n, e_x]; try omega
                      have Hs := Lib.hid hs
                      clear hs e_i e_dy e_s e_n e_x
                      go_enter Tryz.func26, Tryz.ntmps26
                      go_wp2
                      go_ret
                      exact ⟨ret_int (by rw [Hs.out]; rfl), (Kept.refl _).alloc _⟩

set_option maxHeartbeats 1000000 in
theorem rrecount_any (i dy kn s t n : Int) (w : World) :
    Calls Tryz.prog 31 #[.agg #[.int .i64 i, .int .i64 dy, .int .i64 kn, .int .i64 s, .int .i64 t, .int .i64 n]] w fun e w' => e = .returned (.int .i64 (errI (recountB i dy kn s t n))) ∧ Kept w w' := by
  by_cases h0 : i < 1
  · have hs : recountB i dy kn s t n = false := by simp [recountB, entryB, inB]; try omega
    have Hs := Lib.hid hs
    clear hs
    go_enter Tryz.func31, Tryz.ntmps31
    go_wp2
    go_ret
    exact ⟨ret_int (by rw [Hs.out]; rfl), (Kept.refl _).alloc _⟩
  · skip
    by_cases h1 : 1000000 < i
    · have hs : recountB i dy kn s t n = false := by simp [recountB, entryB, inB]; try omega
      have Hs := Lib.hid hs
      clear hs
      go_enter Tryz.func31, Tryz.ntmps31
      go_wp2
      go_ret
      exact ⟨ret_int (by rw [Hs.out]; rfl), (Kept.refl _).alloc _⟩
    · skip
      by_cases h2 : dy < 0
      · have hs : recountB i dy kn s t n = false := by simp [recountB, entryB, inB]; try omega
        have Hs := Lib.hid hs
        clear hs
        go_enter Tryz.func31, Tryz.ntmps31
        go_wp2
        go_ret
        exact ⟨ret_int (by rw [Hs.out]; rfl), (Kept.refl _).alloc _⟩
      · skip
        by_cases h3 : 100000 < dy
        · have hs : recountB i dy kn s t n = false := by simp [recountB, entryB, inB]; try omega
          have Hs := Lib.hid hs
          clear hs
          go_enter Tryz.func31, Tryz.ntmps31
          go_wp2
          go_ret
          exact ⟨ret_int (by rw [Hs.out]; rfl), (Kept.refl _).alloc _⟩
        · skip
          by_cases h4 : kn < 0
          · have hs : recountB i dy kn s t n = false := by simp [recountB, entryB, inB]; try omega
            have Hs := Lib.hid hs
            clear hs
            go_enter Tryz.func31, Tryz.ntmps31
            go_wp2
            go_ret
            exact ⟨ret_int (by rw [Hs.out]; rfl), (Kept.refl _).alloc _⟩
          · skip
            by_cases h5 : 100000 < kn
            · have hs : recountB i dy kn s t n = false := by simp [recountB, entryB, inB]; try omega
              have Hs := Lib.hid hs
              clear hs
              go_enter Tryz.func31, Tryz.ntmps31
              go_wp2
              go_ret
              exact ⟨ret_int (by rw [Hs.out]; rfl), (Kept.refl _).alloc _⟩
            · skip
              by_cases h6 : s < 1
              · have hs : recountB i dy kn s t n = false := by simp [recountB, entryB, inB]; try omega
                have Hs := Lib.hid hs
                clear hs
                go_enter Tryz.func31, Tryz.ntmps31
                go_wp2
                go_ret
                exact ⟨ret_int (by rw [Hs.out]; rfl), (Kept.refl _).alloc _⟩
              · skip
                by_cases h7 : 40 < s
                · have hs : recountB i dy kn s t n = false := by simp [recountB, entryB, inB]; try omega
                  have Hs := Lib.hid hs
                  clear hs
                  go_enter Tryz.func31, Tryz.ntmps31
                  go_wp2
                  go_ret
                  exact ⟨ret_int (by rw [Hs.out]; rfl), (Kept.refl _).alloc _⟩
                · skip
                  by_cases h8 : t < 1
                  · have hs : recountB i dy kn s t n = false := by simp [recountB, entryB, inB]; try omega
                    have Hs := Lib.hid hs
                    clear hs
                    go_enter Tryz.func31, Tryz.ntmps31
                    go_wp2
                    go_ret
                    exact ⟨ret_int (by rw [Hs.out]; rfl), (Kept.refl _).alloc _⟩
                  · skip
                    by_cases h9 : 100000 < t
                    · have hs : recountB i dy kn s t n = false := by simp [recountB, entryB, inB]; try omega
                      have Hs := Lib.hid hs
                      clear hs
                      go_enter Tryz.func31, Tryz.ntmps31
                      go_wp2
                      go_ret
                      exact ⟨ret_int (by rw [Hs.out]; rfl), (Kept.refl _).alloc _⟩
                    · skip
                      by_cases h10 : n < 0
                      · have hs : recountB i dy kn s t n = false := by simp [recountB, entryB, inB]; try omega
                        have Hs := Lib.hid hs
                        clear hs
                        go_enter Tryz.func31, Tryz.ntmps31
                        go_wp2
                        go_ret
                        exact ⟨ret_int (by rw [Hs.out]; rfl), (Kept.refl _).alloc _⟩
                      · skip
                        by_cases h11 : 200000 < n
                        · have hs : recountB i dy kn s t n = false := by simp [recountB, entryB, inB]; try omega
                          have Hs := Lib.hid hs
                          clear hs
                          go_enter Tryz.func31, Tryz.ntmps31
                          go_wp2
                          go_ret
                          exact ⟨ret_int (by rw [Hs.out]; rfl), (Kept.refl _).alloc _⟩
                        · skip
                          have e_i : inB i 1 1000000 = true := inB_iff.2 ⟨by omega, by omega⟩
                          have e_dy : inB dy 0 100000 = true := inB_iff.2 ⟨by omega, by omega⟩
                          have e_kn : inB kn 0 100000 = true := inB_iff.2 ⟨by omega, by omega⟩
                          have e_s : inB s 1 40 = true := inB_iff.2 ⟨by omega, by omega⟩
                          have e_t : inB t 0 100000 = true := inB_iff.2 ⟨by omega, by omega⟩
                          have e_n : inB n 0 200000 = true := inB_iff.2 ⟨by omega, by omega⟩
                          have hs : recountB i dy kn s t n = true := by simp [recountB, entryB, e_i, e_dy, e_kn, e_s, e_t, e_n]; try omega
                          have Hs := Lib.hid hs
                          clear hs e_i e_dy e_kn e_s e_t e_n
                          go_enter Tryz.func31, Tryz.ntmps31
                          go_wp2
                          go_ret
                          exact ⟨ret_int (by rw [Hs.out]; rfl), (Kept.refl _).alloc _⟩

end Go.Proofs.YtdeokdlkjgpffaaGreatDoor
