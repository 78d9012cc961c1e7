/- TallyAsks -/
import Derived.Test.YtjaicilnlgjdcaaUl
import Derived.Test.YtjaicilnlgjdcaaVb
namespace Go.Proofs.Ytjaicilnlgjdcaa
set_option linter.all false
open Go.RowKit

set_option maxRecDepth 100000 in
theorem asksLaw_any (n c : Int) (w : World) : Calls Try.prog 6 #[.int .i64 n, .int .i64 c] w fun e w' => e = .returned (.bool true) ∧ Kept w w' := by
  obtain ⟨a, ha⟩ : ∃ a, a = misI n c := ⟨_, rfl⟩
  obtain ⟨p, hp⟩ : ∃ p, p = misB n c := ⟨_, rfl⟩
  obtain ⟨b, hb⟩ : ∃ b, b = douI n c := ⟨_, rfl⟩
  obtain ⟨q, hq⟩ : ∃ q, q = douB n c := ⟨_, rfl⟩
  have H1 : RowKit.Hid (∀ W, Calls Try.prog 40 #[.int .i64 n, .int .i64 c] W fun e w' => e = .returned (.tuple #[.int .i64 a, .bool p]) ∧ Kept W w') := Lib.hid (fun W => by rw [ha, hp]; exact misses_any n c W)
  have H2 : RowKit.Hid (∀ W, Calls Try.prog 41 #[.int .i64 n, .int .i64 c] W fun e w' => e = .returned (.tuple #[.int .i64 a, .bool p]) ∧ Kept W w') := Lib.hid (fun W => by rw [ha, hp]; exact rmisses_any n c W)
  have H3 : RowKit.Hid (∀ W, Calls Try.prog 42 #[.int .i64 n, .int .i64 c] W fun e w' => e = .returned (.tuple #[.int .i64 b, .bool q]) ∧ Kept W w') := Lib.hid (fun W => by rw [hb, hq]; exact doubles_any n c W)
  have H4 : RowKit.Hid (∀ W, Calls Try.prog 43 #[.int .i64 n, .int .i64 c] W fun e w' => e = .returned (.tuple #[.int .i64 b, .bool q]) ∧ Kept W w') := Lib.hid (fun W => by rw [hb, hq]; exact rdoubles_any n c W)
  clear ha hp hb hq
  have kk := Kept.refl w
  go_enter Try.func6, Try.ntmps6
  go_wp2_with (first
    | (go_at_call 40; refine (H1.out _).mono ?_; rintro e w1 ⟨rfl, hk⟩; replace kk := kk.trans hk)
    | (go_at_call 41; refine (H2.out _).mono ?_; rintro e w1 ⟨rfl, hk⟩; replace kk := kk.trans hk)
    | (go_at_call 42; refine (H3.out _).mono ?_; rintro e w1 ⟨rfl, hk⟩; replace kk := kk.trans hk)
    | (go_at_call 43; refine (H4.out _).mono ?_; rintro e w1 ⟨rfl, hk⟩; replace kk := kk.trans hk)
    | (go_at_call 30; refine (counted_any _).mono ?_; rintro e w1 ⟨rfl, hk⟩; replace kk := kk.trans hk)
    | fail)
  go_ret
  exact ⟨rfl, kk⟩
end Go.Proofs.Ytjaicilnlgjdcaa
