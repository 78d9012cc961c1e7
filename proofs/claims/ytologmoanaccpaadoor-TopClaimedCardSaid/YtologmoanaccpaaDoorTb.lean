/-
  search: the first number that holds
-/
import Derived.Test.YtologmoanaccpaaDoorTa
namespace Go.Proofs.YtologmoanaccpaaDoor.Tly
set_option linter.all false
open Go.RowKit

/-- the first place below n at which p holds; n if there is none -/
def firstN (p : Nat → Bool) (n : Nat) : Nat := (List.range n).findIdx p
theorem firstN_eq {p : Nat → Bool} {n k : Nat} (hk : k ≤ n) (hb : ∀ j, j < k → p j = false) (ha : k < n → p k = true) : firstN p n = k := by
  unfold firstN
  rcases Nat.lt_or_eq_of_le hk with h | h
  · rw [List.findIdx_eq (by simpa using h)]
    refine ⟨by simpa using ha h, fun j hj => ?_⟩
    simpa using hb j hj
  · subst h
    conv => rhs; rw [← List.length_range (n := k)]
    refine List.findIdx_eq_length.2 fun x hx => ?_
    exact hb x (by simpa using hx)
theorem firstN_le (p : Nat → Bool) (n : Nat) : firstN p n ≤ n := by
  have := List.findIdx_le_length (xs := List.range n) (p := p)
  simpa [firstN] using this
theorem firstN_lt {p : Nat → Bool} {n j : Nat} (h : j < firstN p n) : p j = false := by
  have h1 := firstN_le p n
  have := List.not_of_lt_findIdx (p := p) (xs := List.range n) h
  simpa using this
theorem firstN_at {p : Nat → Bool} {n : Nat} (h : firstN p n < n) : p (firstN p n) = true := by
  have := List.findIdx_getElem (p := p) (xs := List.range n) (w := by simpa [firstN] using h)
  simpa [firstN] using this

theorem search_any (g n : Nat) (cb : Array Value) (p : Nat → Bool) (w : World) (eg : ∀ args w, (callFunc g args).run Tryd.prog w = .ok (.enter g args) w) (hsz : n < 1000000)
    (hf : ∀ (W : World) (i : Nat), Kept w W → i < n → Calls Tryd.prog g (#[.int .i64 i] ++ cb) W fun e w' => e = .returned (.bool (p i)) ∧ Kept W w')
    (hmono : ∀ a b, a ≤ b → b < n → p a = true → p b = true) :
    Calls Tryd.prog 88 #[.int .i64 n, .func (.func g) #[] cb] w fun e w' => e = .returned (.int .i64 (firstN p n)) ∧ Kept w w' := by
  have HF := Lib.hid hf
  have M := Lib.hid hmono
  clear hf hmono
  go_enter Tryd.func88, Tryd.ntmps88
  go_wp2_with fail
  go_loopw [5, 6] (fun s5 s6 wr => ∃ lo hi : Nat, s5 = .int .i64 lo ∧ s6 = .int .i64 hi ∧ lo ≤ hi ∧ hi ≤ n ∧ Kept w wr ∧
    Hid ((∀ t, t < lo → p t = false) ∧ (∀ t, hi ≤ t → t < n → p t = true))) (fun s5 s6 _ => (intOf s6).toNat - (intOf s5).toNat)
  case atStart => exact ⟨0, n, rfl, rfl, Nat.zero_le _, Nat.le_refl _, Kept.refl _, Lib.hid ⟨fun t ht => absurd ht (Nat.not_lt_zero _), fun t h1 h2 => by omega⟩⟩
  case round =>
    obtain ⟨lo, hi, rfl, rfl, hlh, hin, hkr, I⟩ := hrel
    by_cases hlt : lo < hi
    · have hc := HF.out wr ((lo + hi) / 2) hkr (by omega)
      rw [show (((lo + hi) / 2 : Nat) : Int) = ((lo : Int) + (hi : Int)) / 2 by omega] at hc
      have HC := Lib.hid hc
      clear hc
      cases hp : p ((lo + hi) / 2)
      · have HP := Lib.hid hp
        have HC := Lib.hid (hp ▸ HC.out)
        clear hp
        go_wp2_with fail
        refine HC.out.mono ?_
        rintro e w' ⟨rfl, hk1⟩
        go_wp2
        go_roundw
        case rel =>
          refine ⟨(lo + hi) / 2 + 1, hi, by rw [show ((lo : Int) + (hi : Int)) / 2 + 1 = (((lo + hi) / 2 + 1 : Nat) : Int) by omega], rfl, by omega, hin, hkr.trans hk1, Lib.hid ⟨fun t ht => ?_, I.out.2⟩⟩
          cases h : p t with
          | false => rfl
          | true => have := M.out t ((lo + hi) / 2) (by omega) (by omega) h; rw [HP.out] at this; cases this
        case measure => simp [intOf]; omega
      · have HP := Lib.hid hp
        have HC := Lib.hid (hp ▸ HC.out)
        clear hp
        go_wp2_with fail
        refine HC.out.mono ?_
        rintro e w' ⟨rfl, hk1⟩
        go_wp2
        go_roundw
        case rel =>
          refine ⟨lo, (lo + hi) / 2, rfl, by rw [show ((lo : Int) + (hi : Int)) / 2 = (((lo + hi) / 2 : Nat) : Int) by omega], by omega, by omega, hkr.trans hk1, Lib.hid ⟨I.out.1, fun t ht htn => M.out ((lo + hi) / 2) t ht htn HP.out⟩⟩
        case measure => simp [intOf]; omega
    · obtain rfl : hi = lo := by omega
      have hcnt : firstN p n = hi := firstN_eq hin I.out.1 (fun h => I.out.2 hi (Nat.le_refl _) h)
      have Hc := Lib.hid hcnt
      clear hcnt
      go_wp2
      go_ret
      exact ⟨ret_int (by rw [Hc.out]), hkr⟩
end Go.Proofs.YtologmoanaccpaaDoor.Tly
