/- writeNumbers -/
import Derived.Test.YtdeokdlkjgpffaaGreatDoorXb
import Derived.Maps.AppendAt
import Derived.Deep.AppendLies
import Derived.Deep.RegionHeld3
namespace Go.Proofs.YtdeokdlkjgpffaaGreatDoor
set_option linter.all false
open Go.RowKit Go.Shelf
attribute [local go_sem] Oper.semAt_some

def TabK (k : Nat) {α : Type} (cl : α → List Value) (w : World) (b off : Nat) (xs : List α) : Prop := ∀ i x, xs[i]? = some x → ∀ j v, (cl x)[j]? = some v → w.cell? ⟨b, off + i * k + j, none⟩ = some v
def SliK (k : Nat) {α : Type} (cl : α → List Value) (w : World) (A : Option Addr) (n c : Nat) (xs : List α) : Prop :=
  xs.length = n ∧ n ≤ c ∧ c ≤ 9223372036854775807 ∧ (0 < n → ∃ b off, A = some ⟨b, off, none⟩ ∧ TabK k cl w b off xs)
theorem SliK.kept {k : Nat} {α : Type} {cl : α → List Value} {w w' : World} {A : Option Addr} {n c : Nat} {xs : List α} (h : SliK k cl w A n c xs) (hk : Kept w w') : SliK k cl w' A n c xs :=
  ⟨h.1, h.2.1, h.2.2.1, fun hn => by
    obtain ⟨b, off, e, ht⟩ := h.2.2.2 hn
    exact ⟨b, off, e, fun i x hx j v hv => (hk.cells _ _ (cell_lt (ht i x hx j v hv))).trans (ht i x hx j v hv)⟩⟩
theorem flatK_len {α : Type} {cl : α → List Value} {k : Nat} (hk : ∀ x, (cl x).length = k) (xs : List α) : (xs.flatMap cl).length = xs.length * k := by
  induction xs with
  | nil => simp
  | cons x xs ih => rw [List.flatMap_cons, List.length_append, ih, List.length_cons, hk, Nat.add_mul]; omega
theorem flatK_at {α : Type} {cl : α → List Value} {k : Nat} (hk : ∀ x, (cl x).length = k) : ∀ (xs : List α) (i j : Nat) (x : α), xs[i]? = some x → j < k → (xs.flatMap cl)[i * k + j]? = (cl x)[j]?
  | [], _, _, _, h, _ => by simp at h
  | y :: ys, 0, j, x, h, hj => by
    simp at h
    subst h
    rw [List.flatMap_cons, List.getElem?_append_left (by rw [hk]; omega)]
    simp
  | y :: ys, i + 1, j, x, h, hj => by
    have ih := flatK_at hk ys i j x (by simpa using h) hj
    rw [List.flatMap_cons, List.getElem?_append_right (by rw [hk, Nat.add_mul]; omega), ← ih]
    congr 1
    rw [hk, Nat.add_mul]
    omega
theorem own_sliK {α : Type} {cl : α → List Value} {k : Nat} (hk : ∀ x, (cl x).length = k) (hk0 : 0 < k) {w : World} {base n c : Nat} {e : TypeId} {A : Option Addr} {xs : List α} (h : w.ownsRow base e k (.slice A n c) n (xs.flatMap cl)) : SliK k cl w A n c xs := by
  have hlen : (xs.flatMap cl).length = n * k := h.1
  rw [flatK_len hk] at hlen
  have hn : xs.length = n := Nat.eq_of_mul_eq_mul_right hk0 hlen
  rcases h.2 with ⟨h1, h2⟩ | ⟨g, cap, cur, h1, _, hg, hnc, hc, hs, ht⟩
  · cases h1; exact ⟨hn, by omega, by omega, fun h => by omega⟩
  · cases h1
    refine ⟨hn, hnc, by unfold maxLen at hc; exact hc, fun _ => ⟨g, 0, rfl, fun i x hx j v hv => ?_⟩⟩
    have hi : i < n := by rw [← hn]; exact (List.getElem?_eq_some_iff.1 hx).1
    have hj : j < k := by rw [← hk x]; exact (List.getElem?_eq_some_iff.1 hv).1
    have hlt : i * k + j < n * k := by
      have : (i + 1) * k ≤ n * k := Nat.mul_le_mul_right k hi
      rw [Nat.add_mul] at this
      omega
    rw [show 0 + i * k + j = i * k + j by omega, h.cellAt (i * k + j) hlt, flatK_at hk xs i j x hx hj, hv]
theorem own_outK {α : Type} {cl : α → List Value} {k : Nat} (hk : ∀ x, (cl x).length = k) (hk0 : 0 < k) {w : World} {base n : Nat} {e : TypeId} {v : Value} {xs : List α} (h : w.ownsRow base e k v n (xs.flatMap cl)) : ∃ A c, v = .slice A n c ∧ SliK k cl w A n c xs := by
  rcases h.2 with ⟨h1, h2⟩ | ⟨g, cap, cur, h1, _⟩
  · subst h1; subst h2; exact ⟨_, _, rfl, own_sliK hk hk0 h⟩
  · subst h1; exact ⟨_, _, rfl, own_sliK hk hk0 h⟩
theorem own_row {w : World} {base n size : Nat} {e : TypeId} {v : Value} {xs : List Value} (h : w.ownsRow base e size v n xs) : ∀ j, v.ownBlock = some j → base ≤ j := fun j ej => by
  rcases h.2 with ⟨rfl, _⟩ | ⟨g, cap, cur, rfl, hb, _, _⟩
  · simp [Value.ownBlock] at ej
  · obtain rfl : g = j := by simpa [Value.ownBlock] using ej
    exact hb
theorem own_kept {w w' : World} {b : Nat} {e : TypeId} {s : Nat} {v : Value} {n : Nat} {ys : List Value} (h : w.ownsRow b e s v n ys) (hk : Kept w w') : w'.ownsRow b e s v n ys := by
  obtain ⟨h1, h2⟩ := h
  refine ⟨h1, ?_⟩
  rcases h2 with h | ⟨g, c, cur, k1, k2, k3, k4⟩
  · exact .inl h
  · exact .inr ⟨g, c, cur, k1, k2, (hk.block g (Array.getElem?_eq_some_iff.1 k3).1).trans k3, k4⟩
theorem info9 : (Tryz.prog.info? 9).map (fun i => (i.zero, i.size, i.bytes)) = some (some (.string ByteArray.empty), 1, 16) := by kernel_rfl
def strC (s : ByteArray) : List Value := [.string s]
theorem strC_len (s : ByteArray) : (strC s).length = 1 := rfl
theorem itoaB_len (n : Int) (h0 : -9223372036854775808 ≤ n) (h1 : n ≤ 9223372036854775807) : (itoaB n).data.toList.length ≤ 21 := by
  have := Lib.itoa_length_le n h0 h1
  simpa [itoaB] using this
/-- the line of some numbers -/
def numsB (xs : List Int) : ByteArray := joinB (xs.map itoaB)
def i64B (xs : List Int) : Prop := ∀ x ∈ xs, -9223372036854775808 ≤ x ∧ x ≤ 9223372036854775807
theorem lens_le : ∀ (xs : List Int), i64B xs → Lib.lens ((xs.map itoaB).map (·.data.toList)) ≤ 21 * xs.length
  | [], _ => by simp [Lib.lens]
  | x :: xs, h => by
    have ih := lens_le xs (fun y hy => h y (List.mem_cons_of_mem _ hy))
    have := itoaB_len x (h x (List.mem_cons_self ..)).1 (h x (List.mem_cons_self ..)).2
    simp only [List.map_cons, List.length_cons, Lib.lens, List.sum_cons, List.foldr_cons] at ih ⊢
    omega
theorem nums_len (xs : List Int) (h : i64B xs) : (Lib.join ((xs.map itoaB).map (·.data.toList)) [32]).length ≤ 22 * xs.length := by
  cases xs with
  | nil => simp [Lib.join_nil]
  | cons x xs =>
    have := lens_le (x :: xs) h
    simp only [List.map_cons] at this ⊢
    rw [Lib.join_length]
    simp only [List.length_map, List.length_cons, List.length_nil] at this ⊢
    omega
theorem str_row (w : World) (b : Nat) (s : ByteArray) (t : TypeId) : RowC (w.alloc (.cells #[.string s] t)) w.heap.size (strC s) := RowC.new w [.string s] t
theorem str_one (s : ByteArray) : ∀ u ∈ strC s, u.oneCell' = true := by intro u hu; simp [strC] at hu; subst hu; rfl

set_option maxRecDepth 100000 in
set_option maxHeartbeats 4000000 in
theorem writeNumbers_any (A : Option Addr) (n c : Nat) (xs : List Int) (w : World) (hX : IntA w A n c xs) (hb : i64B xs) (hlt : n ≤ 1000) (hE : Env w) :
    Calls Tryz.prog 25 #[.slice A n c] w fun e w' => e = .returned (.string (numsB xs)) ∧ Kept w w' := by
  have HX := Lib.hid hX
  have HB := Lib.hid hb
  have HE := Lib.hid hE
  have hnc := hX.2.1
  have hcm := hX.2.2.1
  have hlx := hX.1
  clear hX hb hE
  obtain ⟨i0, hnf, hz0, hz1, hz2⟩ := info_parts info9
  go_enter Tryz.func25, Tryz.ntmps25
  go_wp2_with fail
  go_loopw [3, 8] (fun v i wr => ∃ k : Nat, k ≤ n ∧ i = .int .i64 k ∧ Kept w wr ∧ wr.ownsRow w.heap.size 9 1 v k (((xs.take k).map itoaB).flatMap strC)) (fun _ i _ => n - (intOf i).toNat)
  case atStart => exact ⟨0, by omega, by first | rfl | go_num, Kept.refl _, World.ownsRow_nil _ _ _ _⟩
  case round =>
    obtain ⟨k, hk, rfl, hkr, hown⟩ := hrel
    have HOWN := Lib.hid hown
    have HKR := Lib.hid hkr
    have hzr := hkr.size
    clear hown
    by_cases hlt2 : k < n
    · obtain ⟨b, off, hA, htab⟩ := HX.out.2.2.2 (by omega)
      subst hA
      obtain ⟨x, hx⟩ : ∃ x, xs[k]? = some x := ⟨xs[k]'(by omega), List.getElem?_eq_getElem (by omega)⟩
      have p0 := (hkr.cells _ _ (cell_lt (htab k x hx))).trans (htab k x hx)
      have lp := cell_lt p0
      have hxb := HB.out x (List.mem_of_getElem? hx)
      have HI : RowKit.Hid (∀ W, Kept wr W → Calls Tryz.prog 50 #[.int .i64 x] W fun e w' => e = .returned (.string (itoaB x)) ∧ Kept W w') := Lib.hid (fun W hW => itoa_any x hxb.1 hxb.2 W ((HE.out.kept HKR.out).kept hW))
      have HSN : RowKit.Hid (((xs.take (k + 1)).map itoaB).flatMap strC = ((xs.take k).map itoaB).flatMap strC ++ strC (itoaB x)) := Lib.hid (by rw [take_snoc' hx]; simp)
      obtain ⟨sx, hsx⟩ : ∃ sx, sx = itoaB x := ⟨_, rfl⟩
      rw [← hsx] at HI HSN
      have hi0 : (0 : Int) ≤ (k : Int) := by omega
      have hi1 : (k : Int) < (n : Int) := by omega
      have HA3 : RowKit.Hid (k + 1 ≤ maxLen) := Lib.hid (by unfold maxLen; omega)
      have HA4 : RowKit.Hid ((k + 1) * 16 ≤ 140737488355328) := Lib.hid (by omega)
      clear htab hx hxb hkr hsx
      go_wp2_with fail
      refine (HI.out _ (Kept.refl _)).mono ?_
      rintro e w9 ⟨rfl, hk9⟩
      have HK9 := Lib.hid hk9
      have HO9 := Lib.hid (own_kept HOWN.out (hk9.alloc (.cells #[.string sx] 9)))
      have HN := Lib.hid (show ∀ j u, (strC sx)[j]? = some u → (w9.alloc (.cells #[.string sx] 9)).cell? ((⟨w9.heap.size, 0, none⟩ : Addr).add j) = some u from World.news_of_block (heap_alloc_new w9 _))
      have HZ := Lib.hid (HKR.out.trans (hk9.alloc (.cells #[.string sx] 9))).size
      clear hk9 p0 lp
      go_wp2_with (at_builtin; refine wpList_append_lies _ rfl (.tmp 12) (.tmp 15) 82 rfl w.heap.size 9 i0 _ 1 16 Tryz.underlying82 hnf hz0 hz1 hz2 rfl (by decide) _ k _ rfl HO9.out ⟨w9.heap.size, 0, none⟩ 1 1 (strC sx) rfl rfl HN.out (str_one _) (by decide) HA3.out HA4.out HZ.out _ rfl ?_; intro g cap w10 hown10 hgrow10 hat10 hlt10)
      have HO10 := Lib.hid hown10
      have HK10 := Lib.hid ((HKR.out.trans (HK9.out.alloc _)).grown hgrow10 (fun j ej => own_row HOWN.out j ej))
      clear hown10 hgrow10 hat10 hlt10
      go_roundw
      case rel =>
        exact ⟨k + 1, by omega, by go_num, HK10.out, by rw [HSN.out]; exact HO10.out⟩
      case measure => simp [intOf] <;> omega
    · obtain rfl : k = n := by omega
      have hown := HOWN.out
      rw [List.take_of_length_le (by omega)] at hown
      obtain ⟨A7, c7, rfl, hs7⟩ := own_outK strC_len (by decide) hown
      have HJ : RowKit.Hid (∀ W, Kept wr W → Calls Tryz.prog 51 #[.slice A7 k c7, .string ⟨#[32]⟩] W fun e w' => e = .returned (.string (numsB xs)) ∧ Kept W w') := Lib.hid (fun W hW => by
        have hlen : (xs.map itoaB).length = k := by simp [hlx]
        by_cases h0 : k = 0
        · subst h0
          have : xs = [] := List.eq_nil_of_length_eq_zero hlx
          subst this
          exact join_none A7 c7 W
        · obtain ⟨b, off, rfl, ht⟩ := (hs7.kept hW).2.2.2 (by omega)
          have := Tryz.strings_Join b off c7 (xs.map itoaB) ⟨#[32]⟩ W (fun j y hy => by have := ht j y hy 0 _ rfl; simpa using this) (by have := ht 0 _ (List.getElem?_eq_getElem (by omega)) 0 _ rfl; exact cell_lt this) (by omega) (by have := hs7.2.1; omega) (by have := nums_len xs HB.out; simp only [List.map_map] at this ⊢; first | omega | (show (Lib.join _ [32]).length ≤ _; simp only [List.map_map] at this ⊢; omega))
          rw [hlen] at this
          exact this.mono (fun e w' h => ⟨h.1, h.2⟩))
      clear hown hs7 hkr
      go_wp2_with fail
      refine (HJ.out _ (Kept.refl _)).mono ?_
      rintro e w5 ⟨rfl, hk5⟩
      have K5 := Lib.hid (HKR.out.trans hk5)
      clear hk5
      go_wp2
      go_ret
      exact ⟨rfl, K5.out⟩
end Go.Proofs.YtdeokdlkjgpffaaGreatDoor
