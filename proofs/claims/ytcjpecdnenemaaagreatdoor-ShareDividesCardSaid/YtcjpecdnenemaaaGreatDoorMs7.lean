/- slices' symMerge, over a row of ints: the whole -/
import Derived.Test.YtcjpecdnenemaaaGreatDoorMs5
import Derived.Test.YtcjpecdnenemaaaGreatDoorMs6
namespace Go.Proofs.YtcjpecdnenemaaaGreatDoor
set_option linter.all false
open Go.RowKit Go.Shelf

theorem MIH.but {g n c bc nn N : Nat} {cf : Nat → Nat → Int} {lt : Nat → Nat → Prop} {w W : World} (h : MIH g n c bc nn N cf lt w) (hb : But g w W) : MIH g n c bc nn N cf lt W :=
  fun P X Y S a m b H h1 h2 h3 e1 e2 e3 e4 W' hW hr => h P X Y S a m b H h1 h2 h3 e1 e2 e3 e4 W' (hb.trans hW) hr
theorem CmpG.but {g bc nn : Nat} {cf : Nat → Nat → Int} {w W : World} (h : CmpG g bc nn cf w) (hb : But g w W) : CmpG g bc nn cf W := fun W' hW i j hi hj => h W' (hb.trans hW) i j hi hj
theorem pw_split {lt : Nat → Nat → Prop} {l : List Nat} {u t : Nat} (h : l.Pairwise lt) (h1 : ∀ (k x : Nat), l[k]? = some x → k < t → lt x u) (h2 : ∀ (k x : Nat), l[k]? = some x → t ≤ k → lt u x) : (l.take t ++ [u] ++ l.drop t).Pairwise lt := by
  have hp : (l.take t ++ l.drop t).Pairwise lt := by rw [List.take_append_drop]; exact h
  obtain ⟨q1, q2, q3⟩ := List.pairwise_append.1 hp
  rw [List.append_assoc, List.singleton_append]
  refine List.pairwise_append.2 ⟨q1, List.pairwise_cons.2 ⟨fun z hz => ?_, q2⟩, fun z hz z2 hz2 => ?_⟩
  · obtain ⟨i, hi, rfl⟩ := List.mem_iff_getElem.1 hz
    rw [List.getElem_drop]
    exact h2 (t + i) _ (List.getElem?_eq_getElem (by rw [List.length_drop] at hi; omega)) (by omega)
  · rcases List.mem_cons.1 hz2 with rfl | hz2
    · obtain ⟨i, hi, rfl⟩ := List.mem_iff_getElem.1 hz
      rw [List.length_take] at hi
      rw [List.getElem_take]
      exact h1 i _ (List.getElem?_eq_getElem (by omega)) (by omega)
    · exact q3 z hz z2 hz2
theorem perm_split (l : List Nat) (u t : Nat) : (l.take t ++ [u] ++ l.drop t).Perm ([u] ++ l) := by
  have e1 : (l.take t ++ [u] ++ l.drop t).Perm ([u] ++ l.take t ++ l.drop t) := List.Perm.append_right _ List.perm_append_comm
  rw [List.append_assoc [u], List.take_append_drop] at e1
  exact e1
/-- **merges are right** -/
theorem symMerge_any (g n c bc nn : Nat) (cf : Nat → Nat → Int) (lt : Nat → Nat → Prop) (tr : ∀ x y z, lt x y → lt y z → lt x z) (hnc : n ≤ c) (hc : c ≤ 1000) (w : World) (hC : CmpG g bc nn cf w) : ∀ N, MIH g n c bc nn N cf lt w
  | 0 => fun P X Y S a m b H h1 => by omega
  | N + 1 => fun P X Y S a m b H h1 h2 h3 e1 e2 e3 e4 W hW hr => by
    have ih := symMerge_any g n c bc nn cf lt tr hnc hc w hC N
    by_cases hlt : X.length + Y.length < N
    · exact ih P X Y S a m b H hlt h2 h3 e1 e2 e3 e4 W hW hr
    have hN : X.length + Y.length = N := by omega
    have hCW := hC.but hW
    by_cases hx1 : X.length = 1
    · obtain ⟨x, rfl⟩ : ∃ x, X = [x] := List.length_eq_one_iff.1 hx1
      refine (merge_left g n c bc nn cf lt P Y S x a m b e1 (by simpa using e2) e3 e4 h3 hnc hc (H.bx x (by simp)) H.bw (fun y hy => H.cfh x (by simp) y hy) (fun i j y z hy hz hij hl => ?_) W hCW hr).mono ?_
      · rcases Nat.lt_or_ge i j with h | h
        · exact tr _ _ _ (pw_at H.sy hy hz h) hl
        · obtain rfl : i = j := by omega
          rw [hy] at hz; cases hz; exact hl
      · rintro e w' ⟨rfl, t, ht, k1, k2, hst⟩
        refine ⟨rfl, Y.take t ++ [x] ++ Y.drop t, ?_, perm_split Y x t, by simpa using hst⟩
        exact pw_split H.sy k1 (fun k y hy hk => H.tot x (by simp) y (List.mem_of_getElem? hy) (k2 k y hy hk))
    by_cases hy1 : Y.length = 1
    · obtain ⟨y, rfl⟩ : ∃ y, Y = [y] := List.length_eq_one_iff.1 hy1
      refine (merge_right g n c bc nn cf lt P X S y a m b e1 e2 (by simpa using e3) e4 (by omega) hnc hc (H.bw y (by simp)) H.bx (fun x hx => H.cfh x hx y (by simp)) (fun i j u v hu hv hij hl => ?_) W hCW hr).mono ?_
      · rcases Nat.lt_or_ge i j with h | h
        · exact tr _ _ _ hl (pw_at H.sx hu hv h)
        · obtain rfl : i = j := by omega
          rw [hu] at hv; cases hv; exact hl
      · rintro e w' ⟨rfl, t, ht, k1, k2, hst⟩
        refine ⟨rfl, X.take t ++ [y] ++ X.drop t, ?_, (perm_split X y t).trans List.perm_append_comm, by simpa using hst⟩
        exact pw_split H.sx (fun k x hx hk => H.tot x (List.mem_of_getElem? hx) y (by simp) (k1 k x hx hk)) k2
    have ih2 : MIH g n c bc nn (X.length + Y.length) cf lt W := by rw [hN]; exact ih.but hW
    by_cases hmm : (X.length + Y.length) / 2 < X.length
    · exact merge_big g n c bc nn cf lt tr P X Y S a m b _ _ _ rfl rfl rfl e1 e2 e3 e4 (by omega) (by omega) hmm hnc hc H W hCW ih2 hr
    · exact merge_small g n c bc nn cf lt tr P X Y S a m b _ _ _ rfl rfl rfl e1 e2 e3 e4 (by omega) (by omega) hmm hnc hc H W hCW ih2 hr
end Go.Proofs.YtcjpecdnenemaaaGreatDoor
