/-
  a copy of a slice: Clone
-/
import Derived.Test.YtologmoanaccpaaGreatDoorOf
import Derived.Laws.OwnMore
import Derived.Deep.AppendLies
namespace Go.Proofs.YtologmoanaccpaaGreatDoor
set_option linter.all false
open Go.RowKit Go.Shelf

section
variable {P : Program} (w : World)
theorem run_append_zero (base : Nat) (t ty e : TypeId) (i : TypeInfo) (size : Nat) (ht : P.underlying t = some (.slice e)) (hi : P.info? e = some i)
    (v : Value) (n : Nat) (xs : List Value) (hown : w.ownsRow base e size v n xs) (A : Option Addr) (c : Nat) :
    (Builtin.append_ #[t, t] ty #[v, .slice A 0 c]).run P w = .ok v w := by
  rcases A with _ | a
  · rcases hown.2 with ⟨rfl, rfl⟩ | ⟨g, cap, cur, rfl, _, _, hnc, _⟩
    · simp [Builtin.append_, run_underlying ht, sizeOf, typeInfo, hi, Builtin.lenOf, Builtin.firstCells]
    · simp [Builtin.append_, run_underlying ht, sizeOf, typeInfo, hi, Builtin.lenOf, Builtin.firstCells, hnc, storeCells]
  · have hl : Sem.run P (loadCellsFrom a 0 0 #[]) w = .ok #[] w := by
      first
        | rfl
        | (simp [loadCellsFrom]; done)
        | (unfold loadCellsFrom; simp; done)
    rcases hown.2 with ⟨rfl, rfl⟩ | ⟨g, cap, cur, rfl, _, _, hnc, _⟩
    · simp [Builtin.append_, run_underlying ht, sizeOf, typeInfo, hi, Builtin.lenOf, Builtin.firstCells, loadCells, hl]
    · simp [Builtin.append_, run_underlying ht, sizeOf, typeInfo, hi, Builtin.lenOf, Builtin.firstCells, hnc, storeCells, loadCells, hl]
end
theorem own00 (W : World) (B : Nat) (t : TypeId) (s : Nat) (hB : W.heap.size = B) : (W.alloc (.cells #[] t)).ownsRow B t s (.slice (some ⟨B, 0, none⟩) 0 0) 0 [] := by
  subst hB
  exact ⟨by simp, .inr ⟨W.heap.size, 0, #[], rfl, Nat.le_refl _, heap_alloc_new _ _, by omega, by simp [maxLen], by simp, by simp⟩⟩
/-- 'append([]T{}, l...)' in a plain region -/
theorem wpList_copy {ops : Array Oper} {rest : List Oper} {o : Oper} {a : Act} {Q : Exit → Act → World → Prop} (W w : World) (hgd : o.guard = none) (s x : Operand) (t : TypeId)
    (ho : o.op = .call { callee := .builtin .append, args := #[s, x], argTypes := #[t, t] })
    (e : TypeId) (i : TypeInfo) (z : Value) (size bytes : Nat) (ht : Tryz.prog.underlying t = some (.slice e)) (hi : Tryz.prog.info? e = some i) (hz : i.zero = some z)
    (hsize : i.size = size) (hby : i.bytes = bytes) (hzs : z.cells.size = size) (hsz : 0 < size)
    (hw : w = W.alloc (.cells #[] e)) (hs : a.eval s = .slice (some ⟨W.heap.size, 0, none⟩) 0 0)
    (A : Option Addr) (n c : Nat) (news : List Value) (hx : a.eval x = .slice A n c) (hl : news.length = n * size)
    (hnews : 0 < n → ∃ ad, A = some ad ∧ ∀ j u, news[j]? = some u → w.cell? (ad.add j) = some u) (h1 : ∀ u ∈ news, u.oneCell' = true)
    (h63 : n ≤ maxLen) (hbytes : n * bytes ≤ 140737488355328)
    (h : ∀ B d w', w'.ownsRow W.heap.size e size (.slice B n d) n news → Kept W w' → wpList Tryz.prog ops Q rest (a.put o.dst (.slice B n d)) w') : wpList Tryz.prog ops Q (o :: rest) a w := by
  have hown : w.ownsRow W.heap.size e size (.slice (some ⟨W.heap.size, 0, none⟩) 0 0) 0 [] := by rw [hw]; exact own00 W _ e size rfl
  have hk : Kept W w := by rw [hw]; exact (Kept.refl W).alloc _
  by_cases hn : 0 < n
  · obtain ⟨ad, rfl, hne⟩ := hnews hn
    refine wpList_append_lies w hgd s x t ho W.heap.size e i z size bytes ht hi hz hsize hby hzs hsz _ 0 [] hs hown ad n c news hx hl hne h1 hn (by omega) (by rw [Nat.zero_add]; exact hbytes) hk.size _ rfl ?_
    intro g cap w' h2 h3 h4 h5
    rw [Nat.zero_add] at h2 ⊢
    rw [List.nil_append] at h2
    exact h _ _ _ h2 (hk.grown h3 (fun k hk => by simp [Value.ownBlock] at hk; omega))
  · obtain rfl : n = 0 := by omega
    obtain rfl : news = [] := List.eq_nil_of_length_eq_zero (by omega)
    refine wpList_plain hgd fun K hK => ?_
    have hr := run_append_zero (P := Tryz.prog) w W.heap.size t o.type e i size ht hi _ 0 [] hown A c
    unfold Oper.wp execOp
    simp only [ho, resolve, invoke, builtin, Sem.run_bind, Sem.run_pure, Result.andThen_ok, List.map_toArray, List.map_cons, List.map_nil, hs, hx, hr]
    exact hK _ _ (h _ _ _ hown hk)

set_option maxRecDepth 100000 in
set_option maxHeartbeats 3200000 in
theorem clone_any (F : Option Addr) (nb cF fb fo : Nat) (fits : List Nat) (w : World) (hf : FitR w F nb cF fb fo fits) :
    Calls Tryz.prog 176 #[.slice F nb cF] w fun e w' => (∃ v, e = .returned v ∧ w'.ownsRow w.heap.size 117 1 v nb (fits.flatMap uC)) ∧ Kept w w' := by
  obtain ⟨i0, hi0, hz0, hz1, hz2⟩ := info_parts info73
  have HF := Lib.hid hf
  have h60 := hf.sz
  clear hf
  cases F with
  | none =>
    have h0 : nb = 0 := by
      by_cases h : 0 < nb
      · have := HF.out.fa h; cases this
      · omega
    subst h0
    have hl := List.length_eq_zero_iff.1 HF.out.ln
    subst hl
    go_enter Tryz.func176, Tryz.ntmps176
    have heq : ∀ w, (binOp BinOp.eql 149 (.slice none 0 cF) (.slice none 0 0)).run Tryz.prog w = .ok (.bool true) w := fun w => by kernel_rfl
    go_wp2_with fail
    go_ret
    exact ⟨⟨_, rfl, World.ownsRow_nil _ _ _ _⟩, Kept.refl _⟩
  | some ad =>
    have HN : RowKit.Hid (0 < nb → ∃ a, some ad = some a ∧ ∀ j u, (fits.flatMap uC)[j]? = some u → (w.alloc (.cells #[] 117)).cell? (a.add j) = some u) := Lib.hid (fun hn => by
      have e := HF.out.fa hn
      refine ⟨ad, rfl, fun j u hu => ?_⟩
      obtain rfl := Option.some.inj e
      rw [flat_uC, List.getElem?_map] at hu
      cases hz : fits[j]? with
      | none => rw [hz] at hu; cases hu
      | some f =>
        rw [hz] at hu
        cases hu
        rw [addr_add]
        exact (((Kept.refl w).alloc (.cells #[] 117)).cells _ _ HF.out.lt).trans (HF.out.rf j f hz))
    have HL : RowKit.Hid ((fits.flatMap uC).length = nb * 1) := Lib.hid (by rw [flat_uC, List.length_map, HF.out.ln, Nat.mul_one])
    have HO : RowKit.Hid (∀ u ∈ fits.flatMap uC, u.oneCell' = true) := Lib.hid (fun u hu => by
      rw [flat_uC] at hu
      obtain ⟨f, _, rfl⟩ := List.mem_map.1 hu
      rfl)
    have heq : ∀ w, (binOp BinOp.eql 149 (.slice (some ad) nb cF) (.slice none 0 0)).run Tryz.prog w = .ok (.bool false) w := fun w => by kernel_rfl
    go_enter Tryz.func176, Tryz.ntmps176
    go_wp2_with (at_builtin; refine wpList_copy w _ rfl (.tmp 5) (.tmp 6) 149 rfl 117 i0 _ 1 8 Tryz.underlying149 hi0 hz0 hz1 hz2 rfl (by decide) rfl rfl _ nb cF (fits.flatMap uC) rfl HL.out HN.out HO.out (by unfold maxLen; omega) (by omega) ?_; intro B d w6 hown hkk)
    go_ret
    exact ⟨⟨_, rfl, hown⟩, hkk⟩
end Go.Proofs.YtologmoanaccpaaGreatDoor
