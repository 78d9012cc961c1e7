/-
  mark: the sort of marks by their owners
-/
import Derived.Test.YtologmoanaccpaaGreatDoorMm
import Derived.Test.YtologmoanaccpaaGreatDoorSh
import Derived.Sort.Grow
namespace Go.Proofs.YtologmoanaccpaaGreatDoor
set_option linter.all false
open Go Go.RowKit Go.Shelf Go.Sort Go.Proofs

/-- marks whose owners are small numbers -/
structure VM where
  val : Mk
  bd : 0 ≤ val.own ∧ val.own ≤ 1000
instance : Inhabited VM := ⟨⟨⟨0, 0, 0, ⟨0, 0, 0, 0, 0, 0⟩⟩, by decide⟩⟩
theorem lift_vm : ∀ (l : List Mk), (∀ m ∈ l, 0 ≤ m.own ∧ m.own ≤ 1000) → ∃ lv : List VM, lv.map (·.val) = l
  | [], _ => ⟨[], rfl⟩
  | m :: l, h => by
    obtain ⟨lv, e⟩ := lift_vm l (fun x hx => h x (List.mem_cons_of_mem _ hx))
    exact ⟨⟨m, h m (List.mem_cons_self ..)⟩ :: lv, by rw [List.map_cons, e]⟩
def encM (m : VM) : List Value := mkC m.val
def cfM (x y : VM) : Int := x.val.own - y.val.own
theorem ltM (x y : VM) : ltOf cfM x y = decide (x.val.own < y.val.own) := by
  unfold ltOf cfM
  by_cases h : x.val.own < y.val.own
  · rw [decide_eq_true h, decide_eq_true (by omega)]
  · rw [decide_eq_false h, decide_eq_false (by omega)]
theorem swoM : SWO (ltOf cfM) where
  irrefl x := by rw [ltM]; simp
  trans x y z h1 h2 := by rw [ltM] at *; simp at *; omega
  ntrans x y z h1 h2 := by rw [ltM] at *; simp at *; omega
theorem e149 : ∀ args w, (callFunc 149 args).run Tryz.prog w = .ok (.enter 149 args) w := enters_of Tryz.func149 (by kernel_rfl) rfl
set_option maxRecDepth 100000 in
set_option maxHeartbeats 1600000 in
theorem cmp149 (x y : VM) (W : World) : Calls Tryz.prog 149 #[.agg (encM x).toArray, .agg (encM y).toArray] W fun e w' => e = .returned (.int .i64 (cfM x y)) ∧ ∃ q os', w' = grow (W.drewN q) os' := by
  obtain ⟨x, hx0, hx1⟩ := x
  obtain ⟨y, hy0, hy1⟩ := y
  show Calls Tryz.prog 149 #[.agg (mkC x).toArray, .agg (mkC y).toArray] W _
  unfold mkC
  have hw : IntKind.i64.wrap (x.own - y.own) = x.own - y.own := IntWalk.i64_in _ (by omega)
  go_enter Tryz.func149, Tryz.ntmps149
  go_wp2
  go_ret
  exact ⟨rfl, 0, _, by rw [alloc_eq_grow, alloc_eq_grow, grow_grow]; rfl⟩
theorem holds_of {W : World} {g : Nat} {lv : List VM} (h : RowC W g ((lv.map (·.val)).flatMap mkC)) : HoldsK encM 9 W g 0 lv.toArray := by
  intro j hj
  have hj' : j < lv.length * 9 := by simpa using hj
  rw [get_flatK _ _ _ _ (by simpa using hj'), Nat.zero_add]
  have hi : j / 9 < lv.length := by omega
  have e1 : lv.toArray[j / 9]! = lv[j / 9] := by simp [hi]
  rw [e1]
  have hm : (lv.map (·.val))[j / 9]? = some lv[j / 9].val := by rw [List.getElem?_map, List.getElem?_eq_getElem hi]; rfl
  have h9 : j % 9 < (mkC lv[j / 9].val).length := by rw [mkC_len]; omega
  have hv : (mkC lv[j / 9].val)[j % 9]? = some (mkC lv[j / 9].val)[j % 9]! := by rw [getElem!_pos (mkC lv[j / 9].val) (j % 9) h9, List.getElem?_eq_getElem h9]
  have := h _ _ (flat_at mkC_len _ _ _ _ _ hm hv)
  rw [show j / 9 * 9 + j % 9 = j by omega] at this
  exact this
theorem of_holds {W : World} {g : Nat} {lv : List VM} (h : HoldsK encM 9 W g 0 lv.toArray) : RowC W g ((lv.map (·.val)).flatMap mkC) := by
  intro j v hv
  have hj : j < lv.length * 9 := by
    have := (List.getElem?_eq_some_iff.1 hv).1
    rwa [flat_len mkC_len, List.length_map] at this
  have hh := h j (by simpa using hj)
  rw [get_flatK _ _ _ _ (by simpa using hj), Nat.zero_add] at hh
  have hi : j / 9 < lv.length := by omega
  have e1 : lv.toArray[j / 9]! = lv[j / 9] := by simp [hi]
  rw [e1] at hh
  have hm : (lv.map (·.val))[j / 9]? = some lv[j / 9].val := by rw [List.getElem?_map, List.getElem?_eq_getElem hi]; rfl
  have h9 : j % 9 < (mkC lv[j / 9].val).length := by rw [mkC_len]; omega
  have hv2 : (mkC lv[j / 9].val)[j % 9]? = some (mkC lv[j / 9].val)[j % 9]! := by rw [getElem!_pos (mkC lv[j / 9].val) (j % 9) h9, List.getElem?_eq_getElem h9]
  have h3 := flat_at mkC_len _ _ _ _ _ hm hv2
  rw [show j / 9 * 9 + j % 9 = j by omega, hv] at h3
  injection h3 with h3
  rw [h3]
  exact hh
/-- what the sort leaves of the world -/
theorem kept_sort {w0 W : World} (h : Kept w0 W) {g : Nat} (hg : w0.heap.size ≤ g) (n : Nat) (d : Array VM) (os : Array Obj) : Kept w0 (sortWorldK encM 9 W g 0 n d os) := by
  unfold sortWorldK
  refine ⟨h.os, h.tape, h.output, ?_, fun k hk => ?_⟩
  · have h1 := h.size
    have h2 : (putRowK encM 9 (Sort.ahead W n) g 0 d).heap.size = W.heap.size := by rw [size_putRowK]; rfl
    have h3 : (grow (putRowK encM 9 (Sort.ahead W n) g 0 d) os).heap.size = (putRowK encM 9 (Sort.ahead W n) g 0 d).heap.size + os.size := by simp [grow]
    omega
  · have h2 : (putRowK encM 9 (Sort.ahead W n) g 0 d).heap.size = W.heap.size := by rw [size_putRowK]; rfl
    have h1 := h.size
    rw [heap_grow_old _ os (by omega), ← h.block k hk]
    unfold putRowK putRow mapBlock Sort.ahead
    have hne : ¬ g = k := by omega
    simp [Array.getElem?_modify, hne]
set_option maxHeartbeats 1600000 in
theorem sortMk_any (g n cap : Nat) (l : List Mk) (W : World) (hn : l.length = n) (hb : n ≤ 1000) (hl : g < W.heap.size) (hr : RowC W g (l.flatMap mkC)) (hm : ∀ m ∈ l, 0 ≤ m.own ∧ m.own ≤ 1000) :
    Calls Tryz.prog 148 #[.slice (some ⟨g, 0, none⟩) n cap, .func (.func 149) #[] #[]] W fun e w' => e = .returned (.tuple #[]) ∧ ∃ l' : List Mk, l'.Perm l ∧ l'.Pairwise (fun a b => a.own ≤ b.own) ∧ RowC w' g (l'.flatMap mkC) ∧ (∀ w0, Kept w0 W → w0.heap.size ≤ g → Kept w0 w') := by
  obtain ⟨lv, rfl⟩ := lift_vm l hm
  have hlen : lv.toArray.size = n := by simpa using hn
  have hH := holds_of hr
  have hcon := AnyQ.slices_SortFunc Tryz.sortMk 9 (fun w => by kernel_rfl) (fun w => by kernel_rfl) encM (fun _ => rfl) (fun x v hv => mk_one x.val v hv) cfM swoM 149 #[] g 0 cap lv.toArray W e149 (fun _ _ _ _ x y => cmp149 x y _) hH hl (by omega)
  rw [hlen] at hcon
  refine hcon.mono fun e w' hh => ?_
  obtain ⟨he, d', q, os, hp, hs, hw⟩ := hh
  obtain ⟨p1, p2, p3⟩ := hp
  have hsz : d'.size = n := by rw [p1, hlen]
  have e1 : d'.extract 0 n = d' := by rw [← hsz]; simp
  have e2 : lv.toArray.extract 0 n = lv.toArray := by rw [← hlen]; simp
  rw [e1, e2] at p3
  have hperm : d'.toList.Perm lv := by simpa using p3
  refine ⟨he, d'.toList.map (·.val), hperm.map _, ?_, ?_, fun w0 hk hg => by rw [hw]; exact kept_sort hk hg _ _ _⟩
  · rw [List.pairwise_map, List.pairwise_iff_getElem]
    intro i j hi hj hij
    have hj' : j < d'.size := by simpa using hj
    have := hs i j (Nat.zero_le _) hij (by omega)
    rw [ltM, getElem!_pos d' i (by omega), getElem!_pos d' j hj'] at this
    simp at this
    simpa using this
  · have : d' = d'.toList.toArray := by simp
    apply of_holds
    rw [← this, hw]
    unfold sortWorldK
    have hA : HoldsK encM 9 (Sort.ahead W q) g 0 lv.toArray := hH
    have hP := holdsK_putRowK (enc := encM) (k := 9) (Sort.ahead W q) g 0 lv.toArray d' hA (by rw [hsz, hlen])
    exact holdsK_grow (enc := encM) (k := 9) _ os g 0 d' (by rw [size_putRowK]; exact hl) hP
end Go.Proofs.YtologmoanaccpaaGreatDoor
