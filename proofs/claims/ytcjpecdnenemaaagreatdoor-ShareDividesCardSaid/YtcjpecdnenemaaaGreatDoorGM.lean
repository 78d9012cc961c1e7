/-
  Whole: the closures that compare; the stable sort of few.
  The stable sort of less than twenty.
  Whole: what is left over; SortStableFunc.
  Whole: the walk, for less than twenty parts.
-/
import Derived.Test.YtcjpecdnenemaaaGreatDoorGL
import Derived.Test.YtcjpecdnenemaaaGreatDoorGG
import Derived.Deep.QuietTactic
import Derived.BigQuiet
import Derived.Deep.RegionHeld3
import Derived.Deep.DeepCutAuto
import Derived.RegionTactic
import Derived.ChangeAlike
namespace Go.Proofs.YtcjpecdnenemaaaGreatDoor
set_option linter.all false
open Go.RowKit Go.Shelf

theorem e137 : ∀ args w, (callFunc 137 args).run Tryz.prog w = .ok (.enter 137 args) w := enters_of Tryz.func137 (by kernel_rfl) rfl
theorem e139 : ∀ args w, (callFunc 139 args).run Tryz.prog w = .ok (.enter 139 args) w := enters_of Tryz.func139 (by kernel_rfl) rfl
/-- what is cut off -/
def cutZ (total s : Int) (z : Int) : Int := total * z % s
theorem cut_any (bt bp bs b off n c i : Nat) (total s z : Int) (w : World) (ht : w.cell? ⟨bt, 0, none⟩ = some (.int .i64 total)) (hp : w.cell? ⟨bp, 0, none⟩ = some (.slice (some ⟨b, off, none⟩) n c)) (hs : w.cell? ⟨bs, 0, none⟩ = some (.int .i64 s)) (hz : w.cell? ⟨b, off + i, none⟩ = some (.int .i64 z))
    (hi : i < n) (h0 : 0 ≤ total) (h1 : total ≤ 1000000000) (z0 : 0 ≤ z) (z1 : z ≤ 1000) (s0 : 0 < s) (s1 : s ≤ 40000) :
    Calls Tryz.prog 137 #[.int .i64 i, .pointer (some ⟨bt, 0, none⟩), .pointer (some ⟨bp, 0, none⟩), .pointer (some ⟨bs, 0, none⟩)] w fun e w' => e = .returned (.int .i64 (cutZ total s z)) ∧ ∃ m, w' = w.drewN m := by
  have m1 := mul_bd (n := total) (d := z) 1000000000 1000 (by omega) h1 z0 z1 (by omega)
  have m0 := Int.mul_nonneg h0 z0
  obtain ⟨m11, m12⟩ := m1
  have nn : (s == 0) = false := by simp; omega
  have i0 : (0 : Int) ≤ (i : Int) := by omega
  have i1 : (i : Int) < (n : Int) := by omega
  have it : (i : Int).toNat = i := by omega
  have hw : IntKind.i64.wrap (total * z) = total * z := IntWalk.i64_in _ (by omega)
  have ha : Int.tmod (total * z) s = total * z % s := Int.tmod_eq_emod_of_nonneg m0
  have hr0 := Int.emod_nonneg (total * z) (show s ≠ 0 by omega)
  have hr1 := Int.emod_lt_of_pos (total * z) s0
  have hw2 : IntKind.i64.wrap (total * z % s) = total * z % s := IntWalk.i64_in _ (by omega)
  clear m0 m11 m12
  go_enter Tryz.func137, Tryz.ntmps137
  go_wp2_with fail
  go_quiet (fail)
  go_wp2
  go_ret
  exact ⟨rfl, _, rfl⟩

theorem cmp139 (bc bt bp bs b off n c i j : Nat) (total s z y : Int) (w : World) (hc : w.cell? ⟨bc, 0, none⟩ = some (.func (.func 137) #[] #[.pointer (some ⟨bt, 0, none⟩), .pointer (some ⟨bp, 0, none⟩), .pointer (some ⟨bs, 0, none⟩)])) (ht : w.cell? ⟨bt, 0, none⟩ = some (.int .i64 total)) (hp : w.cell? ⟨bp, 0, none⟩ = some (.slice (some ⟨b, off, none⟩) n c)) (hs : w.cell? ⟨bs, 0, none⟩ = some (.int .i64 s)) (hz : w.cell? ⟨b, off + i, none⟩ = some (.int .i64 z)) (hy : w.cell? ⟨b, off + j, none⟩ = some (.int .i64 y))
    (hi : i < n) (hj : j < n) (h0 : 0 ≤ total) (h1 : total ≤ 1000000000) (z0 : 0 ≤ z) (z1 : z ≤ 1000) (y0 : 0 ≤ y) (y1 : y ≤ 1000) (s0 : 0 < s) (s1 : s ≤ 40000) :
    Calls Tryz.prog 139 #[.int .i64 i, .int .i64 j, .pointer (some ⟨bc, 0, none⟩)] w fun e w' => e = .returned (.int .i64 (cmpZ (cutZ total s y) (cutZ total s z))) ∧ ∃ m, w' = w.drewN m := by
  have HC0 : ∀ (x : Int) (y : Int) (q : Nat), Calls Tryz.prog 140 #[.int .i64 x, .int .i64 y] (w.drewN q) fun e w' => e = .returned (.int .i64 (cmpZ x y)) ∧ ∃ m, w' = (w.drewN q).drewN m := fun x y q => (cmpCompare_any _ _ _).mono (fun _ _ ⟨he, hw⟩ => ⟨he, 0, hw.symm⟩)
  have HC1 : ∀ q : Nat, Calls Tryz.prog 137 #[.int .i64 j, .pointer (some ⟨bt, 0, none⟩), .pointer (some ⟨bp, 0, none⟩), .pointer (some ⟨bs, 0, none⟩)] (w.drewN q) fun e w' => e = .returned (.int .i64 (cutZ total s y)) ∧ ∃ m, w' = (w.drewN q).drewN m := fun q => cut_any bt bp bs b off n c j total s y _ ht hp hs hy hj h0 h1 y0 y1 s0 s1
  have HC2 : ∀ q : Nat, Calls Tryz.prog 137 #[.int .i64 i, .pointer (some ⟨bt, 0, none⟩), .pointer (some ⟨bp, 0, none⟩), .pointer (some ⟨bs, 0, none⟩)] (w.drewN q) fun e w' => e = .returned (.int .i64 (cutZ total s z)) ∧ ∃ m, w' = (w.drewN q).drewN m := fun q => cut_any bt bp bs b off n c i total s z _ ht hp hs hz hi h0 h1 z0 z1 s0 s1
  have H0 := Lib.hid HC0
  have H1 := Lib.hid HC1
  have H2 := Lib.hid HC2
  have Ht := Lib.hid ht
  clear HC0 HC1 HC2 hp hs hz hy ht h0 h1 z0 z1 y0 y1 s0 s1
  have g1 := e137
  go_enter Tryz.func139, Tryz.ntmps139
  go_wp2_with fail
  go_quiet ((first
    | (go_at_call 140; with_reducible exact Calls.quiet_of (H0.out _ _ _))
    | (go_at_call 137; with_reducible exact Calls.quiet_of (H1.out _))
    | (go_at_call 137; with_reducible exact Calls.quiet_of (H2.out _))))
  go_wp2
  go_ret
  exact ⟨rfl, _, rfl⟩
end Go.Proofs.YtcjpecdnenemaaaGreatDoor

namespace Go.Proofs.YtcjpecdnenemaaaGreatDoor
set_option linter.all false
open Go.RowKit Go.Shelf Go.Sort

theorem sortWorld_cell {α : Type} [Inhabited α] (enc : α → Value) (w : World) (blk off m : Nat) (dk : Array α) (os : Array Obj) (a : Addr) (ha : a.block ≠ blk) (hl : a.block < w.heap.size) : (sortWorld enc w blk off m dk os).cell? a = w.cell? a := by
  unfold sortWorld
  rw [cell?_grow _ _ _ (by simpa using hl), cell?_putRow_other _ _ _ _ _ _ (.inl ha)]
  rfl
/-- the indices of parts -/
def encF (m : Nat) (i : Fin (m + 1)) : Value := .int .i64 ((i.val : Nat) : Int)
def cmpF (total s : Int) (zs : List Int) (m : Nat) (x y : Fin (m + 1)) : Int := cmpZ (cutZ total s (zs.getD y.val 0)) (cutZ total s (zs.getD x.val 0))
theorem getD_part {zs : List Int} (h : partsB zs = true) (j : Nat) : 0 ≤ zs.getD j 0 ∧ zs.getD j 0 ≤ 1000 := by
  rw [List.getD_eq_getElem?_getD]
  rcases hz : zs[j]? with _ | z
  · simp
  · simpa using part_in h hz

theorem cmp_reads (bc bt bp bs b off m c blk : Nat) (total s : Int) (zs : List Int) (w : World) (hc : w.cell? ⟨bc, 0, none⟩ = some (.func (.func 137) #[] #[.pointer (some ⟨bt, 0, none⟩), .pointer (some ⟨bp, 0, none⟩), .pointer (some ⟨bs, 0, none⟩)])) (ht : w.cell? ⟨bt, 0, none⟩ = some (.int .i64 total)) (hp : w.cell? ⟨bp, 0, none⟩ = some (.slice (some ⟨b, off, none⟩) (m + 1) c)) (hs : w.cell? ⟨bs, 0, none⟩ = some (.int .i64 s))
    (hz : ∀ j z, zs[j]? = some z → w.cell? ⟨b, off + j, none⟩ = some (.int .i64 z)) (hlen : zs.length = m + 1) (hpart : partsB zs = true) (h0 : 0 ≤ total) (h1 : total ≤ 1000000000) (s0 : 0 < s) (s1 : s ≤ 40000)
    (n1 : bc ≠ blk) (n2 : bt ≠ blk) (n3 : bp ≠ blk) (n4 : bs ≠ blk) (n5 : b ≠ blk) :
    CmpReads Tryz.prog 139 #[.pointer (some ⟨bc, 0, none⟩)] (encF m) (cmpF total s zs m) blk 0 (m + 1) w := by
  intro q os dk hs' x y
  have k : ∀ (a : Addr) v, a.block ≠ blk → w.cell? a = some v → (sortWorld (encF m) w blk 0 q dk os).cell? a = some v := by
    intro a v ha hv
    rw [sortWorld_cell _ _ _ _ _ _ _ a ha (by rcases Nat.lt_or_ge a.block w.heap.size with h | h; exact h; simp [World.cell?, Array.getElem?_eq_none h] at hv)]
    exact hv
  have gx : zs[x.val]? = some (zs.getD x.val 0) := by rw [List.getD_eq_getElem?_getD, List.getElem?_eq_getElem (by omega)]; rfl
  have gy : zs[y.val]? = some (zs.getD y.val 0) := by rw [List.getD_eq_getElem?_getD, List.getElem?_eq_getElem (by omega)]; rfl
  have px := getD_part hpart x.val
  have py := getD_part hpart y.val
  exact cmp139 bc bt bp bs b off (m + 1) c x.val y.val total s _ _ _ (k _ _ n1 hc) (k _ _ n2 ht) (k _ _ n3 hp) (k _ _ n4 hs) (k _ _ n5 (hz _ _ gx)) (k _ _ n5 (hz _ _ gy)) x.isLt y.isLt h0 h1 px.1 px.2 py.1 py.2 s0 s1

def rowF (m : Nat) : Array (Fin (m + 1)) := Array.ofFn (fun i => i)
/-- the order in which beasts left over are given -/
def ordF (total s : Int) (zs : List Int) (m : Nat) : Array (Fin (m + 1)) := insertionSort (ltOf (cmpF total s zs m)) (rowF m) 0 (m + 1)

theorem stable_few (m cap blk : Nat) (cb : Array Value) (cf : Fin (m + 1) → Fin (m + 1) → Int) (hm : m + 1 < 20) (w : World) (hcmp : CmpReads Tryz.prog 139 cb (encF m) cf blk 0 (m + 1) w) (hH : Holds (encF m) w blk 0 (rowF m)) :
    Calls Tryz.prog 174 #[.slice (some ⟨blk, 0, none⟩) (m + 1) cap, .int .i64 ((m + 1 : Nat) : Int), .func (.func 139) #[] cb] w fun e w' => e = .returned (.tuple #[]) ∧ ∃ q, w' = (putRow (encF m) w blk 0 (insertionSort (ltOf cf) (rowF m) 0 (m + 1))).drewN q := by
  have hsz : (rowF m).size = m + 1 := by simp [rowF]
  have hins := Tryz.insertionSortCmpFunc_one (encF m) (fun _ => rfl) cf 139 cb blk 0 cap 0 (m + 1) (rowF m) w e139 (by rw [hsz]; exact hcmp) hH (by omega) (by rw [hsz]; exact Nat.le_refl _) (by rw [hsz]; omega)
  rw [hsz] at hins
  obtain ⟨W', hW'⟩ : ∃ W' : World, putRow (encF m) w blk 0 (insertionSort (ltOf cf) (rowF m) 0 (m + 1)) = W' := ⟨_, rfl⟩
  rw [hW'] at hins ⊢
  clear hW' hcmp hH hsz
  obtain ⟨nn, hnn⟩ : ∃ nn : Nat, m + 1 = nn := ⟨_, rfl⟩
  rw [hnn] at hins hm ⊢
  have HI := Lib.hid hins
  clear hnn hins
  have h20 : ¬ ((20 : Int) ≤ (nn : Int)) := by omega
  have h21 : ¬ ((20 : Int) < (nn : Int)) := by omega
  go_enter Tryz.func174, Tryz.ntmps174
  go_wp2_with fail
  refine wp_loop_rounds 1 ?_
  rw [rounds_succ]
  go_wp2_with fail
  refine (HI.out).mono ?_
  rintro e w1 ⟨rfl, q, hw⟩
  have HW := Lib.hid hw
  clear hw
  go_wp2_with fail
  refine wp_loop_rounds 1 ?_
  rw [rounds_succ]
  go_wp2
  go_end0
  exact ⟨rfl, _, HW.out⟩
end Go.Proofs.YtcjpecdnenemaaaGreatDoor

namespace Go.Proofs.YtcjpecdnenemaaaGreatDoor
set_option linter.all false
open Go.RowKit Go.Shelf Go.Sort

/-- the whole stints of each heir, rounded down -/
def flS (total s : Int) (zs : List Int) : List Int := zs.map fun z => total * z / s
theorem flS_sum (total s : Int) (hs : s ≠ 0) : ∀ zs : List Int, s * (flS total s zs).sum = total * zs.sum - (zs.map (cutZ total s)).sum
  | [] => by simp [flS]
  | z :: zs => by
    have ih := flS_sum total s hs zs
    have e : (flS total s (z :: zs)).sum = total * z / s + (flS total s zs).sum := by simp [flS]
    rw [e, Int.mul_add, ih, List.sum_cons, List.map_cons, List.sum_cons, Int.mul_add]
    have := Int.mul_ediv_add_emod (total * z) s
    unfold cutZ
    omega
theorem cut_sum (total s : Int) (hs : 0 < s) : ∀ zs : List Int, 0 ≤ (zs.map (cutZ total s)).sum ∧ (zs.map (cutZ total s)).sum ≤ zs.length * (s - 1)
  | [] => by simp
  | z :: zs => by
    have ih := cut_sum total s hs zs
    have h0 := Int.emod_nonneg (total * z) (show s ≠ 0 by omega)
    have h1 := Int.emod_lt_of_pos (total * z) hs
    rw [List.map_cons, List.sum_cons, List.length_cons]
    unfold cutZ at ih ⊢
    push_cast
    rw [Int.add_mul]
    omega
theorem left_bd {total : Int} {zs : List Int} (hs : 0 < zs.sum) : 0 ≤ total - (flS total zs.sum zs).sum ∧ total - (flS total zs.sum zs).sum ≤ zs.length := by
  have h := flS_sum total zs.sum (by omega) zs
  have hc := cut_sum total zs.sum hs zs
  have e : zs.sum * (total - (flS total zs.sum zs).sum) = (zs.map (cutZ total zs.sum)).sum := by rw [Int.mul_sub, h, Int.mul_comm total]; omega
  constructor
  · rcases Int.lt_or_le (total - (flS total zs.sum zs).sum) 0 with hlt | hge
    · have := Int.mul_neg_of_pos_of_neg hs hlt
      omega
    · exact hge
  · rcases Int.lt_or_le (zs.length : Int) (total - (flS total zs.sum zs).sum) with hlt | hge
    · have h2 := Int.mul_lt_mul_of_pos_left hlt hs
      rw [e] at h2
      have : (zs.length : Int) * (zs.sum - 1) ≤ zs.sum * zs.length := by rw [Int.mul_sub, Int.mul_comm zs.sum]; omega
      omega
    · exact hge
theorem fl_one {total s z : Int} (h0 : 0 ≤ total) (h1 : total ≤ 1000000000) (z0 : 0 ≤ z) (z1 : z ≤ 1000) (hs : 0 < s) : 0 ≤ total * z / s ∧ total * z / s ≤ 1000000000000 := by
  have m0 := Int.mul_nonneg h0 z0
  have m1 := mul_bd (n := total) (d := z) 1000000000 1000 (by omega) h1 z0 z1 (by omega)
  have a := Int.ediv_nonneg m0 (show 0 ≤ s by omega)
  have b := Int.ediv_le_self s m0
  omega

theorem sortStable_few (m cap blk : Nat) (cb : Array Value) (cf : Fin (m + 1) → Fin (m + 1) → Int) (hm : m + 1 < 20) (w : World) (hcmp : CmpReads Tryz.prog 139 cb (encF m) cf blk 0 (m + 1) w) (hH : Holds (encF m) w blk 0 (rowF m)) :
    Calls Tryz.prog 138 #[.slice (some ⟨blk, 0, none⟩) (m + 1) cap, .func (.func 139) #[] cb] w fun e w' => e = .returned (.tuple #[]) ∧ ∃ q, w' = (putRow (encF m) w blk 0 (insertionSort (ltOf cf) (rowF m) 0 (m + 1))).drewN q := by
  have hins := stable_few m cap blk cb cf hm w hcmp hH
  obtain ⟨W', hW'⟩ : ∃ W' : World, putRow (encF m) w blk 0 (insertionSort (ltOf cf) (rowF m) 0 (m + 1)) = W' := ⟨_, rfl⟩
  rw [hW'] at hins ⊢
  clear hW' hcmp hH
  obtain ⟨nn, hnn⟩ : ∃ nn : Nat, m + 1 = nn := ⟨_, rfl⟩
  rw [hnn] at hins hm ⊢
  have HI := Lib.hid hins
  clear hnn hins
  go_enter Tryz.func138, Tryz.ntmps138
  go_wp2_with fail
  refine (HI.out).mono ?_
  rintro e w1 ⟨rfl, q, hw⟩
  have HW := Lib.hid hw
  clear hw
  go_wp2
  go_end0
  exact ⟨rfl, _, HW.out⟩

theorem make55 (n : Nat) (hn : n ≤ 40) (w : World) : (Instr.makeSlice 55 (.int .i64 (n : Int)) (.int .i64 (n : Int))).run Tryz.prog w = .ok (.slice (some ⟨w.heap.size, 0, none⟩) n n) (w.alloc (.cells (zer n).toArray 3)) := by
  obtain ⟨i, hi, hz, hsz, hb⟩ : ∃ i, Tryz.prog.info? 3 = some i ∧ i.zero = some (.int .i64 0) ∧ i.size = 1 ∧ i.bytes = 8 := by
    have h : (Tryz.prog.info? 3).map (fun i => (i.zero, i.size, i.bytes)) = some (some (.int .i64 0), 1, 8) := by kernel_rfl
    cases hh : Tryz.prog.info? 3 with
    | none => rw [hh] at h; cases h
    | some i =>
      rw [hh] at h
      simp only [Option.map_some, Option.some.injEq, Prod.mk.injEq] at h
      exact ⟨i, rfl, h.1, h.2.1, h.2.2⟩
  have := run_make (P := Tryz.prog) w 55 3 i _ Tryz.underlying55 hi hz .i64 .i64 (n : Int) (n : Int) (by omega) (Int.le_refl _) (by rw [hb]; omega) (by omega)
  rw [this, hsz, Int.toNat_natCast, Nat.mul_one]
  have e : madeCells (Value.int .i64 0).cells n = (zer n).toArray := by
    unfold madeCells zer
    apply Array.ext
    · simp
    · intro j h1 h2
      simp [Value.cells]
      rw [Nat.mod_one]
      rfl
  rw [e]
end Go.Proofs.YtcjpecdnenemaaaGreatDoor

namespace Go.Proofs.YtcjpecdnenemaaaGreatDoor
set_option linter.all false
open Go.RowKit Go.Shelf Go.Sort

theorem S3_of {W W' : World} {a b : Nat} {u v : Value} (h1 : W.cell? ⟨a, 0, none⟩ = some u) (h2 : W.cell? ⟨b, 0, none⟩ = some v) (h : Kept W W') : W'.cell? ⟨a, 0, none⟩ = some u ∧ W'.cell? ⟨b, 0, none⟩ = some v ∧ Kept W W' :=
  ⟨(h.cells _ _ (cell_lt h1)).trans h1, (h.cells _ _ (cell_lt h2)).trans h2, h⟩
def intsV (l : List Int) : List Value := l.map fun z => .int .i64 z
/-- the order in which what is left over is given -/
def ordN (total s : Int) (zs : List Int) (m : Nat) : List Nat := (ordF total s zs m).toList.map fun i => i.val
def bump (l : List Int) (os : List Nat) : List Int := os.foldl (fun l i => l.modify i (· + 1)) l
/-- what Whole gives: the first ones of the order get one more -/
def wholeL (total : Int) (zs : List Int) (m : Nat) : List Int := bump (flS total zs.sum zs) ((ordN total zs.sum zs m).take (total - (flS total zs.sum zs).sum).toNat)
theorem size_insInner {α : Type} [Inhabited α] (lt : α → α → Bool) (a : Nat) : ∀ (j : Nat) (d : Array α), (insInner lt a j d).size = d.size
  | 0, d => by unfold insInner; rfl
  | j + 1, d => by
    unfold insInner
    split
    · rw [size_insInner lt a j]; simp [swp]
    · rfl
theorem size_insOuter {α : Type} [Inhabited α] (lt : α → α → Bool) (a b : Nat) : ∀ (n i : Nat) (d : Array α), b - i = n → (insOuter lt a b i d).size = d.size
  | 0, i, d, h => by rw [insOuter, if_neg (by omega)]
  | n + 1, i, d, h => by rw [insOuter, if_pos (by omega), size_insOuter lt a b n (i + 1) _ (by omega), size_insInner]
theorem ordN_len (total s : Int) (zs : List Int) (m : Nat) : (ordN total s zs m).length = m + 1 := by
  unfold ordN ordF insertionSort
  rw [List.length_map, Array.length_toList, size_insOuter _ _ _ _ _ _ rfl]
  simp [rowF]
theorem ordN_lt {total s : Int} {zs : List Int} {m o : Nat} (h : o ∈ ordN total s zs m) : o < m + 1 := by
  unfold ordN at h
  rw [List.mem_map] at h
  obtain ⟨i, _, rfl⟩ := h
  exact i.isLt
theorem ordN_at {total s : Int} {zs : List Int} {m j o : Nat} (h : (ordN total s zs m)[j]? = some o) : encF m (ordF total s zs m)[j]! = .int .i64 ((o : Nat) : Int) := by
  unfold ordN at h
  rw [List.getElem?_map] at h
  have hj : j < (ordF total s zs m).size := by
    rcases Nat.lt_or_ge j (ordF total s zs m).size with h' | h'
    · exact h'
    · rw [List.getElem?_eq_none (by simpa using h')] at h; cases h
  rw [getElem!_pos _ j hj]
  rw [List.getElem?_eq_getElem (by simpa using hj)] at h
  simp at h
  unfold encF
  rw [← h]
def natV (l : List Nat) : List Value := l.map fun o => .int .i64 ((o : Nat) : Int)
def rngV (k : Nat) : List Value := (List.range k).map fun j => .int .i64 ((j : Nat) : Int)
theorem rngV_len (k : Nat) : (rngV k).length = k := by simp [rngV]
theorem rngV_succ (k : Nat) : rngV (k + 1) = rngV k ++ [.int .i64 (k : Int)] := by simp [rngV, List.range_succ]
theorem flS_snoc (total s : Int) (l : List Int) (z : Int) : flS total s (l ++ [z]) = flS total s l ++ [total * z / s] := by simp [flS]
theorem intsV_snoc (l : List Int) (z : Int) : intsV (l ++ [z]) = intsV l ++ [.int .i64 z] := by simp [intsV]
theorem intsV_len (l : List Int) : (intsV l).length = l.length := by simp [intsV]
theorem intsV_at {l : List Int} {j : Nat} {z : Int} (h : l[j]? = some z) : (intsV l)[j]? = some (.int .i64 z) := by simp [intsV, h]
theorem set1 (A : List Value) (m k : Nat) (a : Value) (hA : A.length = k) : (A ++ zer (m + 1)).set k a = A ++ [a] ++ zer m := by
  unfold zer
  rw [List.set_append_right _ _ (by omega), hA, Nat.sub_self, List.replicate_succ, List.set_cons_zero]
  simp
theorem kept_putRow {α : Type} [Inhabited α] (enc : α → Value) {w W : World} (h : Kept w W) (blk off : Nat) (d : Array α) (hb : w.heap.size ≤ blk) : Kept w (putRow enc W blk off d) := by
  refine ⟨h.os, h.tape, h.output, by rw [Sort.size_putRow]; exact h.size, fun k hk => ?_⟩
  rw [← h.block k hk]
  unfold putRow mapBlock
  have hne : ¬ blk = k := by omega
  simp [Array.getElem?_modify, hne]
theorem row_putRow {α : Type} [Inhabited α] (enc : α → Value) {W : World} {b : Nat} {vs : List Value} (h : RowC W b vs) (blk off : Nat) (d : Array α) (hb : b ≠ blk) : RowC (putRow enc W blk off d) b vs := fun j v hv =>
  ⟨by rw [cell?_putRow_other _ _ _ _ _ _ (.inl hb)]; exact (h j v hv).1, by rw [frozen?_putRow]; exact (h j v hv).2⟩
theorem run_store_func {P : Program} {w : World} {a : Addr} {m : Mode} (fn : Fn) (first cap : Array Value) : (store a (.func fn first cap) m).run P w = stored P w a (.func fn first cap) m := run_store P w a _ m rfl
attribute [local go_sem] run_store_func
theorem RowC.drewN {W : World} {b : Nat} {vs : List Value} (h : RowC W b vs) (q : Nat) : RowC (W.drewN q) b vs := fun j v hv => h j v hv

theorem bump_snoc (l : List Int) (os : List Nat) (o : Nat) : bump l (os ++ [o]) = (bump l os).modify o (· + 1) := by simp [bump]
theorem bump_len (l : List Int) (os : List Nat) : (bump l os).length = l.length := by
  unfold bump
  induction os generalizing l with
  | nil => rfl
  | cons o os ih => rw [List.foldl_cons, ih, List.length_modify]
theorem bump_bd {l : List Int} {B : Int} (h : ∀ v ∈ l, 0 ≤ v ∧ v ≤ B) : ∀ (os : List Nat) (v : Int), v ∈ bump l os → 0 ≤ v ∧ v ≤ B + os.length := by
  intro os
  induction os generalizing l B with
  | nil => intro v hv; have := h v hv; simpa using this
  | cons o os ih =>
    intro v hv
    have := ih (l := l.modify o (· + 1)) (B := B + 1) (by
      intro u hu
      rw [List.mem_iff_getElem?] at hu
      obtain ⟨i, hi⟩ := hu
      rw [List.getElem?_modify] at hi
      cases hx : l[i]? with
      | none => rw [hx] at hi; cases hi
      | some x =>
        rw [hx] at hi
        have hb := h x (List.mem_of_getElem? hx)
        have hi' : (if o = i then x + 1 else x) = u := by simpa using hi
        split at hi' <;> omega) v hv
    rw [List.length_cons]
    push_cast
    omega
theorem intsV_modify {l : List Int} {o : Nat} {v : Int} (h : l[o]? = some v) : intsV (l.modify o (· + 1)) = (intsV l).set o (.int .i64 (v + 1)) := by
  apply List.ext_getElem?
  intro i
  unfold intsV
  rw [List.getElem?_map, List.getElem?_modify, List.getElem?_set]
  by_cases e : o = i
  · subst e
    have hl := (List.getElem?_eq_some_iff.1 h).1
    have h2 := (List.getElem?_eq_some_iff.1 h).2
    simp [hl, h2]
  · simp [e]
theorem natV_at {l : List Nat} {j o : Nat} (h : l[j]? = some o) : (natV l)[j]? = some (.int .i64 ((o : Nat) : Int)) := by simp [natV, h]

/-- what Whole returns -/
def WholeRes (w : World) (total : Int) (zs : List Int) (e : Ending) (w' : World) : Prop :=
  (((sumOfS zs (inB total 0 1000000000)).2 ≠ 0 ∧ e = .returned (.tuple #[.slice none 0 0, .int .i64 (sumOfS zs (inB total 0 1000000000)).2])) ∨
   ((sumOfS zs (inB total 0 1000000000)).2 = 0 ∧ ∃ g, e = .returned (.tuple #[.slice (some ⟨g, 0, none⟩) zs.length zs.length, .int .i64 0]) ∧ w.heap.size ≤ g ∧ RowC w' g (intsV (wholeL total zs (zs.length - 1))))) ∧ Kept w w'
set_option maxRecDepth 100000 in
set_option maxHeartbeats 3200000 in
theorem whole_few (A : Option Addr) (n c : Nat) (zs : List Int) (total : Int) (w : World) (h : IntsA w A n c zs) (h20 : n < 20) :
    Calls Tryz.prog 72 #[.int .i64 total, .slice A n c] w (WholeRes w total zs) := by
  have H := Lib.hid h
  clear h
  obtain ⟨r, hr⟩ : ∃ r, sumOfS zs (inB total 0 1000000000) = r := ⟨_, rfl⟩
  have HR := Lib.hid hr
  clear hr
  obtain ⟨W2, hW2⟩ : ∃ W2 : World, W2 = (w.alloc (.cells #[.int .i64 total] 3)).alloc (.cells #[.slice A n c] 55) := ⟨_, rfl⟩
  have K2 : Kept w W2 := by rw [hW2]; exact ((Kept.refl w).alloc _).alloc _
  have b1 : W2.cell? ⟨w.heap.size, 0, none⟩ = some (.int .i64 total) := by rw [hW2]; exact ((RowC.new w [.int .i64 total] 3).kept ((Kept.refl _).alloc _) 0 _ rfl).1
  have b2 : W2.cell? ⟨w.heap.size + 1, 0, none⟩ = some (.slice A n c) := by
    have := RowC.new (w.alloc (.cells #[.int .i64 total] 3)) [.slice A n c] 55
    rw [World.size_alloc] at this
    rw [hW2]; exact (this 0 _ rfl).1
  have HW2 := Lib.hid hW2
  have B1 := Lib.hid b1
  have B2 := Lib.hid b2
  have Z2 : W2.heap.size = w.heap.size + 1 + 1 := by rw [hW2]; simp
  have HZ2 := Lib.hid Z2
  clear hW2 b1 b2 Z2
  have HT : RowKit.Hid (∀ W : World, Kept w W → Calls Tryz.prog 134 #[.slice A n c, .bool (inB total 0 1000000000)] W fun e w' => e = .returned (i2V r) ∧ Kept W w') := Lib.hid (fun W hW => by
    have := sumOf_any A n c zs (inB total 0 1000000000) W (H.out.kept hW)
    rw [HR.out] at this
    exact this)
  have hmf : ∀ (fn : Fn) (first cap : Array Value) (w : World), (Instr.makeFunc fn first cap).run Tryz.prog w = .ok (.func fn first cap) w := fun _ _ _ _ => rfl
  go_enter Tryz.func72, Tryz.ntmps72
  go_upto_region 1 with (fail)
  rw [← HW2.out]
  go_cut [6, 7] (fun p e wx => ∃ b6, p = .pointer (some ⟨b6, 0, none⟩) ∧ e = .int .i64 r.2 ∧ w.heap.size + 1 < b6 ∧ RowC wx b6 [.int .i64 r.1] ∧ Kept W2 wx)
  case first =>
    go_region_held3 (fun w' => w'.cell? ⟨w.heap.size, 0, none⟩ = some (.int .i64 total) ∧ w'.cell? ⟨w.heap.size + 1, 0, none⟩ = some (.slice A n c) ∧ Kept W2 w')
      (first
        | exact S3_of B1.out B2.out ((Kept.refl _).drew)
        | exact S3_of B1.out B2.out (((Kept.refl _).drew).alloc _)
        | exact S3_of B1.out B2.out (((Kept.refl _).drew).trans hkk)
        | exact S3_of B1.out B2.out ((((Kept.refl _).drew).alloc _).trans hkk)
        | exact S3_of B1.out B2.out ((((Kept.refl _).drew).trans hkk).alloc _)
        | exact S3_of B1.out B2.out (((((Kept.refl _).drew).alloc _).trans hkk).setCell (Nat.le_refl _) _)
        | exact S3_of B1.out B2.out (((((Kept.refl _).drew).trans hkk).alloc _).setCell (by have := hkk.size; simp at this ⊢; omega) _)
        | fail)
      (first
        | (go_at_call 82; refine (within_any _ _ _ _).mono ?_; rintro e w' ⟨rfl, rfl⟩)
        | (go_at_call 134; refine (HT.out _ (by first | exact K2.drew | exact K2.drew.alloc _)).mono ?_; rintro e w1 ⟨rfl, hkk⟩; obtain ⟨hcc, hff, hzz⟩ := hkk.facts; unfold i2V)
        | fail)
    all_goals go_wp2
    all_goals go_meet
    all_goals
      have hzW := HZ2.out
      first
        | exact ⟨w1.heap.size, rfl, rfl, by have := hkk.size; simp at this; omega, RowC.new w1 [.int .i64 r.1] 3, (((Kept.refl W2).drew).trans hkk).alloc _⟩
        | exact ⟨W2.heap.size, rfl, rfl, by omega, ((RowC.new W2 [.int .i64 0] 3).drew.kept hkk).put (j := 0) (by simp) (.int .i64 r.1), ((((Kept.refl W2).alloc _).drew).trans hkk).setCell (Nat.le_refl _) _⟩
  case rest =>
    obtain ⟨b6, rfl, rfl, hb6, R6, K6⟩ := hcut
    have hkw := K2.trans K6
    have c1 := (K6.cells _ _ (cell_lt B1.out)).trans B1.out
    have c2 := (K6.cells _ _ (cell_lt B2.out)).trans B2.out
    have H6 := Lib.hid R6
    clear R6
    by_cases he : r.2 = 0
    · have he' : (r.2 != 0) = false := by simp [he]
      have HE := Lib.hid he
      clear he
      obtain ⟨htot, hpart, h40, hs1, hpos, hsb⟩ := sumOf_ok (zs := zs) (d := inB total 0 1000000000) (by rw [HR.out]; exact HE.out)
      obtain ⟨ht0, ht1⟩ := inB_iff.1 htot
      rw [HR.out] at hs1
      have HP := Lib.hid hpart
      have hn1 : zs ≠ [] := by intro h; rw [h] at hpos; simp at hpos
      have hnpos : 0 < n := by rw [← H.out.1]; exact List.length_pos_iff.2 hn1
      have hlb := left_bd (total := total) hpos
      rw [hs1] at H6
      obtain ⟨s, hs⟩ : ∃ s, zs.sum = s := ⟨_, rfl⟩
      rw [hs] at H6 hpos hsb hlb
      rw [H.out.1] at hlb
      have HS := Lib.hid hs
      have HLB := Lib.hid hlb
      have hmk := make55 n (by omega)
      have hl6 := cell_lt (H6.out 0 _ rfl).1
      clear htot hpart h40 hs1 hn1 hs hlb
      go_upto_region 4 with (fail)
      go_cut [8, 9] (fun p q wx => ∃ g8 g9, p = .slice (some ⟨g8, 0, none⟩) n n ∧ q = .slice (some ⟨g9, 0, none⟩) n n ∧ g8 ≠ g9 ∧ wc.heap.size ≤ g8 ∧ wc.heap.size ≤ g9 ∧ RowC wx g8 (zer n) ∧ RowC wx g9 (zer n) ∧ Kept wc wx)
      case first =>
        have hz1 := cell_lt c2
        go_region
        all_goals go_wp2
        all_goals go_meet
        all_goals
          have ra : RowC ((wc.alloc (.cells (zer n).toArray 3)).alloc (.cells (zer n).toArray 3)).drew wc.heap.size (zer n) := ((RowC.new wc (zer n) 3).kept ((Kept.refl _).alloc _)).drew
          have rb : RowC ((wc.alloc (.cells (zer n).toArray 3)).alloc (.cells (zer n).toArray 3)).drew (wc.heap.size + 1) (zer n) := by
            have := (RowC.new (wc.alloc (.cells (zer n).toArray 3)) (zer n) 3).drew
            rw [World.size_alloc] at this
            exact this
          have hk : Kept wc ((wc.alloc (.cells (zer n).toArray 3)).alloc (.cells (zer n).toArray 3)).drew := (((Kept.refl wc).alloc _).alloc _).drew
          first
            | exact ⟨wc.heap.size, wc.heap.size + 1, rfl, rfl, by omega, by omega, by omega, ra, rb, hk⟩
            | exact ⟨wc.heap.size + 1, wc.heap.size, rfl, rfl, by omega, by omega, by omega, rb, ra, hk⟩
      case rest =>
        obtain ⟨g8, g9, rfl, rfl, hg, hg8, hg9, R8, R9, K7⟩ := hcut
        have hwc := hkw.size
        have k7 := K6.trans K7
        have d1 := (k7.cells _ _ (cell_lt B1.out)).trans B1.out
        have d2 := (k7.cells _ _ (cell_lt B2.out)).trans B2.out
        have H8 := Lib.hid R8
        have H9 := Lib.hid R9
        have H6' := Lib.hid (H6.out.kept K7)
        have hkw7 := hkw.trans K7
        have hl6' := cell_lt (H6'.out 0 _ rfl).1
        have hl2 : w.heap.size + 1 < wc.heap.size := by omega
        clear c1 c2 R8 R9
        go_wp2
        go_loopw [10, 35] (fun lv i wr => ∃ k : Nat, k ≤ n ∧ i = .int .i64 k ∧ lv = .int .i64 (total - (flS total s (zs.take k)).sum) ∧ 0 ≤ (flS total s (zs.take k)).sum ∧ (flS total s (zs.take k)).sum ≤ k * 1000000000000 ∧
          RowC wr g8 (intsV (flS total s (zs.take k)) ++ zer (n - k)) ∧ RowC wr g9 (rngV k ++ zer (n - k)) ∧ RowC wr b6 [.int .i64 s] ∧ Kept W2 wr ∧ wc.heap.size ≤ wr.heap.size) (fun _ i _ => n - (intOf i).toNat)
        case atStart => exact ⟨0, by omega, by first | rfl | go_num, by simp [flS], by simp [flS], by simp [flS], by simpa [flS, intsV] using H8.out, by simpa [rngV] using H9.out, H6'.out, k7, Nat.le_refl _⟩
        case round =>
          obtain ⟨k, hk, rfl, rfl, hs0, hs1, r8, r9, r6, kr, hzr⟩ := hrel
          have q1 := (kr.cells _ _ (cell_lt B1.out)).trans B1.out
          have q2 := (kr.cells _ _ (cell_lt B2.out)).trans B2.out
          have q6 := (r6 0 _ rfl).1
          have hl6r := cell_lt q6
          have hl2r : w.heap.size + 1 < wr.heap.size := by omega
          have G8 := Lib.hid r8
          have G9 := Lib.hid r9
          have G6 := Lib.hid r6
          clear r8 r9 r6
          obtain ⟨sk, hsk⟩ : ∃ sk, (flS total s (zs.take k)).sum = sk := ⟨_, rfl⟩
          rw [hsk] at hs0 hs1
          rw [hsk]
          have HSK := Lib.hid hsk
          clear hsk
          by_cases hlt : k < n
          · obtain ⟨b, off, hA, hc⟩ := H.out.2.2.2.2 (by omega)
            subst hA
            have hxl : k < zs.length := by rw [H.out.1]; exact hlt
            obtain ⟨z, hz⟩ : ∃ z, zs[k]? = some z := ⟨zs[k]'hxl, List.getElem?_eq_getElem hxl⟩
            obtain ⟨z0, z1⟩ := part_in HP.out hz
            have hf := fl_one ht0 ht1 z0 z1 hpos
            have m1 := mul_bd (n := total) (d := z) 1000000000 1000 (by omega) ht1 z0 z1 (by omega)
            have m0 := Int.mul_nonneg ht0 z0
            obtain ⟨m11, m12⟩ := m1
            obtain ⟨f0, f1⟩ := hf
            have c0 := ((K2.trans kr).cells _ _ (cell_lt (hc k z hz))).trans (hc k z hz)
            have e8 : (intsV (flS total s (zs.take k))).length = k := by rw [intsV_len]; unfold flS; rw [List.length_map, List.length_take]; omega
            have e9 : (rngV k).length = k := rngV_len k
            obtain ⟨m, hm⟩ : ∃ m, n - k = m + 1 := ⟨n - k - 1, by omega⟩
            have r8 := G8.out
            have r9 := G9.out
            rw [hm] at r8 r9
            have l8 : (intsV (flS total s (zs.take k)) ++ zer (m + 1)).length = n := by rw [List.length_append, e8]; unfold zer; rw [List.length_replicate]; omega
            have l9 : (rngV k ++ zer (m + 1)).length = n := by rw [List.length_append, e9]; unfold zer; rw [List.length_replicate]; omega
            have t8 := r8 k _ (List.getElem?_eq_getElem (by rw [l8]; omega))
            have t9 := r9 k _ (List.getElem?_eq_getElem (by rw [l9]; omega))
            obtain ⟨v8, hv8, hw8⟩ : ∃ v8, wr.cell? ⟨g8, k, none⟩ = some v8 ∧ wr.frozen? ⟨g8, k, none⟩ = false := ⟨_, t8.1, t8.2⟩
            obtain ⟨v9, hv9, hw9⟩ : ∃ v9, wr.cell? ⟨g9, k, none⟩ = some v9 ∧ wr.frozen? ⟨g9, k, none⟩ = false := ⟨_, t9.1, t9.2⟩
            have HZ := Lib.hid hz
            have HE8 := Lib.hid e8
            have HE9 := Lib.hid e9
            have HM := Lib.hid hm
            have L8 := Lib.hid l8
            have L9 := Lib.hid l9
            have R8 := Lib.hid r8
            have R9 := Lib.hid r9
            have hl8 := cell_lt hv8
            have hl9 := cell_lt hv9
            clear hz hc e8 e9 hm l8 l9 r8 r9 t8 t9
            go_wp2
            go_roundw
            case rel =>
              have hsum : (flS total s (zs.take (k + 1))).sum = sk + total * z / s := by rw [take_snoc' HZ.out, flS_snoc, List.sum_append, HSK.out]; simp
              refine ⟨k + 1, by omega, by go_num, by rw [hsum, Int.sub_sub], by rw [hsum]; omega, by rw [hsum]; push_cast; omega, ?_, ?_, ?_, ?_, ?_⟩
              · have hx := ((R8.out.put (j := k) (by rw [L8.out]; omega) (.int .i64 (total * z / s))).far hg (.int .i64 (k : Int)) : RowC ((wr.setCell ⟨g8, k, none⟩ (.int .i64 (total * z / s))).setCell ⟨g9, k, none⟩ (.int .i64 (k : Int))) g8 _)
                rw [set1 _ m k _ HE8.out] at hx
                rw [take_snoc' HZ.out, flS_snoc, intsV_snoc, show n - (k + 1) = m by have := HM.out; omega]
                exact hx
              · have hx := ((R9.out.far (Ne.symm hg) (.int .i64 (total * z / s))).put (j := k) (by rw [L9.out]; omega) (.int .i64 (k : Int)) : RowC ((wr.setCell ⟨g8, k, none⟩ (.int .i64 (total * z / s))).setCell ⟨g9, k, none⟩ (.int .i64 (k : Int))) g9 _)
                rw [set1 _ m k _ HE9.out] at hx
                rw [rngV_succ, show n - (k + 1) = m by have := HM.out; omega]
                exact hx
              · exact (G6.out.far (by omega) _).far (by omega) _
              · have := HZ2.out
                exact (kr.setCell (by simp; omega) _).setCell (by simp; omega) _
              · simp; exact hzr
            case measure => simp [intOf]; omega
          · obtain rfl : k = n := by omega
            have ht : zs.take k = zs := List.take_of_length_le (by rw [H.out.1]; exact Nat.le_refl _)
            rw [ht] at HSK G8
            have G8' := Lib.hid (show RowC wr g8 (intsV (flS total s zs)) by have := G8.out; rw [Nat.sub_self] at this; simpa [zer] using this)
            have G9' := Lib.hid (show RowC wr g9 (rngV k) by have := G9.out; rw [Nat.sub_self] at this; simpa [zer] using this)
            have hlb := HLB.out
            rw [HSK.out] at hlb
            obtain ⟨L, hL⟩ := Int.eq_ofNat_of_zero_le hlb.1
            have hLk : L ≤ k := by have := hlb.2; omega
            have HL := Lib.hid hL
            clear G8 G9 ht hlb hL
            obtain ⟨m, hm⟩ : ∃ m, k = m + 1 := ⟨k - 1, by omega⟩
            have HMK := Lib.hid hm
            clear hm
            have h13 := RowC.new wr [.func (.func 137) #[] #[.pointer (some ⟨w.heap.size, 0, none⟩), .pointer (some ⟨w.heap.size + 1, 0, none⟩), .pointer (some ⟨b6, 0, none⟩)]] 136
            have k13 : Kept wr (wr.alloc (.cells #[.func (.func 137) #[] #[.pointer (some ⟨w.heap.size, 0, none⟩), .pointer (some ⟨w.heap.size + 1, 0, none⟩), .pointer (some ⟨b6, 0, none⟩)]] 136)) := (Kept.refl _).alloc _
            have H13 := Lib.hid h13
            have HK13 := Lib.hid k13
            clear h13 k13
            obtain ⟨b, off, hA, hc⟩ := H.out.2.2.2.2 hnpos
            subst hA
            have HC := Lib.hid hc
            clear hc
            have HSt : RowKit.Hid (Calls Tryz.prog 138 #[.slice (some ⟨g9, 0, none⟩) k k, .func (.func 139) #[] #[.pointer (some ⟨wr.heap.size, 0, none⟩)]] (wr.alloc (.cells #[.func (.func 137) #[] #[.pointer (some ⟨w.heap.size, 0, none⟩), .pointer (some ⟨w.heap.size + 1, 0, none⟩), .pointer (some ⟨b6, 0, none⟩)]] 136)) fun e w' => e = .returned (.tuple #[]) ∧ RowC w' g9 (natV (ordN total s zs m)) ∧ RowC w' g8 (intsV (flS total s zs)) ∧ Kept w w' ∧ wr.heap.size < w'.heap.size) := Lib.hid (by
              have hmk' := HMK.out
              have hrow := G9'.out
              have hr8 := G8'.out
              have hr6 := G6.out
              have hcz : ∀ j z, zs[j]? = some z → wr.cell? ⟨b, off + j, none⟩ = some (.int .i64 z) := fun j z hj => ((K2.trans kr).cells _ _ (cell_lt (HC.out j z hj))).trans (HC.out j z hj)
              have hzl := H.out.1
              have hb9 : b ≠ g9 := by
                obtain ⟨z, hz⟩ : ∃ z, zs[0]? = some z := ⟨_, List.getElem?_eq_getElem (by omega)⟩
                have := cell_lt (HC.out 0 z hz)
                omega
              have hk1 := HK13.out
              have hz2 := HZ2.out
              have hl9 : g9 < wr.heap.size := by
                have := (hrow 0 _ (by rw [List.getElem?_eq_getElem (by rw [rngV_len]; exact hnpos)])).1
                exact cell_lt this
              have hr13 := (H13.out 0 _ rfl).1
              have hPp := HP.out
              clear HMK G9' G8' G6 HC HK13 HZ2 H13 HP
              subst hmk'
              have hlk : ∀ (a : Addr) v, wr.cell? a = some v → (wr.alloc (.cells #[.func (.func 137) #[] #[.pointer (some ⟨w.heap.size, 0, none⟩), .pointer (some ⟨w.heap.size + 1, 0, none⟩), .pointer (some ⟨b6, 0, none⟩)]] 136)).cell? a = some v := fun a v hv => by
                rw [← hv]
                have hlt : a.block < wr.heap.size := by
                  rcases Nat.lt_or_ge a.block wr.heap.size with h | h
                  · exact h
                  · simp [World.cell?, Array.getElem?_eq_none h] at hv
                exact World.cell?_of_block (hk1.block _ hlt)
              have hH : Holds (encF m) (wr.alloc (.cells #[.func (.func 137) #[] #[.pointer (some ⟨w.heap.size, 0, none⟩), .pointer (some ⟨w.heap.size + 1, 0, none⟩), .pointer (some ⟨b6, 0, none⟩)]] 136)) g9 0 (rowF m) := by
                intro j hj
                have hj' : j < m + 1 := by simpa [rowF] using hj
                have hc := hrow.kept hk1 j (.int .i64 (j : Int)) (by simp [rngV, hj'])
                rw [Nat.zero_add]
                refine ⟨?_, hc.2⟩
                rw [hc.1, getElem!_pos _ j hj]
                simp [rowF, encF]
              refine (sortStable_few m (m + 1) g9 _ (cmpF total s zs m) h20 _ (cmp_reads wr.heap.size w.heap.size (w.heap.size + 1) b6 b off m c g9 total s zs _ hr13 (hlk _ _ q1) (hlk _ _ q2) (hlk _ _ q6) (fun j z hj => hlk _ _ (hcz j z hj)) hzl hPp ht0 ht1 hpos hsb (by omega) (by omega) (by omega) (by omega) hb9) hH).mono ?_
              rintro e w' ⟨rfl, q, hq⟩
              have hsz : (ordF total s zs m).size = (rowF m).size := by unfold ordF insertionSort; rw [size_insOuter _ _ _ _ _ _ rfl]
              rw [hq]
              refine ⟨rfl, ?_, ((row_putRow _ (hr8.kept hk1) g9 0 _ hg).drewN q), ((kept_putRow _ ((K2.trans kr).trans hk1) g9 0 _ (by omega)).drewN q), ?_⟩
              · intro j v hv
                unfold natV at hv
                rw [List.getElem?_map] at hv
                cases ho : (ordN total s zs m)[j]? with
                | none => rw [ho] at hv; cases hv
                | some o =>
                  rw [ho] at hv
                  simp at hv
                  subst hv
                  have hj : j < (ordF total s zs m).size := by
                    have := (List.getElem?_eq_some_iff.1 ho).1
                    rw [ordN_len] at this
                    rw [hsz]; simpa [rowF] using this
                  have hh := holds_putRow (encF m) _ g9 0 (rowF m) (ordF total s zs m) hH hsz j hj
                  rw [Nat.zero_add] at hh
                  refine ⟨?_, hh.2⟩
                  rw [← ordN_at ho]
                  exact hh.1
              · show wr.heap.size < (putRow _ _ _ _ _).heap.size
                rw [Sort.size_putRow]; simp)
            rw [HL.out]
            go_wp2_with fail
            refine HSt.out.mono ?_
            rintro e w1 ⟨rfl, o9, o8, kw1, hz1⟩
            have O8 := Lib.hid o8
            have O9 := Lib.hid o9
            clear o8 o9
            have hL0 : (0 : Int) ≤ (L : Int) := by omega
            have hLi : (L : Int) ≤ (k : Int) := by omega
            have hLt : ((L : Nat) : Int).toNat = L := by omega
            have hol : (ordN total s zs m).length = k := by rw [ordN_len]; exact HMK.out.symm
            have HOL := Lib.hid hol
            have hfb : ∀ v ∈ flS total s zs, 0 ≤ v ∧ v ≤ 1000000000000 := by
              intro v hv
              unfold flS at hv
              rw [List.mem_map] at hv
              obtain ⟨z, hz, rfl⟩ := hv
              obtain ⟨q, hq⟩ := List.getElem?_of_mem hz
              obtain ⟨z0, z1⟩ := part_in HP.out hq
              exact fl_one ht0 ht1 z0 z1 hpos
            have HFB := Lib.hid hfb
            have hfl : (flS total s zs).length = k := by unfold flS; rw [List.length_map, H.out.1]
            have HFL := Lib.hid hfl
            clear hol hfb hfl
            go_wp2_with fail
            go_loopw [67] (fun i wx => ∃ j : Nat, j ≤ L ∧ i = .int .i64 j ∧ RowC wx g8 (intsV (bump (flS total s zs) ((ordN total s zs m).take j))) ∧ RowC wx g9 (natV (ordN total s zs m)) ∧ Kept w wx) (fun i _ => L - (intOf i).toNat)
            case atStart => exact ⟨0, by omega, by first | rfl | go_num, by simpa [bump] using O8.out, O9.out, kw1⟩
            case round =>
              obtain ⟨j, hj, rfl, x8, x9, kx⟩ := hrel
              by_cases hlt2 : j < L
              · obtain ⟨o, ho⟩ : ∃ o, (ordN total s zs m)[j]? = some o := ⟨_, List.getElem?_eq_getElem (by rw [HOL.out]; omega)⟩
                have hok : o < k := by have := ordN_lt (List.mem_of_getElem? ho); have := HMK.out; omega
                have hlen : (bump (flS total s zs) ((ordN total s zs m).take j)).length = k := by rw [bump_len, HFL.out]
                obtain ⟨v, hv⟩ : ∃ v, (bump (flS total s zs) ((ordN total s zs m).take j))[o]? = some v := ⟨_, List.getElem?_eq_getElem (by rw [hlen]; exact hok)⟩
                have hvb := bump_bd HFB.out _ v (List.mem_of_getElem? hv)
                have htl : ((ordN total s zs m).take j).length = j := by rw [List.length_take, HOL.out]; omega
                rw [htl] at hvb
                obtain ⟨v0, v1⟩ := hvb
                have y9 := (x9 j _ (natV_at ho)).1
                have y8 := x8 o _ (intsV_at hv)
                obtain ⟨y81, y82⟩ := y8
                have hx8 := cell_lt y81
                have ho0 : (0 : Int) ≤ (o : Int) := by omega
                have ho1 : (o : Int) < (k : Int) := by omega
                have HO := Lib.hid ho
                have HV := Lib.hid hv
                have X8 := Lib.hid x8
                have X9 := Lib.hid x9
                have HLn := Lib.hid hlen
                clear ho hv x8 x9 hlen htl
                go_wp2
                go_roundw
                case rel =>
                  refine ⟨j + 1, by omega, by go_num, ?_, X9.out.far (Ne.symm hg) _, kx.setCell (by simp; omega) _⟩
                  rw [take_snoc' HO.out, bump_snoc, intsV_modify HV.out]
                  exact X8.out.put (by rw [intsV_len, HLn.out]; exact hok) _
                case measure => simp [intOf]; omega
              · obtain rfl : j = L := by omega
                go_wp2
                go_ret2
                refine ⟨.inr ⟨by rw [HR.out]; exact HE.out, g8, (by rw [H.out.1]; rfl), by omega, ?_⟩, kx⟩
                have e1 : zs.length - 1 = m := by rw [H.out.1, HMK.out]; rfl
                unfold wholeL
                rw [e1, HS.out, HSK.out, HL.out, hLt]
                exact x8
    · have he' : (r.2 != 0) = true := by simp [he]
      have HE := Lib.hid he
      clear he
      go_wp2
      go_ret2
      exact ⟨.inl ⟨by rw [HR.out]; exact HE.out, by rw [HR.out]; rfl⟩, hkw⟩
end Go.Proofs.YtcjpecdnenemaaaGreatDoor
