/-
  Heads in memory; areHeads.
  eachOf.
  take; whole.
  What heads take up: the sum of products.
  Excess: the calculation.
  Excess, Uses: where all is in range.
-/
import Derived.Test.YtcjpecdnenemaaaGreatDoorGM
import Derived.Test.YtcjpecdnenemaaaGreatDoorGA
namespace Go.Proofs.YtcjpecdnenemaaaGreatDoor
set_option linter.all false
open Go.RowKit Go.Shelf

structure Hd where
  sort : ByteArray
  num : Int
def hdCells (h : Hd) : List Value := [.string h.sort, .int .i64 h.num]
/-- a slice that holds the heads hs -/
def HeadsA (w : World) (A : Option Addr) (n c : Nat) (hs : List Hd) : Prop :=
  hs.length = n ∧ n ≤ c ∧ c ≤ 9223372036854775807 ∧ (∀ h ∈ hs, h.sort.size ≤ 9223372036854775807 ∧ -9223372036854775808 ≤ h.num ∧ h.num ≤ 9223372036854775807) ∧
  (0 < n → ∃ b off, A = some ⟨b, off, none⟩ ∧ ∀ i h, hs[i]? = some h → w.cell? ⟨b, off + i * 2, none⟩ = some (.string h.sort) ∧ w.cell? ⟨b, off + i * 2 + 1, none⟩ = some (.int .i64 h.num))
theorem HeadsA.kept {w w' : World} {A : Option Addr} {n c : Nat} {hs : List Hd} (h : HeadsA w A n c hs) (hk : Kept w w') : HeadsA w' A n c hs :=
  ⟨h.1, h.2.1, h.2.2.1, h.2.2.2.1, fun hn => by
    obtain ⟨b, off, e, ht⟩ := h.2.2.2.2 hn
    exact ⟨b, off, e, fun i x hx => ⟨(hk.cells _ _ (cell_lt (ht i x hx).1)).trans (ht i x hx).1, (hk.cells _ _ (cell_lt (ht i x hx).2)).trans (ht i x hx).2⟩⟩⟩

def seenS (pre : List Hd) (s : ByteArray) : Bool := pre.any fun p => decide (p.sort = s)
def headB (pre : List Hd) (h : Hd) : Bool := nameB h.sort && inB h.num 0 100000 && !(seenS pre h.sort)
/-- whether heads are as they have to be, each behind those before it -/
def areL (hs : List Hd) : Bool := (List.range hs.length).all fun i => match hs[i]? with | some h => headB (hs.take i) h | none => true
def areS (hs : List Hd) : Bool := decide (hs.length ≤ 12) && areL hs
def seenF (pre : List Hd) (s : ByteArray) : Option Value := if seenS pre s = true then some (.bool true) else none
theorem seenF_snoc (pre : List Hd) (h : Hd) (s : ByteArray) : (if s = h.sort then some (Value.bool true) else seenF pre s) = seenF (pre ++ [h]) s := by
  unfold seenF seenS
  by_cases e : s = h.sort
  · subst e; simp
  · have e' : ¬ h.sort = s := fun x => e x.symm
    simp [e, e']
theorem areL_yes {hs : List Hd} (h : ∀ i x, hs[i]? = some x → headB (hs.take i) x = true) : areL hs = true := by
  unfold areL
  rw [List.all_eq_true]
  intro i hi
  cases hx : hs[i]? with
  | none => rfl
  | some x => exact h i x hx
theorem areL_no {hs : List Hd} {i : Nat} {x : Hd} (hx : hs[i]? = some x) (h : headB (hs.take i) x = false) : areL hs = false := by
  unfold areL
  rw [List.all_eq_false]
  refine ⟨i, ?_, ?_⟩
  · have := (List.getElem?_eq_some_iff.1 hx).1; simpa using this
  · rw [hx]; simp [h]

def k190 : KeyKind Tryz.prog ByteArray := strKeys Tryz.underlying9
set_option maxRecDepth 100000 in
set_option maxHeartbeats 1600000 in
theorem areHeads_any (A : Option Addr) (n c : Nat) (hs : List Hd) (w : World) (h : HeadsA w A n c hs) :
    Calls Tryz.prog 171 #[.slice A n c] w fun e w' => e = .returned (.bool (areS hs)) ∧ Kept w w' := by
  have H := Lib.hid h
  have hnc := h.2.1
  have hm := h.2.2.1
  clear h
  have hmm := @run_makeMap Tryz.prog
  by_cases h12 : 12 < n
  · have HO := Lib.hid (show areS hs = false by unfold areS; rw [decide_eq_false (by rw [H.out.1]; omega)]; rfl)
    have h4 : (12 : Int) < (n : Int) := by omega
    go_enter Tryz.func171, Tryz.ntmps171
    go_wp2
    go_ret
    exact ⟨ret_bool HO.out.symm, Kept.refl _⟩
  · have h4 : ¬ (12 : Int) < (n : Int) := by omega
    have H12 := Lib.hid (show areS hs = areL hs by unfold areS; rw [decide_eq_true (by rw [H.out.1]; omega)]; rfl)
    have m0 := Lib.hid (MapA.new k190 w)
    go_enter Tryz.func171, Tryz.ntmps171
    go_wp2
    go_loopw [12] (fun i wr => ∃ k : Nat, k ≤ n ∧ i = .int .i64 k ∧ (∀ j x, j < k → hs[j]? = some x → headB (hs.take j) x = true) ∧ MapA k190 wr w.heap.size (seenF (hs.take k)) ∧ Kept w wr) (fun i _ => n - (intOf i).toNat)
    case atStart => exact ⟨0, by omega, by first | rfl | go_num, fun j x hj => by omega, MapA.congr k190 m0.out (fun k => by simp [seenF, seenS]), (Kept.refl _).alloc _⟩
    case round =>
      obtain ⟨k, hk, rfl, ho, hmap, hkr⟩ := hrel
      have Ho := Lib.hid ho
      clear ho
      by_cases hlt : k < n
      · obtain ⟨b, off, hA, hc⟩ := H.out.2.2.2.2 (by omega)
        subst hA
        have hxl : k < hs.length := by rw [H.out.1]; exact hlt
        obtain ⟨x, hx⟩ : ∃ x, hs[k]? = some x := ⟨hs[k]'hxl, List.getElem?_eq_getElem hxl⟩
        have hbd := H.out.2.2.2.1 x (List.mem_of_getElem? hx)
        obtain ⟨bs, bn1, bn2⟩ := hbd
        have q0 := (hkr.cells _ _ (cell_lt (hc k x hx).1)).trans (hc k x hx).1
        have q1 := (hkr.cells _ _ (cell_lt (hc k x hx).2)).trans (hc k x hx).2
        have HX := Lib.hid hx
        have m2 := MapA.kept k190 hmap ((Kept.refl wr).alloc (.cells #[.string x.sort, .int .i64 x.num] 84))
        clear hx hc
        by_cases c1 : nameB x.sort = true
        · by_cases c2 : inB x.num 0 100000 = true
          · by_cases c3 : seenS (hs.take k) x.sort = true
            · have HNo := Lib.hid (areL_no HX.out (by unfold headB; rw [c1, c2, c3]; rfl))
              have r2 := run_lookup_some k190 (T := 190) Tryz.underlying190 m2 (k := x.sort) (v := .bool true) (by unfold seenF; rw [if_pos c3])
              have C1 := Lib.hid c1
              have C2 := Lib.hid c2
              clear m2 c1 c2 hmap
              simp only [k190, strKeys] at r2
              go_wp2_with (first | (go_at_call 159; refine (isName_any _ bs _).mono ?_; rw [C1.out]; rintro e w' ⟨rfl, rfl⟩) | (go_at_call 82; refine (within_any _ _ _ _).mono ?_; rw [C2.out]; rintro e w' ⟨rfl, rfl⟩))
              go_ret
              exact ⟨ret_bool (by rw [H12.out, HNo.out]), hkr.alloc _⟩
            · have r2 := run_lookup_none k190 (T := 190) Tryz.underlying190 (z := .bool false) (Tryz.zeroValue4) m2 (k := x.sort) (by unfold seenF; rw [if_neg c3])
              have HYes := Lib.hid (show headB (hs.take k) x = true by unfold headB; rw [c1, c2, Bool.eq_false_iff.2 c3]; rfl)
              obtain ⟨w2, r3, m3, b3, _, z3⟩ := run_mapUpdate_is k190 (T := 190) Tryz.underlying190 m2 x.sort (.bool true)
              have K3 : Kept w w2 := (hkr.alloc (.cells #[.string x.sort, .int .i64 x.num] 84)).below.trans (b3 _ (by have := hkr.size; omega))
              have M3 := Lib.hid (MapA.congr k190 m3 (seenF_snoc (hs.take k) x))
              have C1 := Lib.hid c1
              have C2 := Lib.hid c2
              clear m2 c1 c2 c3 hmap m3 b3
              simp only [k190, strKeys] at r2 r3
              go_wp2_with (first | (go_at_call 159; refine (isName_any _ bs _).mono ?_; rw [C1.out]; rintro e w' ⟨rfl, rfl⟩) | (go_at_call 82; refine (within_any _ _ _ _).mono ?_; rw [C2.out]; rintro e w' ⟨rfl, rfl⟩))
              go_roundw
              case rel =>
                refine ⟨k + 1, by omega, by go_num, fun j y hj hy => ?_, by rw [take_snoc' HX.out]; exact M3.out, K3⟩
                rcases Nat.lt_or_eq_of_le (Nat.le_of_lt_succ hj) with h | h
                · exact Ho.out j y h hy
                · subst h
                  have := HX.out
                  rw [hy] at this
                  cases this
                  exact HYes.out
              case measure => simp [intOf]; omega
          · have c2' : inB x.num 0 100000 = false := by simpa using c2
            have HNo := Lib.hid (areL_no HX.out (by unfold headB; rw [c1, c2']; rfl))
            have C1 := Lib.hid c1
            have C2 := Lib.hid c2'
            clear m2 c1 c2 c2' hmap
            go_wp2_with (first | (go_at_call 159; refine (isName_any _ bs _).mono ?_; rw [C1.out]; rintro e w' ⟨rfl, rfl⟩) | (go_at_call 82; refine (within_any _ _ _ _).mono ?_; rw [C2.out]; rintro e w' ⟨rfl, rfl⟩))
            go_ret
            exact ⟨ret_bool (by rw [H12.out, HNo.out]), hkr.alloc _⟩
        · have c1' : nameB x.sort = false := by simpa using c1
          have HNo := Lib.hid (areL_no HX.out (by unfold headB; rw [c1']; rfl))
          have C1 := Lib.hid c1'
          clear m2 c1 c1' hmap
          go_wp2_with (first | (go_at_call 159; refine (isName_any _ bs _).mono ?_; rw [C1.out]; rintro e w' ⟨rfl, rfl⟩))
          go_ret
          exact ⟨ret_bool (by rw [H12.out, HNo.out]), hkr.alloc _⟩
      · obtain rfl : k = n := by omega
        have HYes := Lib.hid (areL_yes (hs := hs) (fun i x hx => Ho.out i x (by rw [← H.out.1]; exact (List.getElem?_eq_some_iff.1 hx).1) hx))
        clear hmap
        go_wp2
        go_ret
        exact ⟨ret_bool (by rw [H12.out, HYes.out]), hkr⟩
end Go.Proofs.YtcjpecdnenemaaaGreatDoor

namespace Go.Proofs.YtcjpecdnenemaaaGreatDoor
set_option linter.all false
open Go.RowKit Go.Shelf

theorem info92 : (Tryz.prog.info? 92).map (fun i => (i.zero, i.size, i.bytes)) = some (some (.agg #[.int .i64 0, .int .i64 0]), 2, 16) := by kernel_rfl
theorem fl2_one (l : List (Int × Int)) : ∀ u ∈ fl2 l, u.oneCell' = true := by
  intro u hu
  unfold fl2 at hu
  rw [List.mem_flatMap] at hu
  obtain ⟨p, _, hp⟩ := hu
  simp at hp
  rcases hp with rfl | rfl <;> rfl
/-- how many stints a beast of each head takes up -/
def eachL (xs : List Eqv) (hs : List Hd) (day known : Int) : List (Int × Int) := hs.map fun h => stS (inForceS xs h.sort day known)
def eachB (xs : List Eqv) (hs : List Hd) (day known : Int) : Bool := hs.all fun h => (inForceS xs h.sort day known).isSome
/-- why heads and stints are refused -/
def eachE (xs : List Eqv) (hs : List Hd) (sn sd day known : Int) : Int :=
  if (chkS xs).2 = 0 then (if (areS hs && vld sn sd) = true then (if eachB xs hs day known = true then 0 else 10) else 1) else (chkS xs).2
def EachRes (w : World) (xs : List Eqv) (hs : List Hd) (sn sd day known : Int) (e : Ending) (w' : World) : Prop :=
  ((eachE xs hs sn sd day known ≠ 0 ∧ e = .returned (.tuple #[.slice none 0 0, .int .i64 (eachE xs hs sn sd day known)])) ∨
   (eachE xs hs sn sd day known = 0 ∧ ∃ v, e = .returned (.tuple #[v, .int .i64 0]) ∧ w'.ownsRow w.heap.size 92 2 v hs.length (fl2 (eachL xs hs day known)))) ∧ Kept w w'
theorem news_of {W : World} {cs : List Value} {t : TypeId} {m : Nat} (hm : W.heap.size = m) : ∀ j u, cs[j]? = some u → (W.alloc (.cells cs.toArray t)).cell? ((⟨m, 0, none⟩ : Addr).add j) = some u := by
  intro j u hu
  subst hm
  rw [addr_add, Nat.zero_add, cell_of_row _ _ _ _ _ _ (heap_alloc_new W _)]
  simpa using hu
theorem one2 (a b : Int) : ∀ u ∈ [Value.int .i64 a, Value.int .i64 b], u.oneCell' = true := by
  intro u hu
  simp at hu
  rcases hu with rfl | rfl <;> rfl

set_option maxRecDepth 100000 in
set_option maxHeartbeats 3200000 in
theorem eachOf_any (A : Option Addr) (n c : Nat) (xs : List Eqv) (B : Option Addr) (hn hc : Nat) (hs : List Hd) (sn sd day known : Int) (w : World) (hT : TabA w A n c xs) (hlt : n ≤ 1000000) (hH : HeadsA w B hn hc hs) :
    Calls Tryz.prog 127 #[.slice A n c, .slice B hn hc, .agg #[.int .i64 sn, .int .i64 sd], .int .i64 day, .int .i64 known] w (EachRes w xs hs sn sd day known) := by
  have HT := Lib.hid hT
  have HH := Lib.hid hH
  have hhc := hH.2.1
  have hhm := hH.2.2.1
  clear hT hH
  obtain ⟨E, hE⟩ : ∃ E, E = chkS xs := ⟨_, rfl⟩
  have HE := Lib.hid hE
  have B0 : RowC (w.alloc (.cells #[.int .i64 sn, .int .i64 sd] 23)) w.heap.size [.int .i64 sn, .int .i64 sd] := RowC.new w [.int .i64 sn, .int .i64 sd] 23
  have HB0 := Lib.hid B0
  clear B0
  by_cases h0 : E.2 = 0
  · have h0' : (E.2 != 0) = false := by simp [h0]
    by_cases ha : areS hs = true
    · have HA := Lib.hid ha
      by_cases hv : vld sn sd = true
      · have HV := Lib.hid hv
        have HEE := Lib.hid (show eachE xs hs sn sd day known = if eachB xs hs day known = true then 0 else 10 by unfold eachE; rw [← hE, if_pos h0, ha, hv]; rfl)
        obtain ⟨i0, hi0, hz0, hz1, hz2⟩ := info_parts info92
        have h12 : hn ≤ 12 := by
          unfold areS at ha
          simp only [Bool.and_eq_true, decide_eq_true_eq] at ha
          rw [← HH.out.1]; exact ha.1
        clear h0 hE ha hv
        go_enter Tryz.func127, Tryz.ntmps127
        go_wp2_with fail
        refine (check_any A n c xs _ (HT.out.kept ((Kept.refl _).alloc _))).mono ?_
        rw [← HE.out]
        rintro e w1 ⟨rfl, hk1⟩
        have p0 := (HB0.out.kept hk1 0 _ rfl).1
        have p1 := (HB0.out.kept hk1 1 _ rfl).1
        have k1 : Kept w w1 := ((Kept.refl _).alloc _).trans hk1
        go_wp2_with fail
        refine (areHeads_any B hn hc hs _ (HH.out.kept k1)).mono ?_
        rw [HA.out]
        rintro e w2 ⟨rfl, hk2⟩
        have k2 := k1.trans hk2
        have p0 := (HB0.out.kept (hk1.trans hk2) 0 _ rfl).1
        have p1 := (HB0.out.kept (hk1.trans hk2) 1 _ rfl).1
        go_wp2_with fail
        refine (valid_any sn sd _).mono ?_
        rw [HV.out]
        rintro e w3 ⟨rfl, hk3⟩
        have k3 := k2.trans hk3
        clear p0 p1
        go_wp2
        go_loopw [14, 37] (fun v i wr => ∃ k : Nat, k ≤ hn ∧ i = .int .i64 k ∧ (∀ j x, j < k → hs[j]? = some x → (inForceS xs x.sort day known).isSome = true) ∧ wr.ownsRow w.heap.size 92 2 v k (fl2 (eachL xs (hs.take k) day known)) ∧ Kept w wr) (fun _ i _ => hn - (intOf i).toNat)
        case atStart => exact ⟨0, by omega, by first | rfl | go_num, fun j x hj => by omega, by exact ⟨rfl, .inl ⟨rfl, rfl⟩⟩, k3⟩
        case round =>
          obtain ⟨k, hk, rfl, ho, hown, hkr⟩ := hrel
          have Ho := Lib.hid ho
          have HO := Lib.hid hown
          clear ho hown
          by_cases hlt2 : k < hn
          · obtain ⟨b, off, hB, hcc⟩ := HH.out.2.2.2.2 (by omega)
            subst hB
            have hxl : k < hs.length := by rw [HH.out.1]; exact hlt2
            obtain ⟨x, hx⟩ : ∃ x, hs[k]? = some x := ⟨hs[k]'hxl, List.getElem?_eq_getElem hxl⟩
            have q0 := (hkr.cells _ _ (cell_lt (hcc k x hx).1)).trans (hcc k x hx).1
            have q1 := (hkr.cells _ _ (cell_lt (hcc k x hx).2)).trans (hcc k x hx).2
            have HX := Lib.hid hx
            clear hx hcc
            rcases hf : inForceS xs x.sort day known with _ | y
            · have HF := Lib.hid hf
              have HNo := Lib.hid (show eachB xs hs day known = false by
                unfold eachB
                rw [List.all_eq_false]
                exact ⟨x, List.mem_of_getElem? HX.out, by rw [hf]; simp⟩)
              clear hf
              go_wp2_with fail
              refine (inForce_any A n c xs x.sort day known _ ((HT.out.kept hkr).kept ((Kept.refl _).alloc _)) hlt).mono ?_
              rw [HF.out]
              rintro e w5 ⟨rfl, hk5⟩
              dsimp only [forV, eqV, Option.getD_none, Option.isSome_none, zeroE]
              go_wp2
              go_ret2
              have he : eachE xs hs sn sd day known = 10 := by rw [HEE.out, HNo.out]; rfl
              exact ⟨.inl ⟨by rw [he]; decide, by rw [he]; rfl⟩, ((hkr.alloc _).trans hk5).alloc _⟩
            · have HF := Lib.hid hf
              have HS := Lib.hid (show stS (inForceS xs x.sort day known) = (y.num, y.den) by rw [hf]; rfl)
              have HI := Lib.hid (show (inForceS xs x.sort day known).isSome = true by rw [hf]; rfl)
              clear hf
              go_wp2_with fail
              refine (inForce_any A n c xs x.sort day known _ ((HT.out.kept hkr).kept ((Kept.refl _).alloc _)) hlt).mono ?_
              rw [HF.out]
              rintro e w5 ⟨rfl, hk5⟩
              have hown5 := own_kept (own_kept (own_kept HO.out ((Kept.refl _).alloc (.cells #[.string x.sort, .int .i64 x.num] 84))) hk5) ((Kept.refl _).alloc (.cells #[.int .i64 y.id, .int .i64 y.frm, .int .i64 y.kno, .string y.sort, .int .i64 y.num, .int .i64 y.den, .int .i64 y.off] 37))
              have HO5 := Lib.hid hown5
              have K5 : Kept w (w5.alloc (.cells #[.int .i64 y.id, .int .i64 y.frm, .int .i64 y.kno, .string y.sort, .int .i64 y.num, .int .i64 y.den, .int .i64 y.off] 37)) := ((hkr.alloc _).trans hk5).alloc _
              have HK5 := Lib.hid K5
              clear hown5 K5
              dsimp only [forV, eqV, Option.getD_some, Option.isSome_some]
              have HN := Lib.hid (news_of (W := w5.alloc (.cells #[.int .i64 y.id, .int .i64 y.frm, .int .i64 y.kno, .string y.sort, .int .i64 y.num, .int .i64 y.den, .int .i64 y.off] 37)) (cs := [.int .i64 y.num, .int .i64 y.den]) (t := 92) (m := w5.heap.size + 1) (by simp))
              have H16 := Lib.hid (one2 y.num y.den)
              go_wp2_with (at_builtin; refine wpList_append_own _ rfl (.tmp 52) (.tmp 55) 127 rfl w.heap.size 92 i0 _ 2 16 Tryz.underlying127 hi0 hz0 hz1 hz2 rfl (by decide) _ k (fl2 (eachL xs (hs.take k) day known)) rfl (own_kept HO5.out ((Kept.refl _).alloc _)) ⟨w5.heap.size + 1, 0, none⟩ 1 1 [.int .i64 y.num, .int .i64 y.den] rfl rfl HN.out H16.out (by simp only [maxLen]; omega) (by omega) (by have := HK5.out.size; simp at this ⊢; omega) ?_; intro v' w6 hown6 hg6 _hx6)
              have HO6 := Lib.hid hown6
              have HG6 := Lib.hid hg6
              go_roundw
              case rel =>
                refine ⟨k + 1, by omega, by go_num, fun j z hj hz => ?_, ?_, ?_⟩
                · rcases Nat.lt_or_eq_of_le (Nat.le_of_lt_succ hj) with h | h
                  · exact Ho.out j z h hz
                  · subst h
                    have := HX.out
                    rw [hz] at this
                    cases this
                    exact HI.out
                · have e1 : fl2 (eachL xs (hs.take (k + 1)) day known) = fl2 (eachL xs (hs.take k) day known) ++ [.int .i64 y.num, .int .i64 y.den] := by
                    rw [take_snoc' HX.out]
                    unfold eachL
                    rw [List.map_append, List.map_cons, List.map_nil, fl2_snoc, HS.out]
                  rw [e1]; exact HO6.out
                · exact (HK5.out.alloc _).grown HG6.out (fun r hr => (HO.out.lt r hr).1)
              case measure => simp [intOf]; omega
          · obtain rfl : k = hn := by omega
            have HYes := Lib.hid (show eachB xs hs day known = true by
              unfold eachB
              rw [List.all_eq_true]
              intro x hx
              obtain ⟨j, hj⟩ := List.getElem?_of_mem hx
              exact Ho.out j x (by rw [← HH.out.1]; exact (List.getElem?_eq_some_iff.1 hj).1) hj)
            have ht : hs.take k = hs := List.take_of_length_le (by rw [HH.out.1]; exact Nat.le_refl _)
            have HT2 := Lib.hid ht
            clear ht
            go_wp2
            go_ret2
            have he : eachE xs hs sn sd day known = 0 := by rw [HEE.out, HYes.out]; rfl
            refine ⟨.inr ⟨he, _, rfl, ?_⟩, hkr⟩
            have := HO.out
            rw [HT2.out] at this
            rw [HH.out.1]
            exact this
      · have HV := Lib.hid (show vld sn sd = false by simpa using hv)
        have he : eachE xs hs sn sd day known = 1 := by unfold eachE; rw [← hE, if_pos h0, ha, HV.out]; rfl
        have HEE := Lib.hid he
        clear h0 hE ha hv he
        go_enter Tryz.func127, Tryz.ntmps127
        go_wp2_with fail
        refine (check_any A n c xs _ (HT.out.kept ((Kept.refl _).alloc _))).mono ?_
        rw [← HE.out]
        rintro e w1 ⟨rfl, hk1⟩
        have k1 : Kept w w1 := ((Kept.refl _).alloc _).trans hk1
        go_wp2_with fail
        refine (areHeads_any B hn hc hs _ (HH.out.kept k1)).mono ?_
        rw [HA.out]
        rintro e w2 ⟨rfl, hk2⟩
        have k2 := k1.trans hk2
        have p0 := (HB0.out.kept (hk1.trans hk2) 0 _ rfl).1
        have p1 := (HB0.out.kept (hk1.trans hk2) 1 _ rfl).1
        go_wp2_with fail
        refine (valid_any sn sd _).mono ?_
        rw [HV.out]
        rintro e w3 ⟨rfl, hk3⟩
        have k3 := k2.trans hk3
        clear p0 p1
        go_wp2
        go_ret2
        exact ⟨.inl ⟨by rw [HEE.out]; decide, by rw [HEE.out]; rfl⟩, k3⟩
    · have HA := Lib.hid (show areS hs = false by simpa using ha)
      have he : eachE xs hs sn sd day known = 1 := by unfold eachE; rw [← hE, if_pos h0, HA.out]; rfl
      have HEE := Lib.hid he
      clear h0 hE ha he
      go_enter Tryz.func127, Tryz.ntmps127
      go_wp2_with fail
      refine (check_any A n c xs _ (HT.out.kept ((Kept.refl _).alloc _))).mono ?_
      rw [← HE.out]
      rintro e w1 ⟨rfl, hk1⟩
      have k1 : Kept w w1 := ((Kept.refl _).alloc _).trans hk1
      go_wp2_with fail
      refine (areHeads_any B hn hc hs _ (HH.out.kept k1)).mono ?_
      rw [HA.out]
      rintro e w2 ⟨rfl, hk2⟩
      have k2 := k1.trans hk2
      go_wp2
      go_ret2
      exact ⟨.inl ⟨by rw [HEE.out]; decide, by rw [HEE.out]; rfl⟩, k2⟩
  · have h0' : (E.2 != 0) = true := by simp [h0]
    have he : eachE xs hs sn sd day known = E.2 := by unfold eachE; rw [← hE, if_neg h0]
    have HEE := Lib.hid he
    have H0 := Lib.hid h0
    clear h0 hE he
    go_enter Tryz.func127, Tryz.ntmps127
    go_wp2_with fail
    refine (check_any A n c xs _ (HT.out.kept ((Kept.refl _).alloc _))).mono ?_
    rw [← HE.out]
    rintro e w1 ⟨rfl, hk1⟩
    go_wp2
    go_ret2
    exact ⟨.inl ⟨by rw [HEE.out]; exact H0.out, by rw [HEE.out]; rfl⟩, ((Kept.refl _).alloc _).trans hk1⟩
end Go.Proofs.YtcjpecdnenemaaaGreatDoor

namespace Go.Proofs.YtcjpecdnenemaaaGreatDoor
set_option linter.all false
open Go.RowKit Go.Shelf

theorem whole_any (n : Int) (w : World) : Calls Tryz.prog 100 #[.int .i64 n] w fun e w' => e = .returned (.agg #[.int .i64 n, .int .i64 1]) ∧ Kept w w' := by
  go_enter Tryz.func100, Tryz.ntmps100
  go_wp2
  exact bodyPost_ret (v := .agg #[.int .i64 n, .int .i64 1]) (by simp [results, Tryz.results100, go_sem]) rfl ⟨rfl, (Kept.refl _).alloc _⟩

/-- all but block p lies as it lay -/
def But (p : Nat) (w w' : World) : Prop := w.grownBy w' (some p)
theorem But.cell {p : Nat} {w w' : World} (h : But p w w') {b o : Nat} {v : Value} (hv : w.cell? ⟨b, o, none⟩ = some v) (hne : b ≠ p) : w'.cell? ⟨b, o, none⟩ = some v := World.grownBy.cell h hv (by simpa using hne)
theorem But.size {p : Nat} {w w' : World} (h : But p w w') : w.heap.size ≤ w'.heap.size := World.grownBy.size h
theorem But.of_kept {p : Nat} {w w' : World} (h : Kept w w') : But p w w' := ⟨h.os, h.tape, h.output, h.size, fun k hk _ => h.block k hk⟩
theorem But.trans {p : Nat} {a b c : World} (h : But p a b) (k : But p b c) : But p a c := by
  obtain ⟨h1, h2, h3, h4, h5⟩ := h
  obtain ⟨k1, k2, k3, k4, k5⟩ := k
  exact ⟨k1.trans h1, k2.trans h2, k3.trans h3, Nat.le_trans h4 k4, fun i hi hne => (k5 i (Nat.lt_of_lt_of_le hi h4) hne).trans (h5 i hi hne)⟩
theorem But.set {p : Nat} {a b : World} (h : But p a b) (j : Nat) (v : Value) : But p a (b.setCell ⟨p, j, none⟩ v) := h.trans ⟨rfl, rfl, rfl, by simp, fun i hi hne => Below.heap_setCell b ⟨p, j, none⟩ v i (fun e => hne (by rw [e]))⟩
theorem But.row {p b : Nat} {w w' : World} {vs : List Value} (h : But p w w') (hr : RowC w b vs) (hne : b ≠ p) : RowC w' b vs := fun j v hv =>
  ⟨h.cell (hr j v hv).1 hne, by
    have hb := h.5 b (cell_lt (hr j v hv).1) (by simpa using hne)
    rw [World.frozen?_of_block hb]; exact (hr j v hv).2⟩
theorem Kept.but {p : Nat} {a b c : World} (h : Kept a b) (k : But p b c) (hp : a.heap.size ≤ p) : Kept a c := h.below.grown k h.size (fun q hq => by cases hq; exact hp)
theorem S4_of {W W' : World} {p q : Nat} {a b c d : Int} (h1 : RowC W p [.int .i64 a, .int .i64 b]) (h2 : RowC W q [.int .i64 c, .int .i64 d]) (h : Kept W W') : W'.cell? ⟨p, 0, none⟩ = some (.int .i64 a) ∧ W'.cell? ⟨p, 1, none⟩ = some (.int .i64 b) ∧ W'.cell? ⟨q, 0, none⟩ = some (.int .i64 c) ∧ W'.cell? ⟨q, 1, none⟩ = some (.int .i64 d) ∧ W'.frozen? ⟨p, 0, none⟩ = false ∧ W'.frozen? ⟨p, 1, none⟩ = false ∧ Kept W W' :=
  ⟨(h1.kept h 0 _ rfl).1, (h1.kept h 1 _ rfl).1, (h2.kept h 0 _ rfl).1, (h2.kept h 1 _ rfl).1, (h1.kept h 0 _ rfl).2, (h1.kept h 1 _ rfl).2, h⟩
set_option maxRecDepth 100000 in
set_option maxHeartbeats 1600000 in
theorem take_ok (p : Nat) (an ad bn bd x y : Int) (ha : Bd an ad) (hb : Bd bn bd) (hr : lowF (an * bd + bn * ad) (ad * bd) = some (x, y)) (w : World) (h : RowC w p [.int .i64 an, .int .i64 ad]) :
    Calls Tryz.prog 101 #[.pointer (some ⟨p, 0, none⟩), .agg #[.int .i64 bn, .int .i64 bd]] w fun e w' => e = .returned (.tuple #[]) ∧ But p w w' ∧ RowC w' p [.int .i64 x, .int .i64 y] := by
  have hpl := cell_lt (h 0 _ rfl).1
  obtain ⟨W1, hW1⟩ : ∃ W1 : World, W1 = w.alloc (.cells #[.int .i64 bn, .int .i64 bd] 92) := ⟨_, rfl⟩
  have P1 : RowC W1 p [.int .i64 an, .int .i64 ad] := by rw [hW1]; exact h.kept ((Kept.refl _).alloc _)
  have Q1 : RowC W1 w.heap.size [.int .i64 bn, .int .i64 bd] := by rw [hW1]; exact RowC.new w [.int .i64 bn, .int .i64 bd] 92
  have K1 : Kept w W1 := by rw [hW1]; exact (Kept.refl _).alloc _
  have HW1 := Lib.hid hW1
  have HP1 := Lib.hid P1
  have HQ1 := Lib.hid Q1
  have HC : RowKit.Hid (∀ W, Calls Tryz.prog 94 #[.agg #[.int .i64 an, .int .i64 ad], .agg #[.int .i64 bn, .int .i64 bd]] W fun e w' => e = .returned (.agg #[.int .i64 x, .int .i64 y]) ∧ Kept W w') := Lib.hid (fun W => plus_some an ad bn bd x y ha hb hr W)
  clear hW1 P1 Q1 h ha hb hr
  go_enter Tryz.func101, Tryz.ntmps101
  go_wp2_with fail
  rw [← HW1.out]
  have p0 := (HP1.out 0 _ rfl).1
  have p1 := (HP1.out 1 _ rfl).1
  have q0 := (HQ1.out 0 _ rfl).1
  have q1 := (HQ1.out 1 _ rfl).1
  have z0 := (HP1.out 0 _ rfl).2
  have z1 := (HP1.out 1 _ rfl).2
  have hp1 := cell_lt p0
  go_region_with (go_at_call 94; refine (HC.out _).mono ?_; rintro e w2 ⟨rfl, hkk⟩; have T := RowC.kept HP1.out (((Kept.refl W1).drew).trans hkk); have t0 := (T 0 _ rfl).1; have t1 := (T 1 _ rfl).1; have y0 := (T 0 _ rfl).2; have y1 := (T 1 _ rfl).2)
  all_goals go_wp2
  all_goals
    go_end0
    exact ⟨rfl, ((But.of_kept (K1.drew.trans hkk)).set 0 _).set 1 _, (T.put (j := 0) (by simp) _).put (j := 1) (by simp) _⟩
end Go.Proofs.YtcjpecdnenemaaaGreatDoor

namespace Go.Proofs.YtcjpecdnenemaaaGreatDoor
set_option linter.all false
open Go.RowKit Go.Shelf

def addO (acc : Option (Int × Int)) (p : Int × Int) : Option (Int × Int) := match acc with | some a => lowF (a.1 * p.2 + p.1 * a.2) (a.2 * p.2) | none => none
def stepU (acc : Option (Int × Int)) (e : (Int × Int) × Int) : Option (Int × Int) := match mulF e.1.1 e.1.2 e.2 1 with | some p => addO acc p | none => none
/-- what heads take up, if that is in range all along -/
def usesF (es : List ((Int × Int) × Int)) : Option (Int × Int) := es.foldl stepU (some (0, 1))
def excF (es : List ((Int × Int) × Int)) (sn sd : Int) : Option (Int × Int) := match usesF es with | some a => lowF (a.1 * sd + -sn * a.2) (a.2 * sd) | none => none
theorem stepU_none (es : List ((Int × Int) × Int)) : es.foldl stepU none = none := by
  induction es with
  | nil => rfl
  | cons e es ih => rw [List.foldl_cons]; have : stepU none e = none := by unfold stepU addO; split <;> rfl
                    rw [this, ih]
theorem usesF_snoc (es : List ((Int × Int) × Int)) (e : (Int × Int) × Int) : usesF (es ++ [e]) = stepU (usesF es) e := by simp [usesF]
theorem usesF_take {es : List ((Int × Int) × Int)} {r : Int × Int} (h : usesF es = some r) (k : Nat) : ∃ a, usesF (es.take k) = some a := by
  rcases hu : usesF (es.take k) with _ | a
  · have : usesF es = (es.drop k).foldl stepU (usesF (es.take k)) := by unfold usesF; rw [← List.foldl_append, List.take_append_drop]
    rw [hu, stepU_none] at this
    rw [this] at h; cases h
  · exact ⟨a, rfl⟩
theorem lowF_vld {n d : Int} {r : Int × Int} (h : lowF n d = some r) : vld r.1 r.2 = true := (lowF_some (x := r.1) (y := r.2) h).1
theorem mulF_vld {a b c d : Int} {r : Int × Int} (h : mulF a b c d = some r) : vld r.1 r.2 = true := by
  unfold mulF at h
  dsimp only at h
  split at h
  · cases h
  · exact lowF_vld h
theorem usesF_vld : ∀ (es : List ((Int × Int) × Int)) (acc r : Int × Int), vld acc.1 acc.2 = true → es.foldl stepU (some acc) = some r → vld r.1 r.2 = true
  | [], acc, r, hv, h => by simp at h; subst h; exact hv
  | e :: es, acc, r, hv, h => by
    rw [List.foldl_cons] at h
    rcases hs : stepU (some acc) e with _ | a
    · rw [hs, stepU_none] at h; cases h
    · rw [hs] at h
      refine usesF_vld es a r ?_ h
      unfold stepU at hs
      split at hs
      · exact lowF_vld hs
      · cases hs

/-- a slice value that holds fractions -/
def FrA (W : World) (v : Value) (es : List (Int × Int)) : Prop :=
  ∃ A c, v = .slice A es.length c ∧ es.length ≤ c ∧ c ≤ 9223372036854775807 ∧ (0 < es.length → ∃ g, A = some ⟨g, 0, none⟩ ∧ ∀ j u, (fl2 es)[j]? = some u → W.cell? ⟨g, j, none⟩ = some u)
theorem FrA.kept {W W' : World} {v : Value} {es : List (Int × Int)} (h : FrA W v es) (hk : Kept W W') : FrA W' v es := by
  obtain ⟨A, c, rfl, h1, h2, h3⟩ := h
  exact ⟨A, c, rfl, h1, h2, fun hn => by
    obtain ⟨g, e, hc⟩ := h3 hn
    exact ⟨g, e, fun j u hu => (hk.cells _ _ (cell_lt (hc j u hu))).trans (hc j u hu)⟩⟩
theorem FrA.of_own {w : World} {base : Nat} {t : TypeId} {v : Value} {es : List (Int × Int)} (h : w.ownsRow base t 2 v es.length (fl2 es)) : FrA w v es := by
  rcases own_form h with ⟨rfl, h0⟩ | ⟨g, c, rfl, h1, h2, h3, h4⟩
  · exact ⟨none, 0, by rw [h0], by omega, by omega, fun hn => by omega⟩
  · refine ⟨_, c, rfl, h1, by simpa [maxLen] using h2, fun _ => ⟨g, rfl, fun j u hu => ?_⟩⟩
    have hj : j < es.length * 2 := by rw [← fl2_len]; exact (List.getElem?_eq_some_iff.1 hu).1
    rw [h.cellAt j hj]; exact hu
theorem fl2_at {es : List (Int × Int)} {k : Nat} {p : Int × Int} (h : es[k]? = some p) : (fl2 es)[k * 2]? = some (.int .i64 p.1) ∧ (fl2 es)[k * 2 + 1]? = some (.int .i64 p.2) := by
  induction es generalizing k with
  | nil => simp at h
  | cons e es ih =>
    have e0 : fl2 (e :: es) = .int .i64 e.1 :: .int .i64 e.2 :: fl2 es := by simp [fl2]
    rw [e0]
    cases k with
    | zero => simp at h; subst h; simp
    | succ k =>
      have := ih (by simpa using h)
      rw [show (k + 1) * 2 = k * 2 + 1 + 1 by omega]
      simpa using this
theorem SX_of {W W' : World} {b4 t1 g k t7 : Nat} {A : Option Addr} {n c : Nat} {en ed : Int} {num : Int} (h1 : W.cell? ⟨t1, 0, none⟩ = some (.slice A n c)) (h2 : W.cell? ⟨g, k * 2, none⟩ = some (.int .i64 en)) (h3 : W.cell? ⟨g, k * 2 + 1, none⟩ = some (.int .i64 ed)) (h4 : W.cell? ⟨t7, 1, none⟩ = some (.int .i64 num))
    (n1 : t1 ≠ b4) (n2 : g ≠ b4) (n3 : t7 ≠ b4) (h : But b4 W W') : W'.cell? ⟨t1, 0, none⟩ = some (.slice A n c) ∧ W'.cell? ⟨g, k * 2, none⟩ = some (.int .i64 en) ∧ W'.cell? ⟨g, k * 2 + 1, none⟩ = some (.int .i64 ed) ∧ W'.cell? ⟨t7, 1, none⟩ = some (.int .i64 num) ∧ But b4 W W' :=
  ⟨h.cell h1 n1, h.cell h2 n2, h.cell h3 n2, h.cell h4 n3, h⟩
end Go.Proofs.YtcjpecdnenemaaaGreatDoor

namespace Go.Proofs.YtcjpecdnenemaaaGreatDoor
set_option linter.all false
open Go.RowKit Go.Shelf

set_option maxRecDepth 100000 in
set_option maxHeartbeats 3200000 in
theorem exc1_ok (bh be bs : Nat) (B : Option Addr) (hn hc : Nat) (hs : List Hd) (v : Value) (es : List (Int × Int)) (sn sd x y : Int) (w : World) (hB : w.cell? ⟨bh, 0, none⟩ = some (.slice B hn hc)) (hH : HeadsA w B hn hc hs) (hE : w.cell? ⟨be, 0, none⟩ = some v) (hF : FrA w v es) (hlen : es.length = hs.length)
    (hS0 : w.cell? ⟨bs, 0, none⟩ = some (.int .i64 sn)) (hS1 : w.cell? ⟨bs, 1, none⟩ = some (.int .i64 sd)) (hsv : vld sn sd = true) (hev : ∀ p ∈ es, vld p.1 p.2 = true) (hnv : ∀ h ∈ hs, 0 ≤ h.num ∧ h.num ≤ 100000) (h12 : hn ≤ 12)
    (hr : excF (es.zip (hs.map (·.num))) sn sd = some (x, y)) :
    Calls Tryz.prog 128 #[.pointer (some ⟨bh, 0, none⟩), .pointer (some ⟨be, 0, none⟩), .pointer (some ⟨bs, 0, none⟩)] w fun e w' => e = .returned (.agg #[.int .i64 x, .int .i64 y]) ∧ Kept w w' := by
  have hmf : ∀ (fn : Fn) (first cap : Array Value) (w : World), (Instr.makeFunc fn first cap).run Tryz.prog w = .ok (.func fn first cap) w := fun _ _ _ _ => rfl
  obtain ⟨r, hu, hlow⟩ : ∃ r, usesF (es.zip (hs.map (·.num))) = some r ∧ lowF (r.1 * sd + -sn * r.2) (r.2 * sd) = some (x, y) := by
    unfold excF at hr
    split at hr
    · rename_i a ha; exact ⟨a, ha, hr⟩
    · cases hr
  obtain ⟨A, c, rfl, hac, hcm, hfc⟩ := hF
  have HB := Lib.hid hB
  have HH := Lib.hid hH
  have HE := Lib.hid hE
  have HF := Lib.hid hfc
  have HLn := Lib.hid hlen
  have HS0 := Lib.hid hS0
  have HS1 := Lib.hid hS1
  have HU := Lib.hid hu
  have HLow := Lib.hid hlow
  have HSV := Lib.hid hsv
  have HEV := Lib.hid hev
  have HNV := Lib.hid hnv
  have lh := cell_lt hB
  have le := cell_lt hE
  have ls := cell_lt hS0
  have hnc := hH.2.1
  have hcm2 := hH.2.2.1
  clear hB hH hE hfc hlen hS0 hS1 hu hlow hr hsv hev hnv
  go_enter Tryz.func128, Tryz.ntmps128
  go_wp2_with fail
  refine (whole_any 0 _).mono ?_
  rintro e w1 ⟨rfl, hk1⟩
  have k1 : Kept w w1 := ((Kept.refl _).alloc _).trans hk1
  have R4 := RowC.new w1 [.int .i64 0, .int .i64 1] 92
  have R3 := ((RowC.new w [.int .i64 0, .int .i64 0] 92).kept hk1).kept ((Kept.refl _).alloc (.cells #[.int .i64 0, .int .i64 1] 92))
  have H4 := Lib.hid R4
  have H3 := Lib.hid R3
  have g1 := (k1.cells _ _ lh).trans HB.out
  have hz1 := k1.size
  have lh1 : bh < w1.heap.size := by omega
  have hz1' : w.heap.size < w1.heap.size := by have := hk1.size; simp at this; omega
  clear R4 R3
  go_wp2
  go_loopw [12] (fun i wr => ∃ (k : Nat) (a b : Int), k ≤ hn ∧ i = .int .i64 k ∧ usesF ((es.zip (hs.map (·.num))).take k) = some (a, b) ∧ RowC wr w1.heap.size [.int .i64 a, .int .i64 b] ∧ RowC wr w.heap.size [.int .i64 0, .int .i64 0] ∧ Kept w wr ∧ w1.heap.size < wr.heap.size) (fun i _ => hn - (intOf i).toNat)
  case atStart => exact ⟨0, 0, 1, by omega, by first | rfl | go_num, rfl, H4.out, H3.out, k1.alloc _, by simp⟩
  case round =>
    obtain ⟨k, a, b, hk, rfl, hu, hr4, hr3, hkr, hzr⟩ := hrel
    have HUk := Lib.hid hu
    have H4 := Lib.hid hr4
    have H3 := Lib.hid hr3
    clear hu hr4 hr3
    have q1 := (hkr.cells _ _ le).trans HE.out
    have hler : be < wr.heap.size := by omega
    by_cases hlt : k < hn
    · obtain ⟨bb, off, hB, hcc⟩ := HH.out.2.2.2.2 (by omega)
      subst hB
      have hxl : k < hs.length := by rw [HH.out.1]; exact hlt
      obtain ⟨hd, hhd⟩ : ∃ hd, hs[k]? = some hd := ⟨hs[k]'hxl, List.getElem?_eq_getElem hxl⟩
      obtain ⟨p, hp⟩ : ∃ p, es[k]? = some p := ⟨_, List.getElem?_eq_getElem (by rw [HLn.out]; exact hxl)⟩
      obtain ⟨g, hA, hfl⟩ := HF.out (by rw [HLn.out]; omega)
      subst hA
      have f0 := hfl _ _ (fl2_at hp).1
      have f1 := hfl _ _ (fl2_at hp).2
      have lg := cell_lt f0
      have v0 := (hkr.cells _ _ lg).trans f0
      have v1 := (hkr.cells _ _ lg).trans f1
      have q0 := (hkr.cells _ _ (cell_lt (hcc k hd hhd).1)).trans (hcc k hd hhd).1
      have q2 := (hkr.cells _ _ (cell_lt (hcc k hd hhd).2)).trans (hcc k hd hhd).2
      have hpv := vld_bd (HEV.out p (List.mem_of_getElem? hp))
      obtain ⟨n0, n1⟩ := HNV.out hd (List.mem_of_getElem? hhd)
      have hzip : (es.zip (hs.map (·.num)))[k]? = some (p, hd.num) := by
        rw [List.getElem?_zip_eq_some]
        exact ⟨hp, by rw [List.getElem?_map, hhd]; rfl⟩
      obtain ⟨r2, hr2⟩ := usesF_take HU.out (k + 1)
      have hst : stepU (some (a, b)) (p, hd.num) = some r2 := by rw [← hr2, take_snoc' hzip, usesF_snoc, HUk.out]
      obtain ⟨m, hm, hadd⟩ : ∃ m, mulF p.1 p.2 hd.num 1 = some m ∧ lowF (a * m.2 + m.1 * b) (b * m.2) = some r2 := by
        unfold stepU at hst
        dsimp only at hst
        split at hst
        · rename_i m hm; exact ⟨m, hm, hst⟩
        · cases hst
      have hmv := vld_bd (mulF_vld hm)
      have hav := vld_bd (usesF_vld _ (0, 1) (a, b) (by decide) HUk.out)
      have HR2 := Lib.hid hr2
      have T1 : RowKit.Hid (∀ W, Calls Tryz.prog 96 #[.agg #[.int .i64 p.1, .int .i64 p.2], .agg #[.int .i64 hd.num, .int .i64 1]] W fun e w' => e = .returned (.agg #[.int .i64 m.1, .int .i64 m.2]) ∧ Kept W w') := Lib.hid (fun W => times_some _ _ _ _ _ _ hpv ⟨by omega, by omega⟩ hm W)
      have T2 : RowKit.Hid (∀ W, RowC W w1.heap.size [.int .i64 a, .int .i64 b] → Calls Tryz.prog 101 #[.pointer (some ⟨w1.heap.size, 0, none⟩), .agg #[.int .i64 m.1, .int .i64 m.2]] W fun e w' => e = .returned (.tuple #[]) ∧ But w1.heap.size W w' ∧ RowC w' w1.heap.size [.int .i64 r2.1, .int .i64 r2.2]) := Lib.hid (fun W hW => take_ok _ _ _ _ _ _ _ hav hmv hadd W hW)
      clear hfl hcc hhd hp f0 f1 hpv hzip hr2 hst hm hadd hmv hav
      obtain ⟨Wh, hWh⟩ : ∃ Wh : World, Wh = wr.alloc (.cells #[.string hd.sort, .int .i64 hd.num] 84) := ⟨_, rfl⟩
      have kh : Kept wr Wh := by rw [hWh]; exact (Kept.refl _).alloc _
      have s1 := (kh.cells _ _ hler).trans q1
      have s2 := (kh.cells _ _ (cell_lt v0)).trans v0
      have s3 := (kh.cells _ _ (cell_lt v1)).trans v1
      have s4 : Wh.cell? ⟨wr.heap.size, 1, none⟩ = some (.int .i64 hd.num) := by rw [hWh]; exact (RowC.new wr [.string hd.sort, .int .i64 hd.num] 84 1 _ rfl).1
      have S1 := Lib.hid s1
      have S2 := Lib.hid s2
      have S3 := Lib.hid s3
      have S4 := Lib.hid s4
      have HWh := Lib.hid hWh
      have KH := Lib.hid kh
      have H4h := Lib.hid (H4.out.kept kh)
      clear s1 s2 s3 s4 hWh kh v0 v1
      go_wp2_with fail
      rw [← HWh.out]
      have i0 : (0 : Int) ≤ (k : Int) := by omega
      have i1 : (k : Int) < (es.length : Int) := by have := HLn.out; omega
      have it : (k : Int).toNat = k := by omega
      have nb1 : be ≠ w1.heap.size := by omega
      have nb2 : g ≠ w1.heap.size := by omega
      have nb3 : wr.heap.size ≠ w1.heap.size := by omega
      have NB := Lib.hid (And.intro nb1 (And.intro nb2 nb3))
      clear nb1 nb2 nb3
      go_region_held3 (fun w' => w'.cell? ⟨be, 0, none⟩ = some (.slice (some ⟨g, 0, none⟩) es.length c) ∧ w'.cell? ⟨g, k * 2, none⟩ = some (.int .i64 p.1) ∧ w'.cell? ⟨g, k * 2 + 1, none⟩ = some (.int .i64 p.2) ∧ w'.cell? ⟨wr.heap.size, 1, none⟩ = some (.int .i64 hd.num) ∧ But w1.heap.size Wh w')
        (first
          | exact SX_of S1.out S2.out S3.out S4.out NB.out.1 NB.out.2.1 NB.out.2.2 (But.of_kept ((Kept.refl _).drew))
          | exact SX_of S1.out S2.out S3.out S4.out NB.out.1 NB.out.2.1 NB.out.2.2 (But.of_kept (((Kept.refl _).drew).trans hka))
          | exact SX_of S1.out S2.out S3.out S4.out NB.out.1 NB.out.2.1 NB.out.2.2 (But.of_kept ((((Kept.refl _).drew).trans hka).trans hkb))
          | exact SX_of S1.out S2.out S3.out S4.out NB.out.1 NB.out.2.1 NB.out.2.2 (But.trans (But.of_kept ((((Kept.refl _).drew).trans hka).trans hkb)) hbt)
          | fail)
        (first
          | (go_at_call 100; refine (whole_any _ _).mono ?_; rintro e wa ⟨rfl, hka⟩)
          | (go_at_call 96; refine (T1.out _).mono ?_; rintro e wb ⟨rfl, hkb⟩)
          | (go_at_call 101; refine (T2.out _ (by exact H4h.out.kept ((((Kept.refl _).drew).trans hka).trans hkb))).mono ?_; rintro e wt ⟨rfl, hbt, hrow⟩)
          | fail)
      have kb : Kept w Wh := hkr.trans KH.out
      go_wp2
      go_roundw
      case rel =>
        have hbw : But w1.heap.size Wh wt := But.trans (But.of_kept ((((Kept.refl _).drew).trans hka).trans hkb)) hbt
        refine ⟨k + 1, r2.1, r2.2, by omega, by go_num, HR2.out, hrow, hbw.row (H3.out.kept KH.out) (by omega), kb.but hbw (by omega), ?_⟩
        have := hbw.size
        have := KH.out.size
        omega
      case measure => simp [intOf]; omega
    · obtain rfl : k = hn := by omega
      have hz : (es.zip (hs.map (·.num))).length = k := by rw [List.length_zip, List.length_map, HLn.out, HH.out.1]; omega
      have hu2 := HUk.out
      rw [List.take_of_length_le (by rw [hz]; exact Nat.le_refl _), HU.out] at hu2
      obtain rfl : r = (a, b) := by simpa using hu2
      have hav := vld_bd (usesF_vld _ (0, 1) (a, b) (by decide) HU.out)
      have hsb := vld_bd HSV.out
      have hlow := HLow.out
      dsimp only at hlow
      have T3 : RowKit.Hid (∀ W, Calls Tryz.prog 95 #[.agg #[.int .i64 a, .int .i64 b], .agg #[.int .i64 sn, .int .i64 sd]] W fun e w' => e = .returned (.agg #[.int .i64 x, .int .i64 y]) ∧ Kept W w') := Lib.hid (fun W => minus_some _ _ _ _ _ _ hav hsb hlow W)
      have u0 := (H4.out 0 _ rfl).1
      have u1 := (H4.out 1 _ rfl).1
      have v0 := (hkr.cells _ _ ls).trans HS0.out
      have v1 := (hkr.cells _ _ ls).trans HS1.out
      have lu := cell_lt u0
      have lv := cell_lt v0
      clear hz hu2 hav hsb hlow
      go_wp2_with fail
      refine (T3.out _).mono ?_
      rintro e w5 ⟨rfl, hk5⟩
      have R3 := H3.out.kept hk5
      have e0 := (R3 0 _ rfl).1
      have e1 := (R3 1 _ rfl).1
      have z0 := (R3 0 _ rfl).2
      have z1 := (R3 1 _ rfl).2
      clear R3
      go_wp2
      refine bodyPost_ret (v := .agg #[.int .i64 x, .int .i64 y]) (by simp [results, Tryz.results128, go_sem, e0, e1]) rfl ⟨rfl, ?_⟩
      exact ((hkr.trans hk5).setCell (Nat.le_refl _) _).setCell (Nat.le_refl _) _
end Go.Proofs.YtcjpecdnenemaaaGreatDoor

namespace Go.Proofs.YtcjpecdnenemaaaGreatDoor
set_option linter.all false
open Go.RowKit Go.Shelf

theorem each_ok {xs : List Eqv} {hs : List Hd} {sn sd day known : Int} (h : eachE xs hs sn sd day known = 0) : (chkS xs).2 = 0 ∧ areS hs = true ∧ vld sn sd = true ∧ eachB xs hs day known = true := by
  unfold eachE at h
  by_cases h1 : (chkS xs).2 = 0
  · rw [if_pos h1] at h
    by_cases h2 : (areS hs && vld sn sd) = true
    · rw [if_pos h2] at h
      simp only [Bool.and_eq_true] at h2
      by_cases h3 : eachB xs hs day known = true
      · exact ⟨h1, h2.1, h2.2, h3⟩
      · rw [if_neg h3] at h; cases h
    · rw [if_neg h2] at h; cases h
  · rw [if_neg h1] at h; exact absurd h h1
theorem eachL_vld {xs : List Eqv} {hs : List Hd} {day known : Int} (hc : (chkS xs).2 = 0) (hb : eachB xs hs day known = true) : ∀ p ∈ eachL xs hs day known, vld p.1 p.2 = true ∧ 0 < p.1 := by
  intro p hp
  unfold eachL at hp
  rw [List.mem_map] at hp
  obtain ⟨h, hh, rfl⟩ := hp
  unfold eachB at hb
  rw [List.all_eq_true] at hb
  have := hb h hh
  rw [Option.isSome_iff_exists] at this
  obtain ⟨r, hr⟩ := this
  have ho := inForce_ok hc hr
  unfold stS
  rw [hr]
  exact ⟨ho.1, ho.2.1⟩
theorem areS_ok {hs : List Hd} (h : areS hs = true) : hs.length ≤ 12 ∧ ∀ x ∈ hs, nameB x.sort = true ∧ 0 ≤ x.num ∧ x.num ≤ 100000 := by
  unfold areS at h
  simp only [Bool.and_eq_true, decide_eq_true_eq] at h
  refine ⟨h.1, fun x hx => ?_⟩
  obtain ⟨i, hi⟩ := List.getElem?_of_mem hx
  have h2 := h.2
  unfold areL at h2
  rw [List.all_eq_true] at h2
  have := h2 i (by have := (List.getElem?_eq_some_iff.1 hi).1; simpa using this)
  rw [hi] at this
  unfold headB at this
  simp only [Bool.and_eq_true] at this
  exact ⟨this.1.1, inB_iff.1 this.1.2⟩

theorem e128 : ∀ args w, (callFunc 128 args).run Tryz.prog w = .ok (.enter 128 args) w := enters_of Tryz.func128 (by kernel_rfl) rfl
set_option maxRecDepth 100000 in
set_option maxHeartbeats 1600000 in
theorem excess_ok (A : Option Addr) (n c : Nat) (xs : List Eqv) (B : Option Addr) (hn hc : Nat) (hs : List Hd) (sn sd day known x y : Int) (w : World) (hT : TabA w A n c xs) (hlt : n ≤ 1000000) (hH : HeadsA w B hn hc hs)
    (he : eachE xs hs sn sd day known = 0) (hr : excF ((eachL xs hs day known).zip (hs.map (·.num))) sn sd = some (x, y)) :
    Calls Tryz.prog 61 #[.slice A n c, .slice B hn hc, .agg #[.int .i64 sn, .int .i64 sd], .int .i64 day, .int .i64 known] w fun e w' => e = .returned (.tuple #[.agg #[.int .i64 x, .int .i64 y], .int .i64 0]) ∧ Kept w w' := by
  obtain ⟨hchk, hare, hvld, hall⟩ := each_ok he
  have hev := eachL_vld hchk hall
  obtain ⟨h12, hnv⟩ := areS_ok hare
  have hlen : (eachL xs hs day known).length = hs.length := by simp [eachL]
  have hmf : ∀ (fn : Fn) (first cap : Array Value) (w : World), (Instr.makeFunc fn first cap).run Tryz.prog w = .ok (.func fn first cap) w := fun _ _ _ _ => rfl
  obtain ⟨W0, hW0⟩ : ∃ W0 : World, W0 = ((w.alloc (.cells #[.slice B hn hc] 61)).alloc (.cells #[.int .i64 sn, .int .i64 sd] 23)).alloc (.cells #[.int .i64 0, .int .i64 0] 23) := ⟨_, rfl⟩
  have K0 : Kept w W0 := by rw [hW0]; exact (((Kept.refl w).alloc _).alloc _).alloc _
  have r1 : RowC W0 w.heap.size [.slice B hn hc] := by rw [hW0]; exact ((RowC.new w [.slice B hn hc] 61).kept ((Kept.refl _).alloc _)).kept ((Kept.refl _).alloc _)
  have r2 : RowC W0 (w.heap.size + 1) [.int .i64 sn, .int .i64 sd] := by
    have := RowC.new (w.alloc (.cells #[.slice B hn hc] 61)) [.int .i64 sn, .int .i64 sd] 23
    rw [World.size_alloc] at this
    rw [hW0]; exact this.kept ((Kept.refl _).alloc _)
  have r3 : RowC W0 (w.heap.size + 1 + 1) [.int .i64 0, .int .i64 0] := by
    have := RowC.new ((w.alloc (.cells #[.slice B hn hc] 61)).alloc (.cells #[.int .i64 sn, .int .i64 sd] 23)) [.int .i64 0, .int .i64 0] 23
    rw [World.size_alloc, World.size_alloc] at this
    rw [hW0]; exact this
  have z0 : W0.heap.size = w.heap.size + 1 + 1 + 1 := by rw [hW0]; simp
  have HW0 := Lib.hid hW0
  have R1 := Lib.hid r1
  have R2 := Lib.hid r2
  have R3 := Lib.hid r3
  have Z0 := Lib.hid z0
  have HEa : RowKit.Hid (Calls Tryz.prog 127 #[.slice A n c, .slice B hn hc, .agg #[.int .i64 sn, .int .i64 sd], .int .i64 day, .int .i64 known] W0 fun e w' => ∃ v, (e = .returned (.tuple #[v, .int .i64 0]) ∧ w'.ownsRow W0.heap.size 92 2 v hs.length (fl2 (eachL xs hs day known))) ∧ Kept W0 w') := Lib.hid ((eachOf_any A n c xs B hn hc hs sn sd day known W0 (hT.kept K0) hlt (hH.kept K0)).mono (fun e w' h => by
    rcases h with ⟨⟨h1, _⟩ | ⟨_, v, h2, h3⟩, h4⟩
    · exact absurd he h1
    · exact ⟨v, ⟨h2, h3⟩, h4⟩))
  have HX : RowKit.Hid (∀ (be : Nat) (v : Value) (W : World), Kept W0 W → W.cell? ⟨be, 0, none⟩ = some v → FrA W v (eachL xs hs day known) → Calls Tryz.prog 128 #[.pointer (some ⟨w.heap.size, 0, none⟩), .pointer (some ⟨be, 0, none⟩), .pointer (some ⟨w.heap.size + 1, 0, none⟩)] W fun e w' => e = .returned (.agg #[.int .i64 x, .int .i64 y]) ∧ Kept W w') := Lib.hid (fun be v W hk hv hf =>
    exc1_ok w.heap.size be (w.heap.size + 1) B hn hc hs v (eachL xs hs day known) sn sd x y W (r1.kept hk 0 _ rfl).1 ((hH.kept K0).kept hk) hv hf hlen (r2.kept hk 0 _ rfl).1 (r2.kept hk 1 _ rfl).1 hvld (fun p hp => (hev p hp).1) (fun h hh => (hnv h hh).2) (by rw [← hH.1]; exact h12) hr)
  have b1 := (r1 0 _ rfl).1
  have b2 := (r2 0 _ rfl).1
  have b3 := (r2 1 _ rfl).1
  clear hW0 r1 r2 r3 z0 hT hH he hr hchk hare hvld hall hev h12 hnv hlen
  have g128 := e128
  go_enter Tryz.func61, Tryz.ntmps61
  go_wp2_with fail
  rw [← HW0.out]
  refine HEa.out.mono ?_
  rintro e w1 ⟨v, ⟨rfl, hown⟩, hk1⟩
  have hv := FrA.of_own (es := eachL xs hs day known) (by rw [show (eachL xs hs day known).length = hs.length by simp [eachL]]; exact hown)
  have HV := Lib.hid hv
  clear hown
  obtain ⟨A', c', rfl, _⟩ := hv
  have NB := RowC.new w1 [.slice A' (eachL xs hs day known).length c'] 127
  have HNB := Lib.hid NB
  have kw1 : Kept W0 (w1.alloc (.cells #[.slice A' (eachL xs hs day known).length c'] 127)) := hk1.alloc _
  have HK1 := Lib.hid kw1
  have hz := hk1.size
  have hz0 := Z0.out
  have hwl : w.heap.size < w1.heap.size := by omega
  clear NB kw1 hz hz0 b1 b2 b3
  go_wp2_with fail
  refine (reckon_ok 128 _ x y _ e128 (fun W hW => HX.out w1.heap.size _ W (HK1.out.trans hW) (HNB.out.kept hW 0 _ rfl).1 ((HV.out.kept ((Kept.refl _).alloc _)).kept hW))).mono ?_
  rintro e w2 ⟨rfl, hk2⟩
  have RR := (R3.out.kept HK1.out).kept hk2
  have e0 := (RR 0 _ rfl).1
  have e1 := (RR 1 _ rfl).1
  have y0 := (RR 0 _ rfl).2
  have y1 := (RR 1 _ rfl).2
  clear RR
  go_wp2
  refine bodyPost_ret (v := .tuple #[.agg #[.int .i64 x, .int .i64 y], .int .i64 0]) (by simp [results, Tryz.results61, go_sem, e0, e1]) rfl ⟨rfl, ?_⟩
  exact (((K0.trans HK1.out).trans hk2).setCell (by simp; omega) _).setCell (by simp; omega) _

theorem whole0_vld : vld 0 1 = true := by decide
set_option maxRecDepth 100000 in
set_option maxHeartbeats 1600000 in
theorem uses_ok (A : Option Addr) (n c : Nat) (xs : List Eqv) (B : Option Addr) (hn hc : Nat) (hs : List Hd) (day known x y : Int) (w : World) (hT : TabA w A n c xs) (hlt : n ≤ 1000000) (hH : HeadsA w B hn hc hs)
    (he : eachE xs hs 0 1 day known = 0) (hr : excF ((eachL xs hs day known).zip (hs.map (·.num))) 0 1 = some (x, y)) :
    Calls Tryz.prog 59 #[.slice A n c, .slice B hn hc, .int .i64 day, .int .i64 known] w fun e w' => e = .returned (.tuple #[.agg #[.int .i64 x, .int .i64 y], .int .i64 0]) ∧ Kept w w' := by
  have HT := Lib.hid hT
  have HH := Lib.hid hH
  have HX : RowKit.Hid (∀ W, Kept w W → Calls Tryz.prog 61 #[.slice A n c, .slice B hn hc, .agg #[.int .i64 0, .int .i64 1], .int .i64 day, .int .i64 known] W fun e w' => e = .returned (.tuple #[.agg #[.int .i64 x, .int .i64 y], .int .i64 0]) ∧ Kept W w') := Lib.hid (fun W hW => excess_ok A n c xs B hn hc hs 0 1 day known x y W (hT.kept hW) hlt (hH.kept hW) he hr)
  have R0 := Lib.hid (RowC.new w [.int .i64 0, .int .i64 0] 23)
  clear hT hH he hr
  go_enter Tryz.func59, Tryz.ntmps59
  go_wp2_with fail
  refine (whole_any 0 _).mono ?_
  rintro e w1 ⟨rfl, hk1⟩
  go_wp2_with fail
  refine (HX.out _ (((Kept.refl _).alloc _).trans hk1)).mono ?_
  rintro e w2 ⟨rfl, hk2⟩
  have RR := (R0.out.kept hk1).kept hk2
  have e0 := (RR 0 _ rfl).1
  have e1 := (RR 1 _ rfl).1
  have y0 := (RR 0 _ rfl).2
  have y1 := (RR 1 _ rfl).2
  clear RR
  go_wp2
  refine bodyPost_ret (v := .tuple #[.agg #[.int .i64 x, .int .i64 y], .int .i64 0]) (by simp [results, Tryz.results59, go_sem, e0, e1]) rfl ⟨rfl, ?_⟩
  exact (((((Kept.refl _).alloc _).trans hk1).trans hk2).setCell (Nat.le_refl _) _).setCell (Nat.le_refl _) _
end Go.Proofs.YtcjpecdnenemaaaGreatDoor
