/- readNumbers -/
import Derived.Test.YtdeokdlkjgpffaaGreatDoorXc
import Derived.Lib.AtoiAllCases
namespace Go.Proofs.YtdeokdlkjgpffaaGreatDoor
set_option linter.all false
open Go.RowKit Go.Shelf
attribute [local go_sem] Oper.semAt_some

theorem atoiV_bounds (l : List UInt8) : -9223372036854775808 ≤ atoiV l ∧ atoiV l ≤ 9223372036854775807 := by
  unfold atoiV
  split
  · exact Lib.atoiAll_bounds (by assumption)
  · exact Lib.atoiSat_bounds l
  · omega
/-- the numbers that some words give -/
def valsS (ss : List ByteArray) : List Int := ss.map (fun s => atoiV s.data.toList)
theorem valsS_b (ss : List ByteArray) : i64B (valsS ss) := by
  intro x hx
  obtain ⟨s, _, rfl⟩ := List.mem_map.1 hx
  exact atoiV_bounds _
theorem info3N : (Tryz.prog.info? 3).map (fun i => (i.zero, i.size, i.bytes)) = some (some (.int .i64 0), 1, 8) := by kernel_rfl
def intC (x : Int) : List Value := [.int .i64 x]
theorem intC_len (x : Int) : (intC x).length = 1 := rfl
theorem int_one (x : Int) : ∀ u ∈ intC x, u.oneCell' = true := by intro u hu; simp [intC] at hu; subst hu; rfl
theorem sli_ints {w : World} {A : Option Addr} {n c : Nat} {xs : List Int} (h : SliK 1 intC w A n c xs) : IntA w A n c xs :=
  ⟨h.1, h.2.1, h.2.2.1, fun hn => by
    obtain ⟨b, off, e, ht⟩ := h.2.2.2 hn
    exact ⟨b, off, e, fun i x hx => by have := ht i x hx 0 _ rfl; simpa using this⟩⟩
theorem own_fresh {w : World} {base n c : Nat} {e : TypeId} {s : Nat} {a : Addr} {ys : List Value} (h : w.ownsRow base e s (.slice (some a) n c) n ys) : base ≤ a.block := by
  rcases h.2 with ⟨h1, _⟩ | ⟨g, cap, cur, h1, hb, _⟩
  · cases h1
  · cases h1; exact hb
/-- what readNumbers gives -/
def readN (line : ByteArray) (size : Nat) : List Int × Bool :=
  if (wordsB line).length = size then (valsS (wordsB line), (numsB (valsS (wordsB line))).toList == line.toList) else ([], false)
def ReadNums (w : World) (line : ByteArray) (size : Nat) (e : Ending) (w' : World) : Prop :=
  ∃ A n c, e = .returned (.tuple #[.slice A n c, .bool (readN line size).2]) ∧ IntA w' A n c (readN line size).1 ∧ (∀ a, A = some a → w.heap.size ≤ a.block) ∧ Kept w w'

set_option maxRecDepth 100000 in
set_option maxHeartbeats 4000000 in
theorem readNumbers_any (line : ByteArray) (size : Nat) (hl : line.size ≤ 1000000) (hs : size ≤ 1000) (w : World) (hE : Env w) :
    Calls Tryz.prog 28 #[.string line, .int .i64 size] w (ReadNums w line size) := by
  obtain ⟨ss, hss⟩ : ∃ ss, ss = wordsB line := ⟨_, rfl⟩
  obtain ⟨W1, hW1⟩ : ∃ W1, W1 = w.alloc (.cells (ss.map Value.string).toArray 9) := ⟨_, rfl⟩
  have K1 : RowKit.Hid (Kept w W1) := Lib.hid (by rw [hW1]; exact (Kept.refl _).alloc _)
  have R1 : RowKit.Hid (RowC W1 w.heap.size (ss.map Value.string)) := Lib.hid (by rw [hW1]; exact RowC.new w (ss.map Value.string) 9)
  have Z1 : RowKit.Hid (W1.heap.size = w.heap.size + 1) := Lib.hid (by rw [hW1]; simp)
  have HS : RowKit.Hid (Calls Tryz.prog 53 #[.string line, .string ⟨#[32]⟩] w fun e w' => e = .returned (.slice (some ⟨w.heap.size, 0, none⟩) ss.length ss.length) ∧ w' = W1) := Lib.hid (by rw [hW1, hss]; exact split_any line hl w hE)
  have HE1 := Lib.hid (hE.kept K1.out)
  have HSZ : RowKit.Hid (∀ s ∈ ss, s.size ≤ 1000000) := Lib.hid (by rw [hss]; exact fun s h => Nat.le_trans (words_size line s h) hl)
  have HR : RowKit.Hid (readN line size = if ss.length = size then (valsS ss, (numsB (valsS ss)).toList == line.toList) else ([], false)) := Lib.hid (by rw [hss]; rfl)
  obtain ⟨n, hn⟩ : ∃ n, n = ss.length := ⟨_, rfl⟩
  rw [← hn] at HS
  have HN := Lib.hid hn
  have HLN : RowKit.Hid (n ≤ 1000001) := Lib.hid (by have := words_len line; rw [← hss, ← hn] at this; have h2 := Lib.countB_le spaceB (by decide) line.size line (Nat.le_refl _); omega)
  clear hW1 hss hE hn
  obtain ⟨i0, hnf, hz0, hz1, hz2⟩ := info_parts info3N
  by_cases hz : n = size
  · subst hz
    go_enter Tryz.func28, Tryz.ntmps28
    go_wp2_with fail
    refine HS.out.mono ?_
    rintro e w5 ⟨rfl, rfl⟩
    go_wp2_with fail
    go_loopw [7, 20] (fun v i wr => ∃ k : Nat, k ≤ n ∧ i = .int .i64 k ∧ Kept w5 wr ∧ wr.ownsRow w5.heap.size 3 1 v k ((valsS (ss.take k)).flatMap intC)) (fun _ i _ => n - (intOf i).toNat)
    case atStart => exact ⟨0, by omega, by first | rfl | go_num, Kept.refl _, World.ownsRow_nil _ _ _ _⟩
    case round =>
      obtain ⟨k, hk, rfl, hkr, hown⟩ := hrel
      have HOWN := Lib.hid hown
      have HKR := Lib.hid hkr
      have hzr := hkr.size
      clear hown
      by_cases hlt2 : k < n
      · obtain ⟨s, hsk⟩ : ∃ s, ss[k]? = some s := ⟨ss[k]'(by rw [← HN.out]; exact hlt2), List.getElem?_eq_getElem (by rw [← HN.out]; exact hlt2)⟩
        have p0 := ((R1.out.kept hkr) k (.string s) (by rw [List.getElem?_map, hsk]; rfl)).1
        have lp := cell_lt p0
        have hsb := HSZ.out s (List.mem_of_getElem? hsk)
        have HI : RowKit.Hid (∀ W, Kept wr W → Calls Tryz.prog 54 #[.string s] W (AtoiRes s W)) := Lib.hid (fun W hW => atoi_any s hsb W ((HE1.out.kept HKR.out).kept hW))
        obtain ⟨x, hx⟩ : ∃ x, x = atoiV s.data.toList := ⟨_, rfl⟩
        have HSN : RowKit.Hid ((valsS (ss.take (k + 1))).flatMap intC = (valsS (ss.take k)).flatMap intC ++ intC x) := Lib.hid (by rw [take_snoc' hsk, hx]; simp [valsS])
        unfold AtoiRes at HI
        rw [← hx] at HI
        have hi0 : (0 : Int) ≤ (k : Int) := by omega
        have hi1 : (k : Int) < (n : Int) := by omega
        have HA3 : RowKit.Hid (k + 1 ≤ maxLen) := Lib.hid (by unfold maxLen; omega)
        have HA4 : RowKit.Hid ((k + 1) * 8 ≤ 140737488355328) := Lib.hid (by omega)
        clear hsk hsb hkr hx
        go_wp2_with fail
        refine (HI.out _ (Kept.refl _)).mono ?_
        rintro e w9 ⟨v9, rfl, hk9⟩
        have HK9 := Lib.hid hk9
        have HO9 := Lib.hid (own_kept HOWN.out (hk9.alloc (.cells #[.int .i64 x] 3)))
        have HN9 := Lib.hid (show ∀ j u, (intC x)[j]? = some u → (w9.alloc (.cells #[.int .i64 x] 3)).cell? ((⟨w9.heap.size, 0, none⟩ : Addr).add j) = some u from World.news_of_block (heap_alloc_new w9 _))
        have HZ := Lib.hid (HKR.out.trans (hk9.alloc (.cells #[.int .i64 x] 3))).size
        clear hk9 p0 lp
        go_wp2_with (at_builtin; refine wpList_append_lies _ rfl (.tmp 29) (.tmp 31) 52 rfl w5.heap.size 3 i0 _ 1 8 Tryz.underlying52 hnf hz0 hz1 hz2 rfl (by decide) _ k _ rfl HO9.out ⟨w9.heap.size, 0, none⟩ 1 1 (intC x) rfl rfl HN9.out (int_one _) (by decide) HA3.out HA4.out HZ.out _ rfl ?_; intro g cap w10 hown10 hgrow10 hat10 hlt10)
        have HO10 := Lib.hid hown10
        have HK10 := Lib.hid ((HKR.out.trans (HK9.out.alloc _)).grown hgrow10 (fun j ej => own_row HOWN.out j ej))
        clear hown10 hgrow10 hat10 hlt10
        go_roundw
        case rel =>
          exact ⟨k + 1, by omega, by go_num, HK10.out, by rw [HSN.out]; exact HO10.out⟩
        case measure => simp [intOf] <;> omega
      · obtain rfl : k = n := by omega
        have hown := HOWN.out
        rw [List.take_of_length_le (by rw [← HN.out]; exact Nat.le_refl _)] at hown
        have HOW := Lib.hid (own_row hown)
        obtain ⟨A7, c7, rfl, hs7⟩ := own_outK intC_len (by decide) hown
        have HS7 := Lib.hid (sli_ints hs7)
        have HF7 : RowKit.Hid (∀ a, A7 = some a → w5.heap.size ≤ a.block) := Lib.hid (fun a ha => by subst ha; exact own_fresh hown)
        have HWr : RowKit.Hid (∀ W, Kept wr W → Calls Tryz.prog 25 #[.slice A7 k c7] W fun e w' => e = .returned (.string (numsB (valsS ss))) ∧ Kept W w') := Lib.hid (fun W hW => writeNumbers_any A7 k c7 (valsS ss) W (HS7.out.kept hW) (valsS_b ss) hs ((HE1.out.kept HKR.out).kept hW))
        clear hown hs7 hkr
        go_wp2_with fail
        refine (HWr.out _ (Kept.refl _)).mono ?_
        rintro e w6 ⟨rfl, hk6⟩
        have K6 := Lib.hid hk6
        clear hk6
        have HRR := HR.out
        rw [if_pos HN.out.symm] at HRR
        have HRD := Lib.hid HRR
        clear HRR
        go_wp2
        go_ret2
        refine ⟨A7, k, c7, by rw [HRD.out]; rfl, by rw [HRD.out]; exact HS7.out.kept K6.out, fun a ha => by have := HF7.out a ha; have := Z1.out; omega, K1.out.trans (HKR.out.trans K6.out)⟩
  · have HRR := HR.out
    rw [if_neg (fun h => hz (HN.out.trans h))] at HRR
    have HRD := Lib.hid HRR
    clear HRR
    have hzb : ((n : Int) == (size : Int)) = false := by simp; omega
    go_enter Tryz.func28, Tryz.ntmps28
    go_wp2_with fail
    refine HS.out.mono ?_
    rintro e w5 ⟨rfl, rfl⟩
    go_wp2
    go_ret2
    exact ⟨none, 0, 0, by rw [HRD.out]; rfl, by rw [HRD.out]; exact IntA.nil _, fun a ha => by simp at ha, K1.out⟩
end Go.Proofs.YtdeokdlkjgpffaaGreatDoor
