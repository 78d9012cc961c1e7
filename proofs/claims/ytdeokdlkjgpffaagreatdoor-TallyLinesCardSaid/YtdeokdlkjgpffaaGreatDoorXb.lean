/- the library's contracts in the words of this program: Itoa, Join, Split, Atoi -/
import Derived.Test.YtdeokdlkjgpffaaGreatDoorXa
import Derived.Test.YtdeokdlkjgpffaaGreatDoorUl
import Derived.Lib.ItoaLen
import Derived.Lib.SplitLaws
import Derived.Lib.AtoiErrMem
import Derived.Laws.Rows
namespace Go.Proofs.YtdeokdlkjgpffaaGreatDoor
set_option linter.all false
open Go.RowKit Go.Shelf

/-- what the walks lean on of the library's variables -/
structure Env (w : World) : Prop where
  mx : ∃ m, w.cell? ⟨3, 0, none⟩ = some (.int .i64 m)
  pow : Lib.TabIs Tryz.prog w "internal/strconv.uint64pow10" .u64 Lib.pow10Tab
  syn : ∃ tp p, w.var? Tryz.prog "strconv.ErrSyntax" = some #[.iface tp p]
  rng : ∃ tp p, w.var? Tryz.prog "strconv.ErrRange" = some #[.iface tp p]
theorem var_kept {w w' : World} {n : String} {cs : Array Value} (hk : Kept w w') (h : w.var? Tryz.prog n = some cs) : w'.var? Tryz.prog n = some cs := by
  unfold World.var? at h ⊢
  rcases hg : Tryz.prog.globalNamed n with _ | g
  · rw [hg] at h; cases h
  · rw [hg] at h
    simp only [Option.bind_some] at h ⊢
    rcases hb : w.heap[g]? with _ | o
    · rw [hb] at h; cases h
    · rw [hk.block g (Array.getElem?_eq_some_iff.1 hb).1]
      exact h
theorem Env.kept {w w' : World} (h : Env w) (hk : Kept w w') : Env w' := by
  obtain ⟨⟨m, hm⟩, hp, ⟨t1, p1, h1⟩, ⟨t2, p2, h2⟩⟩ := h
  exact ⟨⟨m, (hk.cells _ _ (cell_lt hm)).trans hm⟩, var_kept hk hp, ⟨t1, p1, var_kept hk h1⟩, ⟨t2, p2, var_kept hk h2⟩⟩
theorem Kept.grow_ {w w1 : World} (h : Kept w w1) (os : Array Obj) : Kept w (Go.Sort.grow w1 os) :=
  Kept.trans h ⟨rfl, rfl, rfl, by simp [Go.Sort.grow], fun k hk => by simp only [Go.Sort.grow]; rw [Array.getElem?_append_left hk]⟩

def itoaB (n : Int) : ByteArray := ⟨(Lib.itoa n).toArray⟩
theorem itoa_any (n : Int) (h0 : -9223372036854775808 ≤ n) (h1 : n ≤ 9223372036854775807) (w : World) (hE : Env w) :
    Calls Tryz.prog 50 #[.int .i64 n] w fun e w' => e = .returned (.string (itoaB n)) ∧ Kept w w' := by
  refine (Tryz.strconv_Itoa n h0 h1 w hE.pow).mono ?_
  rintro e w' ⟨rfl, k, os, rfl⟩
  exact ⟨rfl, ((Kept.refl w).drewN k).grow_ os⟩
/-- words with blanks between -/
def joinB (l : List ByteArray) : ByteArray := ⟨(Lib.join (l.map (·.data.toList)) [32]).toArray⟩
theorem join_any (bk c : Nat) (xs : List ByteArray) (w : World) (hcells : ∀ (j : Nat) x, xs[j]? = some x → w.cell? ⟨bk, 0 + j, none⟩ = some (.string x)) (hbk : bk < w.heap.size) (hN : xs.length ≤ 1000000) (hcap : xs.length ≤ c) (hlen : (Lib.join (xs.map (·.data.toList)) [32]).length ≤ 140737488355328) :
    Calls Tryz.prog 51 #[.slice (some ⟨bk, 0, none⟩) xs.length c, .string ⟨#[32]⟩] w fun e w' => e = .returned (.string (joinB xs)) ∧ Kept w w' :=
  (Tryz.strings_Join bk 0 c xs ⟨#[32]⟩ w hcells hbk (by omega) hcap (by simpa using hlen)).mono (fun e w' h => ⟨h.1, h.2⟩)
theorem join_none (a : Option Addr) (c : Nat) (w : World) : Calls Tryz.prog 51 #[.slice a 0 c, .string ⟨#[32]⟩] w fun e w' => e = .returned (.string (joinB [])) ∧ Kept w w' :=
  (Tryz.strings_Join_none a c ⟨#[32]⟩ w).mono (fun e w' h => ⟨by rw [h.1]; rfl, by rw [h.2]; exact Kept.refl _⟩)
/-- the number that strconv.Atoi gives, whatever its error -/
def atoiV (s : List UInt8) : Int := match Lib.atoiAll s with | .ok v => v | .range => Lib.atoiSat s | _ => 0
def AtoiRes (s : ByteArray) (w : World) (e : Ending) (w' : World) : Prop := ∃ v, e = .returned (.tuple #[.int .i64 (atoiV s.data.toList), v]) ∧ Kept w w'
theorem atoi_any (s : ByteArray) (hs : s.size ≤ 1000000) (w : World) (hE : Env w) : Calls Tryz.prog 54 #[.string s] w (AtoiRes s w) := by
  rcases h : Lib.atoiAll s.data.toList with v | _ | _
  · refine (Tryz.strconv_Atoi_ok s (by omega) v h w).mono ?_
    rintro e w' ⟨rfl, hw⟩
    refine ⟨_, by rw [show atoiV s.data.toList = v by unfold atoiV; rw [h]], ?_⟩
    rcases hw with rfl | ⟨t, rfl⟩
    · exact Kept.refl _
    · exact Lib.bytesWorld_below w 5 t
  · obtain ⟨tp, p, hv⟩ := hE.syn
    refine (Any.strconv_Atoi_syntax_var Tryz.laysC172 s (by omega) h tp p w hv).mono ?_
    rintro e w' ⟨N, rfl, _, _, hb⟩
    exact ⟨_, by rw [show atoiV s.data.toList = 0 by unfold atoiV; rw [h]], hb⟩
  · obtain ⟨tp, p, hv⟩ := hE.rng
    refine (Tryz.strconv_Atoi_range_var s (by omega) h tp p w hv).mono ?_
    rintro e w' ⟨N, rfl, _, _, hb⟩
    exact ⟨_, by rw [show atoiV s.data.toList = Lib.atoiSat s.data.toList by unfold atoiV; rw [h]], hb⟩
/-- words in memory -/
def Wds (w : World) (bk : Nat) (ss : List ByteArray) : Prop := ∀ i s, ss[i]? = some s → w.cell? ⟨bk, i, none⟩ = some (.string s)
theorem Wds.kept {w w' : World} {bk : Nat} {ss : List ByteArray} (h : Wds w bk ss) (hk : Kept w w') : Wds w' bk ss := fun i s hs => (hk.cells _ _ (cell_lt (h i s hs))).trans (h i s hs)

set_option maxRecDepth 100000 in
def spaceB : ByteArray := ⟨#[32]⟩
/-- the words of a line -/
def wordsB (line : ByteArray) : List ByteArray := Lib.splitB spaceB 0 (Lib.countB line spaceB) line
theorem words_len (line : ByteArray) : (wordsB line).length = Lib.countB line spaceB + 1 := Lib.splitB_all spaceB (by decide) 0 _ line rfl
theorem split_size : ∀ (k : Nat) (s : ByteArray), ∀ x ∈ Lib.splitB spaceB 0 k s, x.size ≤ s.size
  | 0, s => by
    intro x hx
    rw [Lib.splitB_zero] at hx
    simp at hx
    subst hx
    exact Nat.le_refl _
  | k + 1, s => by
    intro x hx
    unfold Lib.splitB at hx
    split at hx
    · simp at hx
      subst hx
      exact Nat.le_refl _
    · rcases List.mem_cons.1 hx with rfl | hx
      · rw [ByteArray.size_extract]; omega
      · have := split_size k _ x hx
        rw [ByteArray.size_extract] at this
        omega
theorem words_size (line : ByteArray) : ∀ x ∈ wordsB line, x.size ≤ line.size := split_size _ line
theorem split_any (line : ByteArray) (hl : line.size ≤ 1000000) (w : World) (hE : Env w) :
    Calls Tryz.prog 53 #[.string line, .string ⟨#[32]⟩] w fun e w' => e = .returned (.slice (some ⟨w.heap.size, 0, none⟩) (wordsB line).length (wordsB line).length) ∧ w' = w.alloc (.cells ((wordsB line).map Value.string).toArray 9) := by
  obtain ⟨m, hm⟩ := hE.mx
  have cS := Tryz.strings_Split line spaceB m w (by omega) hm (by decide)
  have hwl := words_len line
  rw [← hwl, show Lib.splitB spaceB 0 (Lib.countB line spaceB) line = wordsB line from rfl] at cS
  exact cS
end Go.Proofs.YtdeokdlkjgpffaaGreatDoor
