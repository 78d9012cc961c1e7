/- Wrong -/
import Derived.Test.YtdeokdlkjgpffaaGreatDoorUc
import Derived.Test.YtdeokdlkjgpffaaGreatDoorUh
namespace Go.Proofs.YtdeokdlkjgpffaaGreatDoor
set_option linter.all false
open Go.RowKit Go.Shelf
attribute [local go_sem] Oper.semAt_some

/-- a result of numbers, with an error -/
def IdsRes (w : World) (ids : List Int) (er : Int) (e : Ending) (w' : World) : Prop := ∃ A n c, e = .returned (.tuple #[.slice A n c, .int .i64 er]) ∧ IntA w' A n c ids ∧ Kept w w'
def bad (m d : Int) (x : Rcn) : Bool := !(inB x.nu (loW m x.tr) (hiW d x.tr))
def wrL (m d : Int) (l : List Rcn) : List Int := (l.filter (bad m d)).map Rcn.id
theorem wrL_yes {m d : Int} {l : List Rcn} {x : Rcn} (h : bad m d x = true) : wrL m d (l ++ [x]) = wrL m d l ++ [x.id] := by simp [wrL, List.filter_append, h]
theorem wrL_no {m d : Int} {l : List Rcn} {x : Rcn} (h : bad m d x = false) : wrL m d (l ++ [x]) = wrL m d l := by simp [wrL, List.filter_append, h]
theorem wrL_len (m d : Int) (l : List Rcn) : (wrL m d l).length ≤ l.length := by simp [wrL]; exact List.length_filter_le _ _
def wrI (m d : Int) (xs : List Rcn) (sh known : Int) : List Int × Int := if chkI m d xs = 0 then (wrL m d (ofS xs known sh), 0) else ([], chkI m d xs)

/-- Wrong's own variables between two rounds; the round's frame -/
def WI (h B n2 : Nat) (m d : Int) (w : World) (pre : List Rcn) (W : World) : Prop := RowC W h [.int .i64 m, .int .i64 d] ∧ (∃ v, Boxed W B 52 v ∧ W.ownsRow n2 3 1 v (wrL m d pre).length ((wrL m d pre).map (Value.int .i64)) ∧ True) ∧ Below h w W
def WA (h B : Nat) (m d sh known : Int) (A : Option Addr) (n c : Nat) (x : Rcn) (a' : Act) (W : World) : Prop :=
  ∃ Bx, B < Bx ∧ RowC W Bx (rcCells x) ∧ a' = { tmps := #[.agg #[.int .i64 m, .int .i64 d], .slice A n c, .int .i64 sh, .int .i64 known, .pointer (some ⟨h, 0, none⟩), undef, undef, undef, .slice none 0 0, .int .i64 0, .int .i64 0, .pointer (some ⟨B, 0, none⟩), .pointer (some ⟨Bx, 0, none⟩), .agg #[.int .i64 m, .int .i64 d], .slice A n c, .int .i64 0, .int .i64 0, .bool false, undef, .slice A n c, .int .i64 sh, .int .i64 known, .func (.func 64) #[] #[.pointer (some ⟨B + 1, 0, none⟩), .pointer (some ⟨B + 1 + 1 + 1, 0, none⟩), .pointer (some ⟨B + 1 + 1, 0, none⟩)], rcV x, undef, undef, undef, undef, undef, undef, undef, undef, undef, undef, undef, undef, undef], defers := [] }
theorem WI.own (h B n2 : Nat) (m d : Int) (w : World) (B' : Nat) (hB : h ≤ B') (hw : h ≤ w.heap.size) : OwnFrom B' (WI h B n2 m d w) :=
  OwnFrom.and (RowC.own _ _ (fun _ => _)) (OwnFrom.and (Own.from (holdsRow_own n2 B 52 3 1 (fun pre => (wrL m d pre).length) (fun pre => (wrL m d pre).map (Value.int .i64)) (fun _ _ => True)) _) (ownFrom_below hw hB))
theorem WA.own (h B : Nat) (m d sh known : Int) (A : Option Addr) (n c : Nat) (x : Rcn) (a' : Act) (B' : Nat) : OwnFrom B' (fun (_ : Unit) W => WA h B m d sh known A n c x a' W) := by
  rintro s W W' row ⟨Bx, h1, h2, h3⟩ hg hr
  exact ⟨Bx, h1, RowC.own B' Bx (fun (_ : Unit) => rcCells x) s W W' row h2 hg hr, h3⟩

end Go.Proofs.YtdeokdlkjgpffaaGreatDoor
