/-
  The closed facts of the program alone that every row of the seat asks. The head's text is laid as a list of letters first: the kernel then reckons its words in no time.
-/
import Derived.Test.YtologmoanaccpaaDoorProg
import Derived.JoinedOf
import Derived.KernelRfl
import GoSem.ClaimSeven
namespace Go.Proofs.YtologmoanaccpaaDoor
open Go

theorem band {a b : Bool} (ha : a = true) (hb : b = true) : (a && b) = true := by rw [ha, hb]; rfl
theorem beq_of_eq {α : Type} [BEq α] [LawfulBEq α] {a b : α} (h : a = b) : (a == b) = true := by rw [h]; exact beq_self_eq_true b
def ioL : List Char := [Char.ofNat 104, Char.ofNat 97, Char.ofNat 114, Char.ofNat 110, Char.ofNat 101, Char.ofNat 115, Char.ofNat 115, Char.ofNat 32, Char.ofNat 55, Char.ofNat 56, Char.ofNat 51, Char.ofNat 48, Char.ofNat 57, Char.ofNat 56, Char.ofNat 57, Char.ofNat 49, Char.ofNat 52, Char.ofNat 101, Char.ofNat 51, Char.ofNat 54, Char.ofNat 49, Char.ofNat 53, Char.ofNat 53, Char.ofNat 55, Char.ofNat 54, Char.ofNat 100, Char.ofNat 99, Char.ofNat 51, Char.ofNat 101, Char.ofNat 49, Char.ofNat 55, Char.ofNat 53, Char.ofNat 50, Char.ofNat 52, Char.ofNat 49, Char.ofNat 54, Char.ofNat 99, Char.ofNat 50, Char.ofNat 55, Char.ofNat 53, Char.ofNat 98, Char.ofNat 98, Char.ofNat 100, Char.ofNat 99, Char.ofNat 50, Char.ofNat 97, Char.ofNat 57, Char.ofNat 99, Char.ofNat 50, Char.ofNat 101, Char.ofNat 48, Char.ofNat 50, Char.ofNat 48, Char.ofNat 100, Char.ofNat 54, Char.ofNat 52, Char.ofNat 57, Char.ofNat 55, Char.ofNat 48, Char.ofNat 54, Char.ofNat 53, Char.ofNat 100, Char.ofNat 56, Char.ofNat 102, Char.ofNat 52, Char.ofNat 57, Char.ofNat 50, Char.ofNat 49, Char.ofNat 99, Char.ofNat 49, Char.ofNat 52, Char.ofNat 98, Char.ofNat 32, Char.ofNat 99, Char.ofNat 117, Char.ofNat 116, Char.ofNat 32, Char.ofNat 97, Char.ofNat 116, Char.ofNat 32, Char.ofNat 99, Char.ofNat 111, Char.ofNat 117, Char.ofNat 99, Char.ofNat 104, Char.ofNat 97, Char.ofNat 110, Char.ofNat 116, Char.ofNat 47, Char.ofNat 99, Char.ofNat 111, Char.ofNat 117, Char.ofNat 99, Char.ofNat 104, Char.ofNat 97, Char.ofNat 110, Char.ofNat 116, Char.ofNat 116, Char.ofNat 111, Char.ofNat 112, Char.ofNat 46, Char.ofNat 84, Char.ofNat 111, Char.ofNat 112, Char.ofNat 87, Char.ofNat 111, Char.ofNat 114, Char.ofNat 110, Char.ofNat 32, Char.ofNat 99, Char.ofNat 111, Char.ofNat 117, Char.ofNat 99, Char.ofNat 104, Char.ofNat 97, Char.ofNat 110, Char.ofNat 116, Char.ofNat 47, Char.ofNat 99, Char.ofNat 111, Char.ofNat 117, Char.ofNat 99, Char.ofNat 104, Char.ofNat 97, Char.ofNat 110, Char.ofNat 116, Char.ofNat 116, Char.ofNat 111, Char.ofNat 112, Char.ofNat 46, Char.ofNat 84, Char.ofNat 111, Char.ofNat 112, Char.ofNat 67, Char.ofNat 108, Char.ofNat 97, Char.ofNat 105, Char.ofNat 109, Char.ofNat 101, Char.ofNat 100]
set_option maxRecDepth 1000000 in
theorem io_lit : Tryd.prog.initOrder = String.ofList ioL := by kernel_rfl
theorem io_list : Tryd.prog.initOrder.toList = ioL := by rw [io_lit, String.toList_ofList]
set_option maxRecDepth 1000000 in
theorem io_words : behindMainWord (wordsSigns ioL) = "cut".toList :: (behindMainWord (wordsSigns ioL)).drop 1 := by kernel_rfl
theorem io_cut : behindMainWord (wordsSigns Tryd.prog.initOrder.toList) = "cut".toList :: (behindMainWord (wordsSigns ioL)).drop 1 := by
  rw [io_list]; exact io_words
theorem lifts_none (ws : List (List Char)) : stripLifts liftWords ("cut".toList :: ws) = ([], "cut".toList :: ws) := by
  simp [liftWords, stripLifts]
theorem make_of (P : Program) (ws : List (List Char)) (h : behindMainWord (wordsSigns P.initOrder.toList) = "cut".toList :: ws) : P.make = some .cut := by
  unfold Program.make
  rw [h]
  simp
theorem lifts_of (P : Program) (ws : List (List Char)) (h : behindMainWord (wordsSigns P.initOrder.toList) = "cut".toList :: ws) : P.liftsFinal = false := by
  unfold Program.liftsFinal Program.headLifts
  simp only [h, lifts_none]
  simp
theorem may_of (P : Program) (ws : List (List Char)) (h : behindMainWord (wordsSigns P.initOrder.toList) = "cut".toList :: ws) (h1 : P.laysLater = false) (h2 : P.bearsReflect = false) (h3 : P.doorFits [] = true) : P.mayEnter = true := by
  unfold Program.mayEnter
  simp only [h, lifts_none, h1, h2, h3]
  simp
theorem main_of (P : Program) (s : List Char) (ws : List (List Char)) (h : wordsSigns P.initOrder.toList = "harness".toList :: s :: ws) (hs : isSumSigns s = true) : P.mainIs = some (true, s) := by
  unfold Program.mainIs
  rw [h]
  simp [hs]
theorem f_make : Tryd.prog.make = some .cut := make_of _ _ io_cut
theorem f_lifts : Tryd.prog.liftsFinal = false := lifts_of _ _ io_cut
set_option maxRecDepth 1000000 in
theorem f_may : Tryd.prog.mayEnter = true := may_of _ _ io_cut (by kernel_rfl) (by kernel_rfl) (by kernel_rfl)
set_option maxRecDepth 1000000 in
theorem io_sum : wordsSigns ioL = "harness".toList :: ("783098914e3615576dc3e1752416c275bbdc2a9c2e020d6497065d8f4921c14b" : String).toList :: (wordsSigns ioL).drop 2 := by kernel_rfl
set_option maxRecDepth 1000000 in
theorem f_main : Tryd.prog.mainIs = some (true, ("783098914e3615576dc3e1752416c275bbdc2a9c2e020d6497065d8f4921c14b" : String).toList) := main_of _ _ _ (by rw [io_list]; exact io_sum) (by kernel_rfl)
set_option maxRecDepth 1000000 in
theorem f_laidOut : laidOutB Tryd.prog = true := by kernel_rfl
set_option maxRecDepth 1000000 in
theorem f_maps : mapsRowed Tryd.prog = true := by kernel_rfl
set_option maxRecDepth 1000000 in
theorem f_stops : Tryd.prog.stops = [] := by kernel_rfl
set_option maxRecDepth 1000000 in
theorem f_knobs : Tryd.prog.stopKnobs = [] := by kernel_rfl
set_option maxRecDepth 1000000 in
theorem f_heard : Tryd.prog.stopsHeard = true := by kernel_rfl
set_option maxRecDepth 1000000 in
theorem f_keys : Tryd.prog.plainKeys = false := by kernel_rfl
set_option maxRecDepth 1000000 in
theorem f_looks : Tryd.prog.looks [] = false := by kernel_rfl
end Go.Proofs.YtologmoanaccpaaDoor
