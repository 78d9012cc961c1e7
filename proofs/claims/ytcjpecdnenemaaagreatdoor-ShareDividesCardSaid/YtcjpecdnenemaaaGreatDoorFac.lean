/-
  The closed facts of the program alone that every row of the seat asks. The head's text is laid as a list of letters first: the kernel then reckons its words in no time.
-/
import Derived.Test.YtcjpecdnenemaaaGreatDoorProg
import Derived.JoinedOf
import Derived.KernelRfl
import GoSem.ClaimSeven
namespace Go.Proofs.YtcjpecdnenemaaaGreatDoor
open Go

theorem band {a b : Bool} (ha : a = true) (hb : b = true) : (a && b) = true := by rw [ha, hb]; rfl
theorem beq_of_eq {α : Type} [BEq α] [LawfulBEq α] {a b : α} (h : a = b) : (a == b) = true := by rw [h]; exact beq_self_eq_true b
def ioL : List Char := [Char.ofNat 104, Char.ofNat 97, Char.ofNat 114, Char.ofNat 110, Char.ofNat 101, Char.ofNat 115, Char.ofNat 115, Char.ofNat 32, Char.ofNat 100, Char.ofNat 55, Char.ofNat 53,
  Char.ofNat 49, Char.ofNat 48, Char.ofNat 99, Char.ofNat 55, Char.ofNat 100, Char.ofNat 54, Char.ofNat 49, Char.ofNat 50, Char.ofNat 102, Char.ofNat 57, Char.ofNat 49, Char.ofNat
  51, Char.ofNat 53, Char.ofNat 101, Char.ofNat 53, Char.ofNat 101, Char.ofNat 50, Char.ofNat 98, Char.ofNat 102, Char.ofNat 57, Char.ofNat 50, Char.ofNat 57, Char.ofNat 51,
  Char.ofNat 52, Char.ofNat 56, Char.ofNat 50, Char.ofNat 55, Char.ofNat 51, Char.ofNat 48, Char.ofNat 98, Char.ofNat 55, Char.ofNat 54, Char.ofNat 57, Char.ofNat 101, Char.ofNat 54,
  Char.ofNat 57, Char.ofNat 100, Char.ofNat 98, Char.ofNat 49, Char.ofNat 102, Char.ofNat 101, Char.ofNat 48, Char.ofNat 48, Char.ofNat 53, Char.ofNat 50, Char.ofNat 56, Char.ofNat
  49, Char.ofNat 102, Char.ofNat 54, Char.ofNat 97, Char.ofNat 53, Char.ofNat 54, Char.ofNat 98, Char.ofNat 54, Char.ofNat 101, Char.ofNat 53, Char.ofNat 50, Char.ofNat 56,
  Char.ofNat 100, Char.ofNat 48, Char.ofNat 102, Char.ofNat 32, Char.ofNat 99, Char.ofNat 117, Char.ofNat 116, Char.ofNat 32, Char.ofNat 97, Char.ofNat 116, Char.ofNat 32, Char.ofNat
  99, Char.ofNat 111, Char.ofNat 117, Char.ofNat 99, Char.ofNat 104, Char.ofNat 97, Char.ofNat 110, Char.ofNat 116, Char.ofNat 47, Char.ofNat 99, Char.ofNat 111, Char.ofNat 117,
  Char.ofNat 99, Char.ofNat 104, Char.ofNat 97, Char.ofNat 110, Char.ofNat 116, Char.ofNat 108, Char.ofNat 97, Char.ofNat 119, Char.ofNat 48, Char.ofNat 49, Char.ofNat 46, Char.ofNat
  83, Char.ofNat 104, Char.ofNat 97, Char.ofNat 114, Char.ofNat 101, Char.ofNat 70, Char.ofNat 114, Char.ofNat 97, Char.ofNat 99, Char.ofNat 116, Char.ofNat 105, Char.ofNat 111,
  Char.ofNat 110, Char.ofNat 115, Char.ofNat 32, Char.ofNat 99, Char.ofNat 111, Char.ofNat 117, Char.ofNat 99, Char.ofNat 104, Char.ofNat 97, Char.ofNat 110, Char.ofNat 116,
  Char.ofNat 47, Char.ofNat 99, Char.ofNat 111, Char.ofNat 117, Char.ofNat 99, Char.ofNat 104, Char.ofNat 97, Char.ofNat 110, Char.ofNat 116, Char.ofNat 108, Char.ofNat 97,
  Char.ofNat 119, Char.ofNat 48, Char.ofNat 49, Char.ofNat 46, Char.ofNat 83, Char.ofNat 104, Char.ofNat 97, Char.ofNat 114, Char.ofNat 101, Char.ofNat 83, Char.ofNat 117, Char.ofNat
  109, Char.ofNat 115, Char.ofNat 32, Char.ofNat 99, Char.ofNat 111, Char.ofNat 117, Char.ofNat 99, Char.ofNat 104, Char.ofNat 97, Char.ofNat 110, Char.ofNat 116, Char.ofNat 47,
  Char.ofNat 99, Char.ofNat 111, Char.ofNat 117, Char.ofNat 99, Char.ofNat 104, Char.ofNat 97, Char.ofNat 110, Char.ofNat 116, Char.ofNat 108, Char.ofNat 97, Char.ofNat 119,
  Char.ofNat 48, Char.ofNat 49, Char.ofNat 46, Char.ofNat 83, Char.ofNat 104, Char.ofNat 97, Char.ofNat 114, Char.ofNat 101, Char.ofNat 84, Char.ofNat 97, Char.ofNat 98, Char.ofNat
  108, Char.ofNat 101, Char.ofNat 115, Char.ofNat 32, Char.ofNat 99, Char.ofNat 111, Char.ofNat 117, Char.ofNat 99, Char.ofNat 104, Char.ofNat 97, Char.ofNat 110, Char.ofNat 116,
  Char.ofNat 47, Char.ofNat 99, Char.ofNat 111, Char.ofNat 117, Char.ofNat 99, Char.ofNat 104, Char.ofNat 97, Char.ofNat 110, Char.ofNat 116, Char.ofNat 108, Char.ofNat 97,
  Char.ofNat 119, Char.ofNat 48, Char.ofNat 49, Char.ofNat 46, Char.ofNat 83, Char.ofNat 104, Char.ofNat 97, Char.ofNat 114, Char.ofNat 101, Char.ofNat 73, Char.ofNat 110, Char.ofNat
  70, Char.ofNat 111, Char.ofNat 114, Char.ofNat 99, Char.ofNat 101, Char.ofNat 32, Char.ofNat 99, Char.ofNat 111, Char.ofNat 117, Char.ofNat 99, Char.ofNat 104, Char.ofNat 97,
  Char.ofNat 110, Char.ofNat 116, Char.ofNat 47, Char.ofNat 99, Char.ofNat 111, Char.ofNat 117, Char.ofNat 99, Char.ofNat 104, Char.ofNat 97, Char.ofNat 110, Char.ofNat 116,
  Char.ofNat 108, Char.ofNat 97, Char.ofNat 119, Char.ofNat 48, Char.ofNat 49, Char.ofNat 46, Char.ofNat 83, Char.ofNat 104, Char.ofNat 97, Char.ofNat 114, Char.ofNat 101, Char.ofNat
  82, Char.ofNat 101, Char.ofNat 97, Char.ofNat 99, Char.ofNat 104, Char.ofNat 101, Char.ofNat 100, Char.ofNat 32, Char.ofNat 99, Char.ofNat 111, Char.ofNat 117, Char.ofNat 99,
  Char.ofNat 104, Char.ofNat 97, Char.ofNat 110, Char.ofNat 116, Char.ofNat 47, Char.ofNat 99, Char.ofNat 111, Char.ofNat 117, Char.ofNat 99, Char.ofNat 104, Char.ofNat 97,
  Char.ofNat 110, Char.ofNat 116, Char.ofNat 108, Char.ofNat 97, Char.ofNat 119, Char.ofNat 48, Char.ofNat 49, Char.ofNat 46, Char.ofNat 83, Char.ofNat 104, Char.ofNat 97, Char.ofNat
  114, Char.ofNat 101, Char.ofNat 85, Char.ofNat 115, Char.ofNat 101, Char.ofNat 115, Char.ofNat 32, Char.ofNat 99, Char.ofNat 111, Char.ofNat 117, Char.ofNat 99, Char.ofNat 104,
  Char.ofNat 97, Char.ofNat 110, Char.ofNat 116, Char.ofNat 47, Char.ofNat 99, Char.ofNat 111, Char.ofNat 117, Char.ofNat 99, Char.ofNat 104, Char.ofNat 97, Char.ofNat 110,
  Char.ofNat 116, Char.ofNat 108, Char.ofNat 97, Char.ofNat 119, Char.ofNat 48, Char.ofNat 49, Char.ofNat 46, Char.ofNat 83, Char.ofNat 104, Char.ofNat 97, Char.ofNat 114, Char.ofNat
  101, Char.ofNat 77, Char.ofNat 111, Char.ofNat 115, Char.ofNat 116, Char.ofNat 32, Char.ofNat 99, Char.ofNat 111, Char.ofNat 117, Char.ofNat 99, Char.ofNat 104, Char.ofNat 97,
  Char.ofNat 110, Char.ofNat 116, Char.ofNat 47, Char.ofNat 99, Char.ofNat 111, Char.ofNat 117, Char.ofNat 99, Char.ofNat 104, Char.ofNat 97, Char.ofNat 110, Char.ofNat 116,
  Char.ofNat 108, Char.ofNat 97, Char.ofNat 119, Char.ofNat 48, Char.ofNat 49, Char.ofNat 46, Char.ofNat 83, Char.ofNat 104, Char.ofNat 97, Char.ofNat 114, Char.ofNat 101, Char.ofNat
  68, Char.ofNat 105, Char.ofNat 118, Char.ofNat 105, Char.ofNat 100, Char.ofNat 101, Char.ofNat 115, Char.ofNat 32, Char.ofNat 99, Char.ofNat 111, Char.ofNat 117, Char.ofNat 99,
  Char.ofNat 104, Char.ofNat 97, Char.ofNat 110, Char.ofNat 116, Char.ofNat 47, Char.ofNat 99, Char.ofNat 111, Char.ofNat 117, Char.ofNat 99, Char.ofNat 104, Char.ofNat 97,
  Char.ofNat 110, Char.ofNat 116, Char.ofNat 108, Char.ofNat 97, Char.ofNat 119, Char.ofNat 48, Char.ofNat 49, Char.ofNat 46, Char.ofNat 83, Char.ofNat 104, Char.ofNat 97, Char.ofNat
  114, Char.ofNat 101, Char.ofNat 82, Char.ofNat 117, Char.ofNat 108, Char.ofNat 101, Char.ofNat 115, Char.ofNat 32, Char.ofNat 99, Char.ofNat 111, Char.ofNat 117, Char.ofNat 99,
  Char.ofNat 104, Char.ofNat 97, Char.ofNat 110, Char.ofNat 116, Char.ofNat 47, Char.ofNat 99, Char.ofNat 111, Char.ofNat 117, Char.ofNat 99, Char.ofNat 104, Char.ofNat 97,
  Char.ofNat 110, Char.ofNat 116, Char.ofNat 108, Char.ofNat 97, Char.ofNat 119, Char.ofNat 48, Char.ofNat 49, Char.ofNat 46, Char.ofNat 83, Char.ofNat 104, Char.ofNat 97, Char.ofNat
  114, Char.ofNat 101, Char.ofNat 79, Char.ofNat 114, Char.ofNat 100, Char.ofNat 101, Char.ofNat 114, Char.ofNat 32, Char.ofNat 99, Char.ofNat 111, Char.ofNat 117, Char.ofNat 99,
  Char.ofNat 104, Char.ofNat 97, Char.ofNat 110, Char.ofNat 116, Char.ofNat 47, Char.ofNat 99, Char.ofNat 111, Char.ofNat 117, Char.ofNat 99, Char.ofNat 104, Char.ofNat 97,
  Char.ofNat 110, Char.ofNat 116, Char.ofNat 108, Char.ofNat 97, Char.ofNat 119, Char.ofNat 48, Char.ofNat 49, Char.ofNat 46, Char.ofNat 83, Char.ofNat 104, Char.ofNat 97, Char.ofNat
  114, Char.ofNat 101, Char.ofNat 72, Char.ofNat 101, Char.ofNat 105, Char.ofNat 114, Char.ofNat 115, Char.ofNat 32, Char.ofNat 99, Char.ofNat 111, Char.ofNat 117, Char.ofNat 99,
  Char.ofNat 104, Char.ofNat 97, Char.ofNat 110, Char.ofNat 116, Char.ofNat 47, Char.ofNat 99, Char.ofNat 111, Char.ofNat 117, Char.ofNat 99, Char.ofNat 104, Char.ofNat 97,
  Char.ofNat 110, Char.ofNat 116, Char.ofNat 108, Char.ofNat 97, Char.ofNat 119, Char.ofNat 48, Char.ofNat 49, Char.ofNat 46, Char.ofNat 83, Char.ofNat 104, Char.ofNat 97, Char.ofNat
  114, Char.ofNat 101, Char.ofNat 84, Char.ofNat 111, Char.ofNat 103, Char.ofNat 101, Char.ofNat 116, Char.ofNat 104, Char.ofNat 101, Char.ofNat 114, Char.ofNat 32, Char.ofNat 99,
  Char.ofNat 111, Char.ofNat 117, Char.ofNat 99, Char.ofNat 104, Char.ofNat 97, Char.ofNat 110, Char.ofNat 116, Char.ofNat 47, Char.ofNat 99, Char.ofNat 111, Char.ofNat 117,
  Char.ofNat 99, Char.ofNat 104, Char.ofNat 97, Char.ofNat 110, Char.ofNat 116, Char.ofNat 108, Char.ofNat 97, Char.ofNat 119, Char.ofNat 48, Char.ofNat 49, Char.ofNat 46, Char.ofNat
  83, Char.ofNat 104, Char.ofNat 97, Char.ofNat 114, Char.ofNat 101, Char.ofNat 71, Char.ofNat 114, Char.ofNat 101, Char.ofNat 97, Char.ofNat 116, Char.ofNat 101, Char.ofNat 115,
  Char.ofNat 116, Char.ofNat 32, Char.ofNat 99, Char.ofNat 111, Char.ofNat 117, Char.ofNat 99, Char.ofNat 104, Char.ofNat 97, Char.ofNat 110, Char.ofNat 116, Char.ofNat 47,
  Char.ofNat 99, Char.ofNat 111, Char.ofNat 117, Char.ofNat 99, Char.ofNat 104, Char.ofNat 97, Char.ofNat 110, Char.ofNat 116, Char.ofNat 108, Char.ofNat 97, Char.ofNat 119,
  Char.ofNat 48, Char.ofNat 49, Char.ofNat 46, Char.ofNat 83, Char.ofNat 104, Char.ofNat 97, Char.ofNat 114, Char.ofNat 101, Char.ofNat 70, Char.ofNat 105, Char.ofNat 108, Char.ofNat
  108, Char.ofNat 115, Char.ofNat 32, Char.ofNat 99, Char.ofNat 111, Char.ofNat 117, Char.ofNat 99, Char.ofNat 104, Char.ofNat 97, Char.ofNat 110, Char.ofNat 116, Char.ofNat 47,
  Char.ofNat 99, Char.ofNat 111, Char.ofNat 117, Char.ofNat 99, Char.ofNat 104, Char.ofNat 97, Char.ofNat 110, Char.ofNat 116, Char.ofNat 108, Char.ofNat 97, Char.ofNat 119,
  Char.ofNat 48, Char.ofNat 49, Char.ofNat 46, Char.ofNat 83, Char.ofNat 104, Char.ofNat 97, Char.ofNat 114, Char.ofNat 101, Char.ofNat 76, Char.ofNat 97, Char.ofNat 116, Char.ofNat
  101, Char.ofNat 114, Char.ofNat 32, Char.ofNat 99, Char.ofNat 111, Char.ofNat 117, Char.ofNat 99, Char.ofNat 104, Char.ofNat 97, Char.ofNat 110, Char.ofNat 116, Char.ofNat 47,
  Char.ofNat 99, Char.ofNat 111, Char.ofNat 117, Char.ofNat 99, Char.ofNat 104, Char.ofNat 97, Char.ofNat 110, Char.ofNat 116, Char.ofNat 108, Char.ofNat 97, Char.ofNat 119,
  Char.ofNat 48, Char.ofNat 49, Char.ofNat 46, Char.ofNat 83, Char.ofNat 104, Char.ofNat 97, Char.ofNat 114, Char.ofNat 101, Char.ofNat 77, Char.ofNat 101, Char.ofNat 109, Char.ofNat
  111, Char.ofNat 114, Char.ofNat 121]
set_option maxRecDepth 1000000 in
theorem io_lit : Tryz.prog.initOrder = String.ofList ioL := by kernel_rfl
theorem io_list : Tryz.prog.initOrder.toList = ioL := by rw [io_lit, String.toList_ofList]
set_option maxRecDepth 1000000 in
theorem io_words : behindMainWord (wordsSigns ioL) = "cut".toList :: (behindMainWord (wordsSigns ioL)).drop 1 := by kernel_rfl
theorem io_cut : behindMainWord (wordsSigns Tryz.prog.initOrder.toList) = "cut".toList :: (behindMainWord (wordsSigns ioL)).drop 1 := by
  rw [io_list]; exact io_words
theorem lifts_none (ws : List (List Char)) : stripLifts liftWords ("cut".toList :: ws) = ([], "cut".toList :: ws) := by
  simp [liftWords, stripLifts]
theorem make_of (P : Program) (ws : List (List Char)) (h : behindMainWord (wordsSigns P.initOrder.toList) = "cut".toList :: ws) : P.make = some .cut := by
  unfold Program.make
  rw [h]
  simp
theorem lifts_of (P : Program) (ws : List (List Char)) (h : behindMainWord (wordsSigns P.initOrder.toList) = "cut".toList :: ws) : P.liftsFinal = false := by
  unfold Program.liftsFinal Program.headLifts
  simp only [h, lifts_none]
  simp
theorem may_of (P : Program) (ws : List (List Char)) (h : behindMainWord (wordsSigns P.initOrder.toList) = "cut".toList :: ws) (h1 : P.laysLater = false) (h2 : P.bearsReflect = false) (h3 : P.doorFits [] = true) : P.mayEnter = true := by
  unfold Program.mayEnter
  simp only [h, lifts_none, h1, h2, h3]
  simp
theorem main_of (P : Program) (s : List Char) (ws : List (List Char)) (h : wordsSigns P.initOrder.toList = "harness".toList :: s :: ws) (hs : isSumSigns s = true) : P.mainIs = some (true, s) := by
  unfold Program.mainIs
  rw [h]
  simp [hs]
theorem f_make : Tryz.prog.make = some .cut := make_of _ _ io_cut
theorem f_lifts : Tryz.prog.liftsFinal = false := lifts_of _ _ io_cut
set_option maxRecDepth 1000000 in
theorem f_may : Tryz.prog.mayEnter = true := may_of _ _ io_cut (by kernel_rfl) (by kernel_rfl) (by kernel_rfl)
set_option maxRecDepth 1000000 in
theorem io_sum : wordsSigns ioL = "harness".toList :: ("d7510c7d612f9135e5e2bf9293482730b769e69db1fe005281f6a56b6e528d0f" : String).toList :: (wordsSigns ioL).drop 2 := by kernel_rfl
set_option maxRecDepth 1000000 in
theorem f_main : Tryz.prog.mainIs = some (true, ("d7510c7d612f9135e5e2bf9293482730b769e69db1fe005281f6a56b6e528d0f" : String).toList) := main_of _ _ _ (by rw [io_list]; exact io_sum) (by kernel_rfl)
set_option maxRecDepth 1000000 in
theorem f_laidOut : laidOutB Tryz.prog = true := by kernel_rfl
set_option maxRecDepth 1000000 in
theorem f_maps : mapsRowed Tryz.prog = true := by kernel_rfl
set_option maxRecDepth 1000000 in
theorem f_stops : Tryz.prog.stops = [] := by kernel_rfl
set_option maxRecDepth 1000000 in
theorem f_knobs : Tryz.prog.stopKnobs = [] := by kernel_rfl
set_option maxRecDepth 1000000 in
theorem f_heard : Tryz.prog.stopsHeard = true := by kernel_rfl
set_option maxRecDepth 1000000 in
theorem f_keys : Tryz.prog.plainKeys = true := by kernel_rfl
set_option maxRecDepth 1000000 in
theorem f_looks : Tryz.prog.looks [] = true := by kernel_rfl
end Go.Proofs.YtcjpecdnenemaaaGreatDoor
