/-
  Fits, Shown, True, OfCount, Gathered: the code's and the reference's
-/
import Derived.Test.YtologmoanaccpaaDoorTh
namespace Go.Proofs.YtologmoanaccpaaDoor.Tly
set_option linter.all false
open Go.RowKit

def fitOk (m d n c : Int) : Bool := rateB m d && inB n 0 100000 && inB c 0 200000
def fitB (m d n c : Int) : Bool := fitOk m d n c && inB c (loI m n) (hiI d n)
def shOk (m d n : Int) : Bool := rateB m d && inB n 0 100000
def shL (m d n : Int) : Int := if shOk m d n = true then loI m n else 0
def shH (m d n : Int) : Int := if shOk m d n = true then hiI d n else 0
def trOk (m d c : Int) : Bool := rateB m d && inB c 0 200000
def spI (a b : Int) : Int × Int × Bool := (spL a b, spH a b, spS a b)
def trI (m d c : Int) : Int × Int × Bool := if trOk m d c = true then spI (leastOf d c) (mostOf m c) else (0, 0, false)
def ocOk (m d i dy s n x : Int) : Bool := rateB m d && countB i dy s n x
def ocI (m d i dy s n x : Int) : Int × Int × Bool := if ocOk m d i dy s n x = true then spI (leastOf d n) (mostOf m (n + x)) else (0, 0, false)
def gaI (m d i dy s n x : Int) : Int := if ocOk m d i dy s n x = true then spL (leastOf d n) (mostOf m n) else 0
theorem rateB_bd {m d : Int} (h : rateB m d = true) : (0 ≤ m ∧ m ≤ 500) ∧ (0 ≤ d ∧ d ≤ 500) := by
  unfold rateB at h
  rw [Bool.and_eq_true, inB_iff, inB_iff] at h
  exact h
theorem countB_bd {i dy s n x : Int} (h : countB i dy s n x = true) : (0 ≤ n ∧ n ≤ 100000) ∧ (0 ≤ x ∧ x ≤ 10000) := by
  unfold countB at h
  rw [Bool.and_eq_true, Bool.and_eq_true, inB_iff, inB_iff] at h
  exact ⟨h.1.2, h.2⟩
theorem inB_le {m d n c : Int} : inB c (loI m n) (hiI d n) = (decide (loI m n ≤ c) && decide (c ≤ hiI d n)) := rfl

end Go.Proofs.YtologmoanaccpaaDoor.Tly
