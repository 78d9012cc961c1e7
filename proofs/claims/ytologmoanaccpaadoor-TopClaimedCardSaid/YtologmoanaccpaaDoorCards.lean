/-
  DERIVED. GIVEN WITH THE SEED: THE CARDS: each row of YtologmoanaccpaaDoorRows.lean that lists a variable, with what it lists TIED to the program's text (the seventh form; the later family's looks); each row that meets fmt, with fmt's text TOLD by the authors' own Lean function (tested against real Go, not proved from fmt's source: count such statements apart). THE CARD IS WHAT COUNTS. Prove the row's statement (the work); the ties are given (YtologmoanaccpaaDoorTie.lean); close each card by the builder's one call (the guide's Derived/Test/ToyasCard.lean, 'card_holds'). Laid BY PROGRAM, IN A SANDBOX (cutbox-door.mjs). By AI agents, Wed Nov 11 2026. No macro, syntax, notation, axiom, sorry.
-/
import Derived.Test.YtologmoanaccpaaDoorRows
import GoSem.ClaimSeven
namespace Go.Proofs.YtologmoanaccpaaDoor
namespace Rows

/-- THE TIED CARD OF 'couchanttop.TopWorn'. -/
def topWornCard : Claim7 := { stood := { row := topWornRow, standIns := [], harness := (true, "783098914e3615576dc3e1752416c275bbdc2a9c2e020d6497065d8f4921c14b"), looks := false }, kinds := [], alts := [], laidByText := true, laidKinds := [.data], laidTests := true, laidLooks := .later }
def TopWornCardSaid : Prop := Claim7.holds Tryd.pinned (.plain (OpenSpec.ofChange topWornSpec)) topWornCard

/-- THE TIED CARD OF 'couchanttop.TopClaimed'. -/
def topClaimedCard : Claim7 := { stood := { row := topClaimedRow, standIns := [], harness := (true, "783098914e3615576dc3e1752416c275bbdc2a9c2e020d6497065d8f4921c14b"), looks := false }, kinds := [], alts := [], laidByText := true, laidKinds := [.data], laidTests := true, laidLooks := .later }
def TopClaimedCardSaid : Prop := Claim7.holds Tryd.pinned (.plain (OpenSpec.ofChange topClaimedSpec)) topClaimedCard

/-- THE SECOND FORM's CARD OF 'couchanttop.TopWorn'. -/
def topWornUptoCard : Claim7 := { stood := { row := topWornUptoRow, standIns := [], harness := (true, "783098914e3615576dc3e1752416c275bbdc2a9c2e020d6497065d8f4921c14b"), looks := false }, kinds := [], alts := [], laidByText := true, laidKinds := [.data], laidTests := true, laidLooks := .later }
def TopWornUptoCardSaid : Prop := Claim7.holds Tryd.pinned (.plain (OpenSpec.upto topWornSpec)) topWornUptoCard

/-- THE SECOND FORM's CARD OF 'couchanttop.TopClaimed'. -/
def topClaimedUptoCard : Claim7 := { stood := { row := topClaimedUptoRow, standIns := [], harness := (true, "783098914e3615576dc3e1752416c275bbdc2a9c2e020d6497065d8f4921c14b"), looks := false }, kinds := [], alts := [], laidByText := true, laidKinds := [.data], laidTests := true, laidLooks := .later }
def TopClaimedUptoCardSaid : Prop := Claim7.holds Tryd.pinned (.plain (OpenSpec.upto topClaimedSpec)) topClaimedUptoCard
end Rows
end Go.Proofs.YtologmoanaccpaaDoor
