/-
  DERIVED. GIVEN WITH THE SEED: THE CARDS: each row of YtcjpecdnenemaaaGreatDoorRows.lean that lists a variable, with what it lists TIED to the program's text (the seventh form; the later family's looks); each row that meets fmt, with fmt's text TOLD by the authors' own Lean function (tested against real Go, not proved from fmt's source: count such statements apart). THE CARD IS WHAT COUNTS. Prove the row's statement (the work); the ties are given (YtcjpecdnenemaaaGreatDoorTie.lean); close each card by the builder's one call (the guide's Derived/Test/ToyasCard.lean, 'card_holds'). Laid BY PROGRAM, IN A SANDBOX (cutbox-door.mjs). By AI agents, Wed Nov 11 2026. No macro, syntax, notation, axiom, sorry.
-/
import Derived.Test.YtcjpecdnenemaaaGreatDoorRows
import GoSem.ClaimSeven
namespace Go.Proofs.YtcjpecdnenemaaaGreatDoor
namespace Rows

/-- THE TIED CARD OF 'couchantlaw01.ShareFractions'. -/
def shareFractionsCard : Claim7 := { stood := { row := shareFractionsRow, standIns := [], harness := (true, "d7510c7d612f9135e5e2bf9293482730b769e69db1fe005281f6a56b6e528d0f"), looks := true }, kinds := [], alts := [], laidByText := true, laidKinds := [.data, .data, .data, .data, .sentinel, .sentinel, .pinned], laidTests := true, laidLooks := .later }
def ShareFractionsCardSaid : Prop := Claim7.holds Tryz.pinned (.plain (OpenSpec.ofChange shareFractionsSpec)) shareFractionsCard

/-- THE TIED CARD OF 'couchantlaw01.ShareSums'. -/
def shareSumsCard : Claim7 := { stood := { row := shareSumsRow, standIns := [], harness := (true, "d7510c7d612f9135e5e2bf9293482730b769e69db1fe005281f6a56b6e528d0f"), looks := true }, kinds := [], alts := [], laidByText := true, laidKinds := [.data, .data, .data, .data, .sentinel, .sentinel, .pinned], laidTests := true, laidLooks := .later }
def ShareSumsCardSaid : Prop := Claim7.holds Tryz.pinned (.plain (OpenSpec.ofChange shareSumsSpec)) shareSumsCard

/-- THE TIED CARD OF 'couchantlaw01.ShareTables'. -/
def shareTablesCard : Claim7 := { stood := { row := shareTablesRow, standIns := [], harness := (true, "d7510c7d612f9135e5e2bf9293482730b769e69db1fe005281f6a56b6e528d0f"), looks := true }, kinds := [], alts := [], laidByText := true, laidKinds := [.data, .data, .data, .data, .sentinel, .sentinel, .pinned], laidTests := true, laidLooks := .later }
def ShareTablesCardSaid : Prop := Claim7.holds Tryz.pinned (.plain (OpenSpec.ofChange shareTablesSpec)) shareTablesCard

/-- THE TIED CARD OF 'couchantlaw01.ShareInForce'. -/
def shareInForceCard : Claim7 := { stood := { row := shareInForceRow, standIns := [], harness := (true, "d7510c7d612f9135e5e2bf9293482730b769e69db1fe005281f6a56b6e528d0f"), looks := true }, kinds := [], alts := [], laidByText := true, laidKinds := [.data, .data, .data, .data, .sentinel, .sentinel, .pinned], laidTests := true, laidLooks := .later }
def ShareInForceCardSaid : Prop := Claim7.holds Tryz.pinned (.plain (OpenSpec.ofChange shareInForceSpec)) shareInForceCard

/-- THE TIED CARD OF 'couchantlaw01.ShareReached'. -/
def shareReachedCard : Claim7 := { stood := { row := shareReachedRow, standIns := [], harness := (true, "d7510c7d612f9135e5e2bf9293482730b769e69db1fe005281f6a56b6e528d0f"), looks := true }, kinds := [], alts := [], laidByText := true, laidKinds := [.data, .data, .data, .data, .sentinel, .sentinel, .pinned], laidTests := true, laidLooks := .later }
def ShareReachedCardSaid : Prop := Claim7.holds Tryz.pinned (.plain (OpenSpec.ofChange shareReachedSpec)) shareReachedCard

/-- THE TIED CARD OF 'couchantlaw01.ShareUses'. -/
def shareUsesCard : Claim7 := { stood := { row := shareUsesRow, standIns := [], harness := (true, "d7510c7d612f9135e5e2bf9293482730b769e69db1fe005281f6a56b6e528d0f"), looks := true }, kinds := [], alts := [], laidByText := true, laidKinds := [.data, .data, .data, .data, .sentinel, .sentinel, .pinned], laidTests := true, laidLooks := .later }
def ShareUsesCardSaid : Prop := Claim7.holds Tryz.pinned (.plain (OpenSpec.ofChange shareUsesSpec)) shareUsesCard

/-- THE TIED CARD OF 'couchantlaw01.ShareMost'. -/
def shareMostCard : Claim7 := { stood := { row := shareMostRow, standIns := [], harness := (true, "d7510c7d612f9135e5e2bf9293482730b769e69db1fe005281f6a56b6e528d0f"), looks := true }, kinds := [], alts := [], laidByText := true, laidKinds := [.data, .data, .data, .data, .sentinel, .sentinel, .pinned], laidTests := true, laidLooks := .later }
def ShareMostCardSaid : Prop := Claim7.holds Tryz.pinned (.plain (OpenSpec.ofChange shareMostSpec)) shareMostCard

/-- THE TIED CARD OF 'couchantlaw01.ShareDivides'. -/
def shareDividesCard : Claim7 := { stood := { row := shareDividesRow, standIns := [], harness := (true, "d7510c7d612f9135e5e2bf9293482730b769e69db1fe005281f6a56b6e528d0f"), looks := true }, kinds := [], alts := [], laidByText := true, laidKinds := [.data, .data, .data, .data, .sentinel, .sentinel, .pinned], laidTests := true, laidLooks := .later }
def ShareDividesCardSaid : Prop := Claim7.holds Tryz.pinned (.plain (OpenSpec.ofChange shareDividesSpec)) shareDividesCard

/-- THE TIED CARD OF 'couchantlaw01.ShareRules'. -/
def shareRulesCard : Claim7 := { stood := { row := shareRulesRow, standIns := [], harness := (true, "d7510c7d612f9135e5e2bf9293482730b769e69db1fe005281f6a56b6e528d0f"), looks := true }, kinds := [], alts := [], laidByText := true, laidKinds := [.data, .data, .data, .data, .sentinel, .sentinel, .pinned], laidTests := true, laidLooks := .later }
def ShareRulesCardSaid : Prop := Claim7.holds Tryz.pinned (.plain (OpenSpec.ofChange shareRulesSpec)) shareRulesCard

/-- THE TIED CARD OF 'couchantlaw01.ShareOrder'. -/
def shareOrderCard : Claim7 := { stood := { row := shareOrderRow, standIns := [], harness := (true, "d7510c7d612f9135e5e2bf9293482730b769e69db1fe005281f6a56b6e528d0f"), looks := true }, kinds := [], alts := [], laidByText := true, laidKinds := [.data, .data, .data, .data, .sentinel, .sentinel, .pinned], laidTests := true, laidLooks := .later }
def ShareOrderCardSaid : Prop := Claim7.holds Tryz.pinned (.plain (OpenSpec.ofChange shareOrderSpec)) shareOrderCard

/-- THE TIED CARD OF 'couchantlaw01.ShareHeirs'. -/
def shareHeirsCard : Claim7 := { stood := { row := shareHeirsRow, standIns := [], harness := (true, "d7510c7d612f9135e5e2bf9293482730b769e69db1fe005281f6a56b6e528d0f"), looks := true }, kinds := [], alts := [], laidByText := true, laidKinds := [.data, .data, .data, .data, .sentinel, .sentinel, .pinned], laidTests := true, laidLooks := .later }
def ShareHeirsCardSaid : Prop := Claim7.holds Tryz.pinned (.plain (OpenSpec.ofChange shareHeirsSpec)) shareHeirsCard

/-- THE TIED CARD OF 'couchantlaw01.ShareTogether'. -/
def shareTogetherCard : Claim7 := { stood := { row := shareTogetherRow, standIns := [], harness := (true, "d7510c7d612f9135e5e2bf9293482730b769e69db1fe005281f6a56b6e528d0f"), looks := true }, kinds := [], alts := [], laidByText := true, laidKinds := [.data, .data, .data, .data, .sentinel, .sentinel, .pinned], laidTests := true, laidLooks := .later }
def ShareTogetherCardSaid : Prop := Claim7.holds Tryz.pinned (.plain (OpenSpec.ofChange shareTogetherSpec)) shareTogetherCard

/-- THE TIED CARD OF 'couchantlaw01.ShareGreatest'. -/
def shareGreatestCard : Claim7 := { stood := { row := shareGreatestRow, standIns := [], harness := (true, "d7510c7d612f9135e5e2bf9293482730b769e69db1fe005281f6a56b6e528d0f"), looks := true }, kinds := [], alts := [], laidByText := true, laidKinds := [.data, .data, .data, .data, .sentinel, .sentinel, .pinned], laidTests := true, laidLooks := .later }
def ShareGreatestCardSaid : Prop := Claim7.holds Tryz.pinned (.plain (OpenSpec.ofChange shareGreatestSpec)) shareGreatestCard

/-- THE TIED CARD OF 'couchantlaw01.ShareFills'. -/
def shareFillsCard : Claim7 := { stood := { row := shareFillsRow, standIns := [], harness := (true, "d7510c7d612f9135e5e2bf9293482730b769e69db1fe005281f6a56b6e528d0f"), looks := true }, kinds := [], alts := [], laidByText := true, laidKinds := [.data, .data, .data, .data, .sentinel, .sentinel, .pinned], laidTests := true, laidLooks := .later }
def ShareFillsCardSaid : Prop := Claim7.holds Tryz.pinned (.plain (OpenSpec.ofChange shareFillsSpec)) shareFillsCard

/-- THE TIED CARD OF 'couchantlaw01.ShareLater'. -/
def shareLaterCard : Claim7 := { stood := { row := shareLaterRow, standIns := [], harness := (true, "d7510c7d612f9135e5e2bf9293482730b769e69db1fe005281f6a56b6e528d0f"), looks := true }, kinds := [], alts := [], laidByText := true, laidKinds := [.data, .data, .data, .data, .sentinel, .sentinel, .pinned], laidTests := true, laidLooks := .later }
def ShareLaterCardSaid : Prop := Claim7.holds Tryz.pinned (.plain (OpenSpec.ofChange shareLaterSpec)) shareLaterCard

/-- THE TIED CARD OF 'couchantlaw01.ShareMemory'. -/
def shareMemoryCard : Claim7 := { stood := { row := shareMemoryRow, standIns := [], harness := (true, "d7510c7d612f9135e5e2bf9293482730b769e69db1fe005281f6a56b6e528d0f"), looks := true }, kinds := [], alts := [], laidByText := true, laidKinds := [.data, .data, .data, .data, .sentinel, .sentinel, .pinned], laidTests := true, laidLooks := .later }
def ShareMemoryCardSaid : Prop := Claim7.holds Tryz.pinned (.plain (OpenSpec.ofChange shareMemorySpec)) shareMemoryCard

/-- THE SECOND FORM's CARD OF 'couchantlaw01.ShareFractions'. -/
def shareFractionsUptoCard : Claim7 := { stood := { row := shareFractionsUptoRow, standIns := [], harness := (true, "d7510c7d612f9135e5e2bf9293482730b769e69db1fe005281f6a56b6e528d0f"), looks := true }, kinds := [], alts := [], laidByText := true, laidKinds := [.data, .data, .data, .data, .sentinel, .sentinel, .pinned], laidTests := true, laidLooks := .later }
def ShareFractionsUptoCardSaid : Prop := Claim7.holds Tryz.pinned (.plain (OpenSpec.upto shareFractionsSpec)) shareFractionsUptoCard

/-- THE SECOND FORM's CARD OF 'couchantlaw01.ShareSums'. -/
def shareSumsUptoCard : Claim7 := { stood := { row := shareSumsUptoRow, standIns := [], harness := (true, "d7510c7d612f9135e5e2bf9293482730b769e69db1fe005281f6a56b6e528d0f"), looks := true }, kinds := [], alts := [], laidByText := true, laidKinds := [.data, .data, .data, .data, .sentinel, .sentinel, .pinned], laidTests := true, laidLooks := .later }
def ShareSumsUptoCardSaid : Prop := Claim7.holds Tryz.pinned (.plain (OpenSpec.upto shareSumsSpec)) shareSumsUptoCard

/-- THE SECOND FORM's CARD OF 'couchantlaw01.ShareTables'. -/
def shareTablesUptoCard : Claim7 := { stood := { row := shareTablesUptoRow, standIns := [], harness := (true, "d7510c7d612f9135e5e2bf9293482730b769e69db1fe005281f6a56b6e528d0f"), looks := true }, kinds := [], alts := [], laidByText := true, laidKinds := [.data, .data, .data, .data, .sentinel, .sentinel, .pinned], laidTests := true, laidLooks := .later }
def ShareTablesUptoCardSaid : Prop := Claim7.holds Tryz.pinned (.plain (OpenSpec.upto shareTablesSpec)) shareTablesUptoCard

/-- THE SECOND FORM's CARD OF 'couchantlaw01.ShareInForce'. -/
def shareInForceUptoCard : Claim7 := { stood := { row := shareInForceUptoRow, standIns := [], harness := (true, "d7510c7d612f9135e5e2bf9293482730b769e69db1fe005281f6a56b6e528d0f"), looks := true }, kinds := [], alts := [], laidByText := true, laidKinds := [.data, .data, .data, .data, .sentinel, .sentinel, .pinned], laidTests := true, laidLooks := .later }
def ShareInForceUptoCardSaid : Prop := Claim7.holds Tryz.pinned (.plain (OpenSpec.upto shareInForceSpec)) shareInForceUptoCard

/-- THE SECOND FORM's CARD OF 'couchantlaw01.ShareReached'. -/
def shareReachedUptoCard : Claim7 := { stood := { row := shareReachedUptoRow, standIns := [], harness := (true, "d7510c7d612f9135e5e2bf9293482730b769e69db1fe005281f6a56b6e528d0f"), looks := true }, kinds := [], alts := [], laidByText := true, laidKinds := [.data, .data, .data, .data, .sentinel, .sentinel, .pinned], laidTests := true, laidLooks := .later }
def ShareReachedUptoCardSaid : Prop := Claim7.holds Tryz.pinned (.plain (OpenSpec.upto shareReachedSpec)) shareReachedUptoCard

/-- THE SECOND FORM's CARD OF 'couchantlaw01.ShareUses'. -/
def shareUsesUptoCard : Claim7 := { stood := { row := shareUsesUptoRow, standIns := [], harness := (true, "d7510c7d612f9135e5e2bf9293482730b769e69db1fe005281f6a56b6e528d0f"), looks := true }, kinds := [], alts := [], laidByText := true, laidKinds := [.data, .data, .data, .data, .sentinel, .sentinel, .pinned], laidTests := true, laidLooks := .later }
def ShareUsesUptoCardSaid : Prop := Claim7.holds Tryz.pinned (.plain (OpenSpec.upto shareUsesSpec)) shareUsesUptoCard

/-- THE SECOND FORM's CARD OF 'couchantlaw01.ShareMost'. -/
def shareMostUptoCard : Claim7 := { stood := { row := shareMostUptoRow, standIns := [], harness := (true, "d7510c7d612f9135e5e2bf9293482730b769e69db1fe005281f6a56b6e528d0f"), looks := true }, kinds := [], alts := [], laidByText := true, laidKinds := [.data, .data, .data, .data, .sentinel, .sentinel, .pinned], laidTests := true, laidLooks := .later }
def ShareMostUptoCardSaid : Prop := Claim7.holds Tryz.pinned (.plain (OpenSpec.upto shareMostSpec)) shareMostUptoCard

/-- THE SECOND FORM's CARD OF 'couchantlaw01.ShareDivides'. -/
def shareDividesUptoCard : Claim7 := { stood := { row := shareDividesUptoRow, standIns := [], harness := (true, "d7510c7d612f9135e5e2bf9293482730b769e69db1fe005281f6a56b6e528d0f"), looks := true }, kinds := [], alts := [], laidByText := true, laidKinds := [.data, .data, .data, .data, .sentinel, .sentinel, .pinned], laidTests := true, laidLooks := .later }
def ShareDividesUptoCardSaid : Prop := Claim7.holds Tryz.pinned (.plain (OpenSpec.upto shareDividesSpec)) shareDividesUptoCard

/-- THE SECOND FORM's CARD OF 'couchantlaw01.ShareRules'. -/
def shareRulesUptoCard : Claim7 := { stood := { row := shareRulesUptoRow, standIns := [], harness := (true, "d7510c7d612f9135e5e2bf9293482730b769e69db1fe005281f6a56b6e528d0f"), looks := true }, kinds := [], alts := [], laidByText := true, laidKinds := [.data, .data, .data, .data, .sentinel, .sentinel, .pinned], laidTests := true, laidLooks := .later }
def ShareRulesUptoCardSaid : Prop := Claim7.holds Tryz.pinned (.plain (OpenSpec.upto shareRulesSpec)) shareRulesUptoCard

/-- THE SECOND FORM's CARD OF 'couchantlaw01.ShareOrder'. -/
def shareOrderUptoCard : Claim7 := { stood := { row := shareOrderUptoRow, standIns := [], harness := (true, "d7510c7d612f9135e5e2bf9293482730b769e69db1fe005281f6a56b6e528d0f"), looks := true }, kinds := [], alts := [], laidByText := true, laidKinds := [.data, .data, .data, .data, .sentinel, .sentinel, .pinned], laidTests := true, laidLooks := .later }
def ShareOrderUptoCardSaid : Prop := Claim7.holds Tryz.pinned (.plain (OpenSpec.upto shareOrderSpec)) shareOrderUptoCard

/-- THE SECOND FORM's CARD OF 'couchantlaw01.ShareHeirs'. -/
def shareHeirsUptoCard : Claim7 := { stood := { row := shareHeirsUptoRow, standIns := [], harness := (true, "d7510c7d612f9135e5e2bf9293482730b769e69db1fe005281f6a56b6e528d0f"), looks := true }, kinds := [], alts := [], laidByText := true, laidKinds := [.data, .data, .data, .data, .sentinel, .sentinel, .pinned], laidTests := true, laidLooks := .later }
def ShareHeirsUptoCardSaid : Prop := Claim7.holds Tryz.pinned (.plain (OpenSpec.upto shareHeirsSpec)) shareHeirsUptoCard

/-- THE SECOND FORM's CARD OF 'couchantlaw01.ShareTogether'. -/
def shareTogetherUptoCard : Claim7 := { stood := { row := shareTogetherUptoRow, standIns := [], harness := (true, "d7510c7d612f9135e5e2bf9293482730b769e69db1fe005281f6a56b6e528d0f"), looks := true }, kinds := [], alts := [], laidByText := true, laidKinds := [.data, .data, .data, .data, .sentinel, .sentinel, .pinned], laidTests := true, laidLooks := .later }
def ShareTogetherUptoCardSaid : Prop := Claim7.holds Tryz.pinned (.plain (OpenSpec.upto shareTogetherSpec)) shareTogetherUptoCard

/-- THE SECOND FORM's CARD OF 'couchantlaw01.ShareGreatest'. -/
def shareGreatestUptoCard : Claim7 := { stood := { row := shareGreatestUptoRow, standIns := [], harness := (true, "d7510c7d612f9135e5e2bf9293482730b769e69db1fe005281f6a56b6e528d0f"), looks := true }, kinds := [], alts := [], laidByText := true, laidKinds := [.data, .data, .data, .data, .sentinel, .sentinel, .pinned], laidTests := true, laidLooks := .later }
def ShareGreatestUptoCardSaid : Prop := Claim7.holds Tryz.pinned (.plain (OpenSpec.upto shareGreatestSpec)) shareGreatestUptoCard

/-- THE SECOND FORM's CARD OF 'couchantlaw01.ShareFills'. -/
def shareFillsUptoCard : Claim7 := { stood := { row := shareFillsUptoRow, standIns := [], harness := (true, "d7510c7d612f9135e5e2bf9293482730b769e69db1fe005281f6a56b6e528d0f"), looks := true }, kinds := [], alts := [], laidByText := true, laidKinds := [.data, .data, .data, .data, .sentinel, .sentinel, .pinned], laidTests := true, laidLooks := .later }
def ShareFillsUptoCardSaid : Prop := Claim7.holds Tryz.pinned (.plain (OpenSpec.upto shareFillsSpec)) shareFillsUptoCard

/-- THE SECOND FORM's CARD OF 'couchantlaw01.ShareLater'. -/
def shareLaterUptoCard : Claim7 := { stood := { row := shareLaterUptoRow, standIns := [], harness := (true, "d7510c7d612f9135e5e2bf9293482730b769e69db1fe005281f6a56b6e528d0f"), looks := true }, kinds := [], alts := [], laidByText := true, laidKinds := [.data, .data, .data, .data, .sentinel, .sentinel, .pinned], laidTests := true, laidLooks := .later }
def ShareLaterUptoCardSaid : Prop := Claim7.holds Tryz.pinned (.plain (OpenSpec.upto shareLaterSpec)) shareLaterUptoCard

/-- THE SECOND FORM's CARD OF 'couchantlaw01.ShareMemory'. -/
def shareMemoryUptoCard : Claim7 := { stood := { row := shareMemoryUptoRow, standIns := [], harness := (true, "d7510c7d612f9135e5e2bf9293482730b769e69db1fe005281f6a56b6e528d0f"), looks := true }, kinds := [], alts := [], laidByText := true, laidKinds := [.data, .data, .data, .data, .sentinel, .sentinel, .pinned], laidTests := true, laidLooks := .later }
def ShareMemoryUptoCardSaid : Prop := Claim7.holds Tryz.pinned (.plain (OpenSpec.upto shareMemorySpec)) shareMemoryUptoCard
end Rows
end Go.Proofs.YtcjpecdnenemaaaGreatDoor
