/-
  DERIVED. GIVEN WITH THE SEED: THE CARDS: each row of YtbmlckhjjfipbaaDoorRows.lean that lists a variable, with what it lists TIED to the program's text (the seventh form; the later family's looks); each row that meets fmt, with fmt's text TOLD by the authors' own Lean function (tested against real Go, not proved from fmt's source: count such statements apart). THE CARD IS WHAT COUNTS. Prove the row's statement (the work); the ties are given (YtbmlckhjjfipbaaDoorTie.lean); close each card by the builder's one call (the guide's Derived/Test/ToyasCard.lean, 'card_holds'). Laid BY PROGRAM, IN A SANDBOX (cutbox-door.mjs). By AI agents, Wed Nov 11 2026. No macro, syntax, notation, axiom, sorry.
-/
import Derived.Test.YtbmlckhjjfipbaaDoorRows
import GoSem.ClaimSeven
namespace Go.Proofs.YtbmlckhjjfipbaaDoor
namespace Rows

/-- THE TIED CARD OF 'laws.FnTokenLife'. -/
def fnTokenLifeCard : Claim7 := { stood := { row := fnTokenLifeRow, standIns := [], harness := (true, "045e2574f635b293682572feaa21f6fb62a571b402611ec65467b93b3d7aa56b"), looks := true }, kinds := [], alts := [], laidByText := true, laidKinds := [.sentinel], laidTests := true, laidLooks := .later }
def FnTokenLifeCardSaid : Prop := Claim7.holds Tryd.pinned (.plain (OpenSpec.ofChange fnTokenLifeSpec)) fnTokenLifeCard

/-- THE TIED CARD OF 'laws.FnTokenAddress'. -/
def fnTokenAddressCard : Claim7 := { stood := { row := fnTokenAddressRow, standIns := [], harness := (true, "045e2574f635b293682572feaa21f6fb62a571b402611ec65467b93b3d7aa56b"), looks := true }, kinds := [], alts := [], laidByText := true, laidKinds := [.sentinel], laidTests := true, laidLooks := .later }
def FnTokenAddressCardSaid : Prop := Claim7.holds Tryd.pinned (.plain (OpenSpec.ofChange fnTokenAddressSpec)) fnTokenAddressCard

/-- THE TIED CARD OF 'laws.FnTokenTag'. -/
def fnTokenTagCard : Claim7 := { stood := { row := fnTokenTagRow, standIns := [], harness := (true, "045e2574f635b293682572feaa21f6fb62a571b402611ec65467b93b3d7aa56b"), looks := true }, kinds := [], alts := [], laidByText := true, laidKinds := [.sentinel], laidTests := true, laidLooks := .later }
def FnTokenTagCardSaid : Prop := Claim7.holds Tryd.pinned (.plain (OpenSpec.ofChange fnTokenTagSpec)) fnTokenTagCard

/-- THE TIED CARD OF 'laws.FnTokenGenuine'. -/
def fnTokenGenuineCard : Claim7 := { stood := { row := fnTokenGenuineRow, standIns := [], harness := (true, "045e2574f635b293682572feaa21f6fb62a571b402611ec65467b93b3d7aa56b"), looks := true }, kinds := [], alts := [], laidByText := true, laidKinds := [.sentinel], laidTests := true, laidLooks := .later }
def FnTokenGenuineCardSaid : Prop := Claim7.holds Tryd.pinned (.plain (OpenSpec.ofChange fnTokenGenuineSpec)) fnTokenGenuineCard

/-- THE TIED CARD OF 'laws.FnExactTokenAccept'. -/
def fnExactTokenAcceptCard : Claim7 := { stood := { row := fnExactTokenAcceptRow, standIns := [], harness := (true, "045e2574f635b293682572feaa21f6fb62a571b402611ec65467b93b3d7aa56b"), looks := true }, kinds := [], alts := [], laidByText := true, laidKinds := [.sentinel], laidTests := true, laidLooks := .later }
def FnExactTokenAcceptCardSaid : Prop := Claim7.holds Tryd.pinned (.plain (OpenSpec.ofChange fnExactTokenAcceptSpec)) fnExactTokenAcceptCard

/-- THE SECOND FORM's CARD OF 'laws.FnTokenLife'. -/
def fnTokenLifeUptoCard : Claim7 := { stood := { row := fnTokenLifeUptoRow, standIns := [], harness := (true, "045e2574f635b293682572feaa21f6fb62a571b402611ec65467b93b3d7aa56b"), looks := true }, kinds := [], alts := [], laidByText := true, laidKinds := [.sentinel], laidTests := true, laidLooks := .later }
def FnTokenLifeUptoCardSaid : Prop := Claim7.holds Tryd.pinned (.plain (OpenSpec.upto fnTokenLifeSpec)) fnTokenLifeUptoCard

/-- THE SECOND FORM's CARD OF 'laws.FnTokenAddress'. -/
def fnTokenAddressUptoCard : Claim7 := { stood := { row := fnTokenAddressUptoRow, standIns := [], harness := (true, "045e2574f635b293682572feaa21f6fb62a571b402611ec65467b93b3d7aa56b"), looks := true }, kinds := [], alts := [], laidByText := true, laidKinds := [.sentinel], laidTests := true, laidLooks := .later }
def FnTokenAddressUptoCardSaid : Prop := Claim7.holds Tryd.pinned (.plain (OpenSpec.upto fnTokenAddressSpec)) fnTokenAddressUptoCard

/-- THE SECOND FORM's CARD OF 'laws.FnTokenTag'. -/
def fnTokenTagUptoCard : Claim7 := { stood := { row := fnTokenTagUptoRow, standIns := [], harness := (true, "045e2574f635b293682572feaa21f6fb62a571b402611ec65467b93b3d7aa56b"), looks := true }, kinds := [], alts := [], laidByText := true, laidKinds := [.sentinel], laidTests := true, laidLooks := .later }
def FnTokenTagUptoCardSaid : Prop := Claim7.holds Tryd.pinned (.plain (OpenSpec.upto fnTokenTagSpec)) fnTokenTagUptoCard

/-- THE SECOND FORM's CARD OF 'laws.FnTokenGenuine'. -/
def fnTokenGenuineUptoCard : Claim7 := { stood := { row := fnTokenGenuineUptoRow, standIns := [], harness := (true, "045e2574f635b293682572feaa21f6fb62a571b402611ec65467b93b3d7aa56b"), looks := true }, kinds := [], alts := [], laidByText := true, laidKinds := [.sentinel], laidTests := true, laidLooks := .later }
def FnTokenGenuineUptoCardSaid : Prop := Claim7.holds Tryd.pinned (.plain (OpenSpec.upto fnTokenGenuineSpec)) fnTokenGenuineUptoCard

/-- THE SECOND FORM's CARD OF 'laws.FnExactTokenAccept'. -/
def fnExactTokenAcceptUptoCard : Claim7 := { stood := { row := fnExactTokenAcceptUptoRow, standIns := [], harness := (true, "045e2574f635b293682572feaa21f6fb62a571b402611ec65467b93b3d7aa56b"), looks := true }, kinds := [], alts := [], laidByText := true, laidKinds := [.sentinel], laidTests := true, laidLooks := .later }
def FnExactTokenAcceptUptoCardSaid : Prop := Claim7.holds Tryd.pinned (.plain (OpenSpec.upto fnExactTokenAcceptSpec)) fnExactTokenAcceptUptoCard
end Rows
end Go.Proofs.YtbmlckhjjfipbaaDoor
