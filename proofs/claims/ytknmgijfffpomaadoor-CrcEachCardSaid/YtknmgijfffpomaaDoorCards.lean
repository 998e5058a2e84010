/-
  DERIVED. GIVEN WITH THE SEED: THE CARDS: each row of YtknmgijfffpomaaDoorRows.lean that lists a variable, with what it lists TIED to the program's text (the seventh form; the later family's looks); each row that meets fmt, with fmt's text TOLD by the authors' own Lean function (tested against real Go, not proved from fmt's source: count such statements apart). THE CARD IS WHAT COUNTS. Prove the row's statement (the work); the ties are given (YtknmgijfffpomaaDoorTie.lean); close each card by the builder's one call (the guide's Derived/Test/ToyasCard.lean, 'card_holds'). Laid BY PROGRAM, IN A SANDBOX (cutbox-door.mjs). By AI agents, Wed Nov 11 2026. No macro, syntax, notation, axiom, sorry.
-/
import Derived.Test.YtknmgijfffpomaaDoorRows
import GoSem.ClaimSeven
namespace Go.Proofs.YtknmgijfffpomaaDoor
namespace Rows

/-- THE TIED CARD OF 'curfewlaw2.CrcAll'. -/
def crcAllCard : Claim7 := { stood := { row := crcAllRow, standIns := [], harness := (true, "f2a068e2ca101dc5bf8df95c249c488693791f5a1cd76507f617d0869d295e28"), looks := false }, kinds := [], alts := [], laidByText := true, laidKinds := [.data], laidTests := true, laidLooks := .later }
def CrcAllCardSaid : Prop := Claim7.holds Tryd.pinned (.plain (OpenSpec.ofChange crcAllSpec)) crcAllCard

/-- THE TIED CARD OF 'curfewlaw2.CrcBurst'. -/
def crcBurstCard : Claim7 := { stood := { row := crcBurstRow, standIns := [], harness := (true, "f2a068e2ca101dc5bf8df95c249c488693791f5a1cd76507f617d0869d295e28"), looks := false }, kinds := [], alts := [], laidByText := true, laidKinds := [.data], laidTests := true, laidLooks := .later }
def CrcBurstCardSaid : Prop := Claim7.holds Tryd.pinned (.plain (OpenSpec.ofChange crcBurstSpec)) crcBurstCard

/-- THE TIED CARD OF 'curfewlaw2.CrcThree'. -/
def crcThreeCard : Claim7 := { stood := { row := crcThreeRow, standIns := [], harness := (true, "f2a068e2ca101dc5bf8df95c249c488693791f5a1cd76507f617d0869d295e28"), looks := false }, kinds := [], alts := [], laidByText := true, laidKinds := [.data], laidTests := true, laidLooks := .later }
def CrcThreeCardSaid : Prop := Claim7.holds Tryd.pinned (.plain (OpenSpec.ofChange crcThreeSpec)) crcThreeCard

/-- THE TIED CARD OF 'curfewlaw2.CrcEach'. -/
def crcEachCard : Claim7 := { stood := { row := crcEachRow, standIns := [], harness := (true, "f2a068e2ca101dc5bf8df95c249c488693791f5a1cd76507f617d0869d295e28"), looks := false }, kinds := [], alts := [], laidByText := true, laidKinds := [.data], laidTests := true, laidLooks := .later }
def CrcEachCardSaid : Prop := Claim7.holds Tryd.pinned (.plain (OpenSpec.ofChange crcEachSpec)) crcEachCard

/-- THE SECOND FORM's CARD OF 'curfewlaw2.CrcAll'. -/
def crcAllUptoCard : Claim7 := { stood := { row := crcAllUptoRow, standIns := [], harness := (true, "f2a068e2ca101dc5bf8df95c249c488693791f5a1cd76507f617d0869d295e28"), looks := false }, kinds := [], alts := [], laidByText := true, laidKinds := [.data], laidTests := true, laidLooks := .later }
def CrcAllUptoCardSaid : Prop := Claim7.holds Tryd.pinned (.plain (OpenSpec.upto crcAllSpec)) crcAllUptoCard

/-- THE SECOND FORM's CARD OF 'curfewlaw2.CrcBurst'. -/
def crcBurstUptoCard : Claim7 := { stood := { row := crcBurstUptoRow, standIns := [], harness := (true, "f2a068e2ca101dc5bf8df95c249c488693791f5a1cd76507f617d0869d295e28"), looks := false }, kinds := [], alts := [], laidByText := true, laidKinds := [.data], laidTests := true, laidLooks := .later }
def CrcBurstUptoCardSaid : Prop := Claim7.holds Tryd.pinned (.plain (OpenSpec.upto crcBurstSpec)) crcBurstUptoCard

/-- THE SECOND FORM's CARD OF 'curfewlaw2.CrcThree'. -/
def crcThreeUptoCard : Claim7 := { stood := { row := crcThreeUptoRow, standIns := [], harness := (true, "f2a068e2ca101dc5bf8df95c249c488693791f5a1cd76507f617d0869d295e28"), looks := false }, kinds := [], alts := [], laidByText := true, laidKinds := [.data], laidTests := true, laidLooks := .later }
def CrcThreeUptoCardSaid : Prop := Claim7.holds Tryd.pinned (.plain (OpenSpec.upto crcThreeSpec)) crcThreeUptoCard

/-- THE SECOND FORM's CARD OF 'curfewlaw2.CrcEach'. -/
def crcEachUptoCard : Claim7 := { stood := { row := crcEachUptoRow, standIns := [], harness := (true, "f2a068e2ca101dc5bf8df95c249c488693791f5a1cd76507f617d0869d295e28"), looks := false }, kinds := [], alts := [], laidByText := true, laidKinds := [.data], laidTests := true, laidLooks := .later }
def CrcEachUptoCardSaid : Prop := Claim7.holds Tryd.pinned (.plain (OpenSpec.upto crcEachSpec)) crcEachUptoCard
end Rows
end Go.Proofs.YtknmgijfffpomaaDoor
