/-
  DERIVED. GIVEN WITH THE SEED: THE CARDS: each row of YtkdcafigcodbgaaDoorRows.lean that lists a variable, with what it lists TIED to the program's text (the seventh form; the later family's looks); each row that meets fmt, with fmt's text TOLD by the authors' own Lean function (tested against real Go, not proved from fmt's source: count such statements apart). THE CARD IS WHAT COUNTS. Prove the row's statement (the work); the ties are given (YtkdcafigcodbgaaDoorTie.lean); close each card by the builder's one call (the guide's Derived/Test/ToyasCard.lean, 'card_holds'). Laid BY PROGRAM, IN A SANDBOX (cutbox-door.mjs). By AI agents, Wed Nov 11 2026. No macro, syntax, notation, axiom, sorry.
-/
import Derived.Test.YtkdcafigcodbgaaDoorRows
import GoSem.ClaimSeven
namespace Go.Proofs.YtkdcafigcodbgaaDoor
namespace Rows

/-- THE TIED CARD OF 'curfewlaw19.StableAll'. -/
def stableAllCard : Claim7 := { stood := { row := stableAllRow, standIns := [], harness := (true, "7d1bdd5f1dd5332340218e4d0705366ffd5a434ee3cb6d9f6439531d2eb6fc38"), looks := false }, kinds := [], alts := [], laidByText := true, laidKinds := [.data], laidTests := true, laidLooks := .later }
def StableAllCardSaid : Prop := Claim7.holds Tryd.pinned (.plain (OpenSpec.ofChange stableAllSpec)) stableAllCard

/-- THE TIED CARD OF 'curfewlaw19.StableRead'. -/
def stableReadCard : Claim7 := { stood := { row := stableReadRow, standIns := [], harness := (true, "7d1bdd5f1dd5332340218e4d0705366ffd5a434ee3cb6d9f6439531d2eb6fc38"), looks := false }, kinds := [], alts := [], laidByText := true, laidKinds := [.data], laidTests := true, laidLooks := .later }
def StableReadCardSaid : Prop := Claim7.holds Tryd.pinned (.plain (OpenSpec.ofChange stableReadSpec)) stableReadCard

/-- THE TIED CARD OF 'curfewlaw19.StableEnd'. -/
def stableEndCard : Claim7 := { stood := { row := stableEndRow, standIns := [], harness := (true, "7d1bdd5f1dd5332340218e4d0705366ffd5a434ee3cb6d9f6439531d2eb6fc38"), looks := false }, kinds := [], alts := [], laidByText := true, laidKinds := [.data], laidTests := true, laidLooks := .later }
def StableEndCardSaid : Prop := Claim7.holds Tryd.pinned (.plain (OpenSpec.ofChange stableEndSpec)) stableEndCard

/-- THE TIED CARD OF 'curfewlaw19.StableNone'. -/
def stableNoneCard : Claim7 := { stood := { row := stableNoneRow, standIns := [], harness := (true, "7d1bdd5f1dd5332340218e4d0705366ffd5a434ee3cb6d9f6439531d2eb6fc38"), looks := false }, kinds := [], alts := [], laidByText := true, laidKinds := [.data], laidTests := true, laidLooks := .later }
def StableNoneCardSaid : Prop := Claim7.holds Tryd.pinned (.plain (OpenSpec.ofChange stableNoneSpec)) stableNoneCard

/-- THE TIED CARD OF 'curfewlaw19.StableRise'. -/
def stableRiseCard : Claim7 := { stood := { row := stableRiseRow, standIns := [], harness := (true, "7d1bdd5f1dd5332340218e4d0705366ffd5a434ee3cb6d9f6439531d2eb6fc38"), looks := false }, kinds := [], alts := [], laidByText := true, laidKinds := [.data], laidTests := true, laidLooks := .later }
def StableRiseCardSaid : Prop := Claim7.holds Tryd.pinned (.plain (OpenSpec.ofChange stableRiseSpec)) stableRiseCard

/-- THE TIED CARD OF 'curfewlaw19.StableTwins'. -/
def stableTwinsCard : Claim7 := { stood := { row := stableTwinsRow, standIns := [], harness := (true, "7d1bdd5f1dd5332340218e4d0705366ffd5a434ee3cb6d9f6439531d2eb6fc38"), looks := false }, kinds := [], alts := [], laidByText := true, laidKinds := [.data], laidTests := true, laidLooks := .later }
def StableTwinsCardSaid : Prop := Claim7.holds Tryd.pinned (.plain (OpenSpec.ofChange stableTwinsSpec)) stableTwinsCard

/-- THE SECOND FORM's CARD OF 'curfewlaw19.StableAll'. -/
def stableAllUptoCard : Claim7 := { stood := { row := stableAllUptoRow, standIns := [], harness := (true, "7d1bdd5f1dd5332340218e4d0705366ffd5a434ee3cb6d9f6439531d2eb6fc38"), looks := false }, kinds := [], alts := [], laidByText := true, laidKinds := [.data], laidTests := true, laidLooks := .later }
def StableAllUptoCardSaid : Prop := Claim7.holds Tryd.pinned (.plain (OpenSpec.upto stableAllSpec)) stableAllUptoCard

/-- THE SECOND FORM's CARD OF 'curfewlaw19.StableRead'. -/
def stableReadUptoCard : Claim7 := { stood := { row := stableReadUptoRow, standIns := [], harness := (true, "7d1bdd5f1dd5332340218e4d0705366ffd5a434ee3cb6d9f6439531d2eb6fc38"), looks := false }, kinds := [], alts := [], laidByText := true, laidKinds := [.data], laidTests := true, laidLooks := .later }
def StableReadUptoCardSaid : Prop := Claim7.holds Tryd.pinned (.plain (OpenSpec.upto stableReadSpec)) stableReadUptoCard

/-- THE SECOND FORM's CARD OF 'curfewlaw19.StableEnd'. -/
def stableEndUptoCard : Claim7 := { stood := { row := stableEndUptoRow, standIns := [], harness := (true, "7d1bdd5f1dd5332340218e4d0705366ffd5a434ee3cb6d9f6439531d2eb6fc38"), looks := false }, kinds := [], alts := [], laidByText := true, laidKinds := [.data], laidTests := true, laidLooks := .later }
def StableEndUptoCardSaid : Prop := Claim7.holds Tryd.pinned (.plain (OpenSpec.upto stableEndSpec)) stableEndUptoCard

/-- THE SECOND FORM's CARD OF 'curfewlaw19.StableNone'. -/
def stableNoneUptoCard : Claim7 := { stood := { row := stableNoneUptoRow, standIns := [], harness := (true, "7d1bdd5f1dd5332340218e4d0705366ffd5a434ee3cb6d9f6439531d2eb6fc38"), looks := false }, kinds := [], alts := [], laidByText := true, laidKinds := [.data], laidTests := true, laidLooks := .later }
def StableNoneUptoCardSaid : Prop := Claim7.holds Tryd.pinned (.plain (OpenSpec.upto stableNoneSpec)) stableNoneUptoCard

/-- THE SECOND FORM's CARD OF 'curfewlaw19.StableRise'. -/
def stableRiseUptoCard : Claim7 := { stood := { row := stableRiseUptoRow, standIns := [], harness := (true, "7d1bdd5f1dd5332340218e4d0705366ffd5a434ee3cb6d9f6439531d2eb6fc38"), looks := false }, kinds := [], alts := [], laidByText := true, laidKinds := [.data], laidTests := true, laidLooks := .later }
def StableRiseUptoCardSaid : Prop := Claim7.holds Tryd.pinned (.plain (OpenSpec.upto stableRiseSpec)) stableRiseUptoCard

/-- THE SECOND FORM's CARD OF 'curfewlaw19.StableTwins'. -/
def stableTwinsUptoCard : Claim7 := { stood := { row := stableTwinsUptoRow, standIns := [], harness := (true, "7d1bdd5f1dd5332340218e4d0705366ffd5a434ee3cb6d9f6439531d2eb6fc38"), looks := false }, kinds := [], alts := [], laidByText := true, laidKinds := [.data], laidTests := true, laidLooks := .later }
def StableTwinsUptoCardSaid : Prop := Claim7.holds Tryd.pinned (.plain (OpenSpec.upto stableTwinsSpec)) stableTwinsUptoCard
end Rows
end Go.Proofs.YtkdcafigcodbgaaDoor
