/-
  DERIVED. GIVEN WITH THE SEED: THE CARDS: each row of YtfijjdahoimoeaaDoorRows.lean that lists a variable, with what it lists TIED to the program's text (the seventh form; the later family's looks); each row that meets fmt, with fmt's text TOLD by the authors' own Lean function (tested against real Go, not proved from fmt's source: count such statements apart). THE CARD IS WHAT COUNTS. Prove the row's statement (the work); the ties are given (YtfijjdahoimoeaaDoorTie.lean); close each card by the builder's one call (the guide's Derived/Test/ToyasCard.lean, 'card_holds'). Laid BY PROGRAM, IN A SANDBOX (cutbox-door.mjs). By AI agents, Wed Nov 11 2026. No macro, syntax, notation, axiom, sorry.
-/
import Derived.Test.YtfijjdahoimoeaaDoorRows
import GoSem.ClaimSeven
namespace Go.Proofs.YtfijjdahoimoeaaDoor
namespace Rows

/-- THE TIED CARD OF 'curfewlaw17.GramAll'. -/
def gramAllCard : Claim7 := { stood := { row := gramAllRow, standIns := [], harness := (true, "a6e69579315c481f8625b18f13e1e855ee3baac4e59c6cf3a5f7c2eba89f3ef5"), looks := false }, kinds := [], alts := [], laidByText := true, laidKinds := [.data], laidTests := true, laidLooks := .later }
def GramAllCardSaid : Prop := Claim7.holds Tryd.pinned (.plain (OpenSpec.ofChange gramAllSpec)) gramAllCard

/-- THE TIED CARD OF 'curfewlaw17.GramBoots'. -/
def gramBootsCard : Claim7 := { stood := { row := gramBootsRow, standIns := [], harness := (true, "a6e69579315c481f8625b18f13e1e855ee3baac4e59c6cf3a5f7c2eba89f3ef5"), looks := false }, kinds := [], alts := [], laidByText := true, laidKinds := [.data], laidTests := true, laidLooks := .later }
def GramBootsCardSaid : Prop := Claim7.holds Tryd.pinned (.plain (OpenSpec.ofChange gramBootsSpec)) gramBootsCard

/-- THE TIED CARD OF 'curfewlaw17.GramNone'. -/
def gramNoneCard : Claim7 := { stood := { row := gramNoneRow, standIns := [], harness := (true, "a6e69579315c481f8625b18f13e1e855ee3baac4e59c6cf3a5f7c2eba89f3ef5"), looks := false }, kinds := [], alts := [], laidByText := true, laidKinds := [.data], laidTests := true, laidLooks := .later }
def GramNoneCardSaid : Prop := Claim7.holds Tryd.pinned (.plain (OpenSpec.ofChange gramNoneSpec)) gramNoneCard

/-- THE TIED CARD OF 'curfewlaw17.GramTook'. -/
def gramTookCard : Claim7 := { stood := { row := gramTookRow, standIns := [], harness := (true, "a6e69579315c481f8625b18f13e1e855ee3baac4e59c6cf3a5f7c2eba89f3ef5"), looks := false }, kinds := [], alts := [], laidByText := true, laidKinds := [.data], laidTests := true, laidLooks := .later }
def GramTookCardSaid : Prop := Claim7.holds Tryd.pinned (.plain (OpenSpec.ofChange gramTookSpec)) gramTookCard

/-- THE TIED CARD OF 'curfewlaw17.GramWhole'. -/
def gramWholeCard : Claim7 := { stood := { row := gramWholeRow, standIns := [], harness := (true, "a6e69579315c481f8625b18f13e1e855ee3baac4e59c6cf3a5f7c2eba89f3ef5"), looks := false }, kinds := [], alts := [], laidByText := true, laidKinds := [.data], laidTests := true, laidLooks := .later }
def GramWholeCardSaid : Prop := Claim7.holds Tryd.pinned (.plain (OpenSpec.ofChange gramWholeSpec)) gramWholeCard

/-- THE SECOND FORM's CARD OF 'curfewlaw17.GramAll'. -/
def gramAllUptoCard : Claim7 := { stood := { row := gramAllUptoRow, standIns := [], harness := (true, "a6e69579315c481f8625b18f13e1e855ee3baac4e59c6cf3a5f7c2eba89f3ef5"), looks := false }, kinds := [], alts := [], laidByText := true, laidKinds := [.data], laidTests := true, laidLooks := .later }
def GramAllUptoCardSaid : Prop := Claim7.holds Tryd.pinned (.plain (OpenSpec.upto gramAllSpec)) gramAllUptoCard

/-- THE SECOND FORM's CARD OF 'curfewlaw17.GramBoots'. -/
def gramBootsUptoCard : Claim7 := { stood := { row := gramBootsUptoRow, standIns := [], harness := (true, "a6e69579315c481f8625b18f13e1e855ee3baac4e59c6cf3a5f7c2eba89f3ef5"), looks := false }, kinds := [], alts := [], laidByText := true, laidKinds := [.data], laidTests := true, laidLooks := .later }
def GramBootsUptoCardSaid : Prop := Claim7.holds Tryd.pinned (.plain (OpenSpec.upto gramBootsSpec)) gramBootsUptoCard

/-- THE SECOND FORM's CARD OF 'curfewlaw17.GramNone'. -/
def gramNoneUptoCard : Claim7 := { stood := { row := gramNoneUptoRow, standIns := [], harness := (true, "a6e69579315c481f8625b18f13e1e855ee3baac4e59c6cf3a5f7c2eba89f3ef5"), looks := false }, kinds := [], alts := [], laidByText := true, laidKinds := [.data], laidTests := true, laidLooks := .later }
def GramNoneUptoCardSaid : Prop := Claim7.holds Tryd.pinned (.plain (OpenSpec.upto gramNoneSpec)) gramNoneUptoCard

/-- THE SECOND FORM's CARD OF 'curfewlaw17.GramTook'. -/
def gramTookUptoCard : Claim7 := { stood := { row := gramTookUptoRow, standIns := [], harness := (true, "a6e69579315c481f8625b18f13e1e855ee3baac4e59c6cf3a5f7c2eba89f3ef5"), looks := false }, kinds := [], alts := [], laidByText := true, laidKinds := [.data], laidTests := true, laidLooks := .later }
def GramTookUptoCardSaid : Prop := Claim7.holds Tryd.pinned (.plain (OpenSpec.upto gramTookSpec)) gramTookUptoCard

/-- THE SECOND FORM's CARD OF 'curfewlaw17.GramWhole'. -/
def gramWholeUptoCard : Claim7 := { stood := { row := gramWholeUptoRow, standIns := [], harness := (true, "a6e69579315c481f8625b18f13e1e855ee3baac4e59c6cf3a5f7c2eba89f3ef5"), looks := false }, kinds := [], alts := [], laidByText := true, laidKinds := [.data], laidTests := true, laidLooks := .later }
def GramWholeUptoCardSaid : Prop := Claim7.holds Tryd.pinned (.plain (OpenSpec.upto gramWholeSpec)) gramWholeUptoCard
end Rows
end Go.Proofs.YtfijjdahoimoeaaDoor
