/-
  DERIVED. GIVEN WITH THE SEED: THE CARDS: each row of YtacipjdaiglnjaaGreatDoorRows.lean that lists a variable, with what it lists TIED to the program's text (the seventh form; the later family's looks); each row that meets fmt, with fmt's text TOLD by the authors' own Lean function (tested against real Go, not proved from fmt's source: count such statements apart). THE CARD IS WHAT COUNTS. Prove the row's statement (the work); the ties are given (YtacipjdaiglnjaaGreatDoorTie.lean); close each card by the builder's one call (the guide's Derived/Test/ToyasCard.lean, 'card_holds'). Laid BY PROGRAM, IN A SANDBOX (cutbox-door.mjs). By AI agents, Wed Nov 11 2026. No macro, syntax, notation, axiom, sorry.
-/
import Derived.Test.YtacipjdaiglnjaaGreatDoorRows
import GoSem.ClaimSeven
namespace Go.Proofs.YtacipjdaiglnjaaGreatDoor
namespace Rows

/-- THE TIED CARD OF 'curfewlaw26.ClientAll'. -/
def clientAllCard : Claim7 := { stood := { row := clientAllRow, standIns := [], harness := (true, "e551ac58b231ba3903da85355f5a722a16dccf7e8152c50e93ca34b75bf25ed1"), looks := false }, kinds := [], alts := [], laidByText := true, laidKinds := [.data], laidTests := true, laidLooks := .later }
def ClientAllCardSaid : Prop := Claim7.holds Tryz.pinned (.plain (OpenSpec.ofChange clientAllSpec)) clientAllCard

/-- THE TIED CARD OF 'curfewlaw26.ClientNone'. -/
def clientNoneCard : Claim7 := { stood := { row := clientNoneRow, standIns := [], harness := (true, "e551ac58b231ba3903da85355f5a722a16dccf7e8152c50e93ca34b75bf25ed1"), looks := false }, kinds := [], alts := [], laidByText := true, laidKinds := [.data], laidTests := true, laidLooks := .later }
def ClientNoneCardSaid : Prop := Claim7.holds Tryz.pinned (.plain (OpenSpec.ofChange clientNoneSpec)) clientNoneCard

/-- THE TIED CARD OF 'curfewlaw26.ClientNoView'. -/
def clientNoViewCard : Claim7 := { stood := { row := clientNoViewRow, standIns := [], harness := (true, "e551ac58b231ba3903da85355f5a722a16dccf7e8152c50e93ca34b75bf25ed1"), looks := false }, kinds := [], alts := [], laidByText := true, laidKinds := [.data], laidTests := true, laidLooks := .later }
def ClientNoViewCardSaid : Prop := Claim7.holds Tryz.pinned (.plain (OpenSpec.ofChange clientNoViewSpec)) clientNoViewCard

/-- THE TIED CARD OF 'curfewlaw26.ClientBusy'. -/
def clientBusyCard : Claim7 := { stood := { row := clientBusyRow, standIns := [], harness := (true, "e551ac58b231ba3903da85355f5a722a16dccf7e8152c50e93ca34b75bf25ed1"), looks := false }, kinds := [], alts := [], laidByText := true, laidKinds := [.data], laidTests := true, laidLooks := .later }
def ClientBusyCardSaid : Prop := Claim7.holds Tryz.pinned (.plain (OpenSpec.ofChange clientBusySpec)) clientBusyCard

/-- THE TIED CARD OF 'curfewlaw26.ClientTwo'. -/
def clientTwoCard : Claim7 := { stood := { row := clientTwoRow, standIns := [], harness := (true, "e551ac58b231ba3903da85355f5a722a16dccf7e8152c50e93ca34b75bf25ed1"), looks := false }, kinds := [], alts := [], laidByText := true, laidKinds := [.data], laidTests := true, laidLooks := .later }
def ClientTwoCardSaid : Prop := Claim7.holds Tryz.pinned (.plain (OpenSpec.ofChange clientTwoSpec)) clientTwoCard

/-- THE SECOND FORM's CARD OF 'curfewlaw26.ClientAll'. -/
def clientAllUptoCard : Claim7 := { stood := { row := clientAllUptoRow, standIns := [], harness := (true, "e551ac58b231ba3903da85355f5a722a16dccf7e8152c50e93ca34b75bf25ed1"), looks := false }, kinds := [], alts := [], laidByText := true, laidKinds := [.data], laidTests := true, laidLooks := .later }
def ClientAllUptoCardSaid : Prop := Claim7.holds Tryz.pinned (.plain (OpenSpec.upto clientAllSpec)) clientAllUptoCard

/-- THE SECOND FORM's CARD OF 'curfewlaw26.ClientNone'. -/
def clientNoneUptoCard : Claim7 := { stood := { row := clientNoneUptoRow, standIns := [], harness := (true, "e551ac58b231ba3903da85355f5a722a16dccf7e8152c50e93ca34b75bf25ed1"), looks := false }, kinds := [], alts := [], laidByText := true, laidKinds := [.data], laidTests := true, laidLooks := .later }
def ClientNoneUptoCardSaid : Prop := Claim7.holds Tryz.pinned (.plain (OpenSpec.upto clientNoneSpec)) clientNoneUptoCard

/-- THE SECOND FORM's CARD OF 'curfewlaw26.ClientNoView'. -/
def clientNoViewUptoCard : Claim7 := { stood := { row := clientNoViewUptoRow, standIns := [], harness := (true, "e551ac58b231ba3903da85355f5a722a16dccf7e8152c50e93ca34b75bf25ed1"), looks := false }, kinds := [], alts := [], laidByText := true, laidKinds := [.data], laidTests := true, laidLooks := .later }
def ClientNoViewUptoCardSaid : Prop := Claim7.holds Tryz.pinned (.plain (OpenSpec.upto clientNoViewSpec)) clientNoViewUptoCard

/-- THE SECOND FORM's CARD OF 'curfewlaw26.ClientBusy'. -/
def clientBusyUptoCard : Claim7 := { stood := { row := clientBusyUptoRow, standIns := [], harness := (true, "e551ac58b231ba3903da85355f5a722a16dccf7e8152c50e93ca34b75bf25ed1"), looks := false }, kinds := [], alts := [], laidByText := true, laidKinds := [.data], laidTests := true, laidLooks := .later }
def ClientBusyUptoCardSaid : Prop := Claim7.holds Tryz.pinned (.plain (OpenSpec.upto clientBusySpec)) clientBusyUptoCard

/-- THE SECOND FORM's CARD OF 'curfewlaw26.ClientTwo'. -/
def clientTwoUptoCard : Claim7 := { stood := { row := clientTwoUptoRow, standIns := [], harness := (true, "e551ac58b231ba3903da85355f5a722a16dccf7e8152c50e93ca34b75bf25ed1"), looks := false }, kinds := [], alts := [], laidByText := true, laidKinds := [.data], laidTests := true, laidLooks := .later }
def ClientTwoUptoCardSaid : Prop := Claim7.holds Tryz.pinned (.plain (OpenSpec.upto clientTwoSpec)) clientTwoUptoCard
end Rows
end Go.Proofs.YtacipjdaiglnjaaGreatDoor
