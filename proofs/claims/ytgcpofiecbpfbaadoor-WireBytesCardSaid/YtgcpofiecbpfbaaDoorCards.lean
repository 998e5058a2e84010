/-
  DERIVED. GIVEN WITH THE SEED: THE CARDS: each row of YtgcpofiecbpfbaaDoorRows.lean that lists a variable, with what it lists TIED to the program's text (the seventh form; the later family's looks); each row that meets fmt, with fmt's text TOLD by the authors' own Lean function (tested against real Go, not proved from fmt's source: count such statements apart). THE CARD IS WHAT COUNTS. Prove the row's statement (the work); the ties are given (YtgcpofiecbpfbaaDoorTie.lean); close each card by the builder's one call (the guide's Derived/Test/ToyasCard.lean, 'card_holds'). Laid BY PROGRAM, IN A SANDBOX (cutbox-door.mjs). By AI agents, Wed Nov 11 2026. No macro, syntax, notation, axiom, sorry.
-/
import Derived.Test.YtgcpofiecbpfbaaDoorRows
import GoSem.ClaimSeven
namespace Go.Proofs.YtgcpofiecbpfbaaDoor
namespace Rows

/-- THE TIED CARD OF 'curfewlaw16.WireMay'. -/
def wireMayCard : Claim7 := { stood := { row := wireMayRow, standIns := [], harness := (true, "8d4f216f895808d730b5d574860aaee41b2a6442d453956de0a35ecf37b2cddd"), looks := false }, kinds := [], alts := [], laidByText := true, laidKinds := [.data], laidTests := true, laidLooks := .later }
def WireMayCardSaid : Prop := Claim7.holds Tryd.pinned (.plain (OpenSpec.ofChange wireMaySpec)) wireMayCard

/-- THE TIED CARD OF 'curfewlaw16.WireBytes'. -/
def wireBytesCard : Claim7 := { stood := { row := wireBytesRow, standIns := [], harness := (true, "8d4f216f895808d730b5d574860aaee41b2a6442d453956de0a35ecf37b2cddd"), looks := false }, kinds := [], alts := [], laidByText := true, laidKinds := [.data], laidTests := true, laidLooks := .later }
def WireBytesCardSaid : Prop := Claim7.holds Tryd.pinned (.plain (OpenSpec.ofChange wireBytesSpec)) wireBytesCard

/-- THE TIED CARD OF 'curfewlaw16.WireAny'. -/
def wireAnyCard : Claim7 := { stood := { row := wireAnyRow, standIns := [], harness := (true, "8d4f216f895808d730b5d574860aaee41b2a6442d453956de0a35ecf37b2cddd"), looks := false }, kinds := [], alts := [], laidByText := true, laidKinds := [.data], laidTests := true, laidLooks := .later }
def WireAnyCardSaid : Prop := Claim7.holds Tryd.pinned (.plain (OpenSpec.ofChange wireAnySpec)) wireAnyCard

/-- THE TIED CARD OF 'curfewlaw16.WireTwins'. -/
def wireTwinsCard : Claim7 := { stood := { row := wireTwinsRow, standIns := [], harness := (true, "8d4f216f895808d730b5d574860aaee41b2a6442d453956de0a35ecf37b2cddd"), looks := false }, kinds := [], alts := [], laidByText := true, laidKinds := [.data], laidTests := true, laidLooks := .later }
def WireTwinsCardSaid : Prop := Claim7.holds Tryd.pinned (.plain (OpenSpec.ofChange wireTwinsSpec)) wireTwinsCard

/-- THE TIED CARD OF 'curfewlaw16.WireEnds'. -/
def wireEndsCard : Claim7 := { stood := { row := wireEndsRow, standIns := [], harness := (true, "8d4f216f895808d730b5d574860aaee41b2a6442d453956de0a35ecf37b2cddd"), looks := false }, kinds := [], alts := [], laidByText := true, laidKinds := [.data], laidTests := true, laidLooks := .later }
def WireEndsCardSaid : Prop := Claim7.holds Tryd.pinned (.plain (OpenSpec.ofChange wireEndsSpec)) wireEndsCard

/-- THE TIED CARD OF 'curfewlaw16.WireKinds'. -/
def wireKindsCard : Claim7 := { stood := { row := wireKindsRow, standIns := [], harness := (true, "8d4f216f895808d730b5d574860aaee41b2a6442d453956de0a35ecf37b2cddd"), looks := false }, kinds := [], alts := [], laidByText := true, laidKinds := [.data], laidTests := true, laidLooks := .later }
def WireKindsCardSaid : Prop := Claim7.holds Tryd.pinned (.plain (OpenSpec.ofChange wireKindsSpec)) wireKindsCard

/-- THE SECOND FORM's CARD OF 'curfewlaw16.WireMay'. -/
def wireMayUptoCard : Claim7 := { stood := { row := wireMayUptoRow, standIns := [], harness := (true, "8d4f216f895808d730b5d574860aaee41b2a6442d453956de0a35ecf37b2cddd"), looks := false }, kinds := [], alts := [], laidByText := true, laidKinds := [.data], laidTests := true, laidLooks := .later }
def WireMayUptoCardSaid : Prop := Claim7.holds Tryd.pinned (.plain (OpenSpec.upto wireMaySpec)) wireMayUptoCard

/-- THE SECOND FORM's CARD OF 'curfewlaw16.WireBytes'. -/
def wireBytesUptoCard : Claim7 := { stood := { row := wireBytesUptoRow, standIns := [], harness := (true, "8d4f216f895808d730b5d574860aaee41b2a6442d453956de0a35ecf37b2cddd"), looks := false }, kinds := [], alts := [], laidByText := true, laidKinds := [.data], laidTests := true, laidLooks := .later }
def WireBytesUptoCardSaid : Prop := Claim7.holds Tryd.pinned (.plain (OpenSpec.upto wireBytesSpec)) wireBytesUptoCard

/-- THE SECOND FORM's CARD OF 'curfewlaw16.WireAny'. -/
def wireAnyUptoCard : Claim7 := { stood := { row := wireAnyUptoRow, standIns := [], harness := (true, "8d4f216f895808d730b5d574860aaee41b2a6442d453956de0a35ecf37b2cddd"), looks := false }, kinds := [], alts := [], laidByText := true, laidKinds := [.data], laidTests := true, laidLooks := .later }
def WireAnyUptoCardSaid : Prop := Claim7.holds Tryd.pinned (.plain (OpenSpec.upto wireAnySpec)) wireAnyUptoCard

/-- THE SECOND FORM's CARD OF 'curfewlaw16.WireTwins'. -/
def wireTwinsUptoCard : Claim7 := { stood := { row := wireTwinsUptoRow, standIns := [], harness := (true, "8d4f216f895808d730b5d574860aaee41b2a6442d453956de0a35ecf37b2cddd"), looks := false }, kinds := [], alts := [], laidByText := true, laidKinds := [.data], laidTests := true, laidLooks := .later }
def WireTwinsUptoCardSaid : Prop := Claim7.holds Tryd.pinned (.plain (OpenSpec.upto wireTwinsSpec)) wireTwinsUptoCard

/-- THE SECOND FORM's CARD OF 'curfewlaw16.WireEnds'. -/
def wireEndsUptoCard : Claim7 := { stood := { row := wireEndsUptoRow, standIns := [], harness := (true, "8d4f216f895808d730b5d574860aaee41b2a6442d453956de0a35ecf37b2cddd"), looks := false }, kinds := [], alts := [], laidByText := true, laidKinds := [.data], laidTests := true, laidLooks := .later }
def WireEndsUptoCardSaid : Prop := Claim7.holds Tryd.pinned (.plain (OpenSpec.upto wireEndsSpec)) wireEndsUptoCard

/-- THE SECOND FORM's CARD OF 'curfewlaw16.WireKinds'. -/
def wireKindsUptoCard : Claim7 := { stood := { row := wireKindsUptoRow, standIns := [], harness := (true, "8d4f216f895808d730b5d574860aaee41b2a6442d453956de0a35ecf37b2cddd"), looks := false }, kinds := [], alts := [], laidByText := true, laidKinds := [.data], laidTests := true, laidLooks := .later }
def WireKindsUptoCardSaid : Prop := Claim7.holds Tryd.pinned (.plain (OpenSpec.upto wireKindsSpec)) wireKindsUptoCard
end Rows
end Go.Proofs.YtgcpofiecbpfbaaDoor
