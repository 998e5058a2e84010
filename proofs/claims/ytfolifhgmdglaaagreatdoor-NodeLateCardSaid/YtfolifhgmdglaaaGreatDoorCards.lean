/-
  DERIVED. GIVEN WITH THE SEED: THE CARDS: each row of YtfolifhgmdglaaaGreatDoorRows.lean that lists a variable, with what it lists TIED to the program's text (the seventh form; the later family's looks); each row that meets fmt, with fmt's text TOLD by the authors' own Lean function (tested against real Go, not proved from fmt's source: count such statements apart). THE CARD IS WHAT COUNTS. Prove the row's statement (the work); the ties are given (YtfolifhgmdglaaaGreatDoorTie.lean); close each card by the builder's one call (the guide's Derived/Test/ToyasCard.lean, 'card_holds'). Laid BY PROGRAM, IN A SANDBOX (cutbox-door.mjs). By AI agents, Wed Nov 11 2026. No macro, syntax, notation, axiom, sorry.
-/
import Derived.Test.YtfolifhgmdglaaaGreatDoorRows
import GoSem.ClaimSeven
namespace Go.Proofs.YtfolifhgmdglaaaGreatDoor
namespace Rows

/-- THE TIED CARD OF 'curfewlaw25.NodeNone'. -/
def nodeNoneCard : Claim7 := { stood := { row := nodeNoneRow, standIns := [], harness := (true, "1f7b6a626001cf11cf8fdc8627fb8466b3e7b39148af4e1f8a5ee9f7db2ec472"), looks := false }, kinds := [], alts := [], laidByText := true, laidKinds := [.data], laidTests := true, laidLooks := .later }
def NodeNoneCardSaid : Prop := Claim7.holds Tryz.pinned (.plain (OpenSpec.ofChange nodeNoneSpec)) nodeNoneCard

/-- THE TIED CARD OF 'curfewlaw25.NodePromise'. -/
def nodePromiseCard : Claim7 := { stood := { row := nodePromiseRow, standIns := [], harness := (true, "1f7b6a626001cf11cf8fdc8627fb8466b3e7b39148af4e1f8a5ee9f7db2ec472"), looks := false }, kinds := [], alts := [], laidByText := true, laidKinds := [.data], laidTests := true, laidLooks := .later }
def NodePromiseCardSaid : Prop := Claim7.holds Tryz.pinned (.plain (OpenSpec.ofChange nodePromiseSpec)) nodePromiseCard

/-- THE TIED CARD OF 'curfewlaw25.NodeForgot'. -/
def nodeForgotCard : Claim7 := { stood := { row := nodeForgotRow, standIns := [], harness := (true, "1f7b6a626001cf11cf8fdc8627fb8466b3e7b39148af4e1f8a5ee9f7db2ec472"), looks := false }, kinds := [], alts := [], laidByText := true, laidKinds := [.data], laidTests := true, laidLooks := .later }
def NodeForgotCardSaid : Prop := Claim7.holds Tryz.pinned (.plain (OpenSpec.ofChange nodeForgotSpec)) nodeForgotCard

/-- THE TIED CARD OF 'curfewlaw25.NodePing'. -/
def nodePingCard : Claim7 := { stood := { row := nodePingRow, standIns := [], harness := (true, "1f7b6a626001cf11cf8fdc8627fb8466b3e7b39148af4e1f8a5ee9f7db2ec472"), looks := false }, kinds := [], alts := [], laidByText := true, laidKinds := [.data], laidTests := true, laidLooks := .later }
def NodePingCardSaid : Prop := Claim7.holds Tryz.pinned (.plain (OpenSpec.ofChange nodePingSpec)) nodePingCard

/-- THE TIED CARD OF 'curfewlaw25.NodePatience'. -/
def nodePatienceCard : Claim7 := { stood := { row := nodePatienceRow, standIns := [], harness := (true, "1f7b6a626001cf11cf8fdc8627fb8466b3e7b39148af4e1f8a5ee9f7db2ec472"), looks := false }, kinds := [], alts := [], laidByText := true, laidKinds := [.data], laidTests := true, laidLooks := .later }
def NodePatienceCardSaid : Prop := Claim7.holds Tryz.pinned (.plain (OpenSpec.ofChange nodePatienceSpec)) nodePatienceCard

/-- THE TIED CARD OF 'curfewlaw25.NodeDenied'. -/
def nodeDeniedCard : Claim7 := { stood := { row := nodeDeniedRow, standIns := [], harness := (true, "1f7b6a626001cf11cf8fdc8627fb8466b3e7b39148af4e1f8a5ee9f7db2ec472"), looks := false }, kinds := [], alts := [], laidByText := true, laidKinds := [.data], laidTests := true, laidLooks := .later }
def NodeDeniedCardSaid : Prop := Claim7.holds Tryz.pinned (.plain (OpenSpec.ofChange nodeDeniedSpec)) nodeDeniedCard

/-- THE TIED CARD OF 'curfewlaw25.NodeLate'. -/
def nodeLateCard : Claim7 := { stood := { row := nodeLateRow, standIns := [], harness := (true, "1f7b6a626001cf11cf8fdc8627fb8466b3e7b39148af4e1f8a5ee9f7db2ec472"), looks := false }, kinds := [], alts := [], laidByText := true, laidKinds := [.data], laidTests := true, laidLooks := .later }
def NodeLateCardSaid : Prop := Claim7.holds Tryz.pinned (.plain (OpenSpec.ofChange nodeLateSpec)) nodeLateCard

/-- THE SECOND FORM's CARD OF 'curfewlaw25.NodeNone'. -/
def nodeNoneUptoCard : Claim7 := { stood := { row := nodeNoneUptoRow, standIns := [], harness := (true, "1f7b6a626001cf11cf8fdc8627fb8466b3e7b39148af4e1f8a5ee9f7db2ec472"), looks := false }, kinds := [], alts := [], laidByText := true, laidKinds := [.data], laidTests := true, laidLooks := .later }
def NodeNoneUptoCardSaid : Prop := Claim7.holds Tryz.pinned (.plain (OpenSpec.upto nodeNoneSpec)) nodeNoneUptoCard

/-- THE SECOND FORM's CARD OF 'curfewlaw25.NodePromise'. -/
def nodePromiseUptoCard : Claim7 := { stood := { row := nodePromiseUptoRow, standIns := [], harness := (true, "1f7b6a626001cf11cf8fdc8627fb8466b3e7b39148af4e1f8a5ee9f7db2ec472"), looks := false }, kinds := [], alts := [], laidByText := true, laidKinds := [.data], laidTests := true, laidLooks := .later }
def NodePromiseUptoCardSaid : Prop := Claim7.holds Tryz.pinned (.plain (OpenSpec.upto nodePromiseSpec)) nodePromiseUptoCard

/-- THE SECOND FORM's CARD OF 'curfewlaw25.NodeForgot'. -/
def nodeForgotUptoCard : Claim7 := { stood := { row := nodeForgotUptoRow, standIns := [], harness := (true, "1f7b6a626001cf11cf8fdc8627fb8466b3e7b39148af4e1f8a5ee9f7db2ec472"), looks := false }, kinds := [], alts := [], laidByText := true, laidKinds := [.data], laidTests := true, laidLooks := .later }
def NodeForgotUptoCardSaid : Prop := Claim7.holds Tryz.pinned (.plain (OpenSpec.upto nodeForgotSpec)) nodeForgotUptoCard

/-- THE SECOND FORM's CARD OF 'curfewlaw25.NodePing'. -/
def nodePingUptoCard : Claim7 := { stood := { row := nodePingUptoRow, standIns := [], harness := (true, "1f7b6a626001cf11cf8fdc8627fb8466b3e7b39148af4e1f8a5ee9f7db2ec472"), looks := false }, kinds := [], alts := [], laidByText := true, laidKinds := [.data], laidTests := true, laidLooks := .later }
def NodePingUptoCardSaid : Prop := Claim7.holds Tryz.pinned (.plain (OpenSpec.upto nodePingSpec)) nodePingUptoCard

/-- THE SECOND FORM's CARD OF 'curfewlaw25.NodePatience'. -/
def nodePatienceUptoCard : Claim7 := { stood := { row := nodePatienceUptoRow, standIns := [], harness := (true, "1f7b6a626001cf11cf8fdc8627fb8466b3e7b39148af4e1f8a5ee9f7db2ec472"), looks := false }, kinds := [], alts := [], laidByText := true, laidKinds := [.data], laidTests := true, laidLooks := .later }
def NodePatienceUptoCardSaid : Prop := Claim7.holds Tryz.pinned (.plain (OpenSpec.upto nodePatienceSpec)) nodePatienceUptoCard

/-- THE SECOND FORM's CARD OF 'curfewlaw25.NodeDenied'. -/
def nodeDeniedUptoCard : Claim7 := { stood := { row := nodeDeniedUptoRow, standIns := [], harness := (true, "1f7b6a626001cf11cf8fdc8627fb8466b3e7b39148af4e1f8a5ee9f7db2ec472"), looks := false }, kinds := [], alts := [], laidByText := true, laidKinds := [.data], laidTests := true, laidLooks := .later }
def NodeDeniedUptoCardSaid : Prop := Claim7.holds Tryz.pinned (.plain (OpenSpec.upto nodeDeniedSpec)) nodeDeniedUptoCard

/-- THE SECOND FORM's CARD OF 'curfewlaw25.NodeLate'. -/
def nodeLateUptoCard : Claim7 := { stood := { row := nodeLateUptoRow, standIns := [], harness := (true, "1f7b6a626001cf11cf8fdc8627fb8466b3e7b39148af4e1f8a5ee9f7db2ec472"), looks := false }, kinds := [], alts := [], laidByText := true, laidKinds := [.data], laidTests := true, laidLooks := .later }
def NodeLateUptoCardSaid : Prop := Claim7.holds Tryz.pinned (.plain (OpenSpec.upto nodeLateSpec)) nodeLateUptoCard
end Rows
end Go.Proofs.YtfolifhgmdglaaaGreatDoor
