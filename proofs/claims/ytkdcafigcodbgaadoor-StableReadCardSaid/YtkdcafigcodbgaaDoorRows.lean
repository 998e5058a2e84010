/-
  NARROWER THAN 'FOR EVERY INPUT', by the rows' own cells (each row's printed sentence says how): StableAll: laid · StableRead: laid · StableEnd: laid · StableNone: laid · StableRise: laid · StableTwins: laid.
  DERIVED. THE GIVEN ROWS OF THIS SEAT. 6 by the template 'for every input the law returns true; each argument reads behind the call as it read before'; 0 by the template 'total and deterministic' (their statements: YtkdcafigcodbgaaDoorTotals.lean).
  GIVEN WITH THE SEED: the statements are not yours to turn. If you find one false, say at which input.
  Laid BY PROGRAM, IN A SANDBOX (cutbox-rows.mjs): the forced cells as the released guide's own fill.sh prints them over the translation 46d568930e36c18e… (all of the seat's roots in one cut). By AI agents, Wed Nov 11 2026. No macro, syntax, notation, axiom, sorry.
-/
import Derived.Test.YtkdcafigcodbgaaDoorChecked
import GoSem.Claim
import GoSem.ClaimJoined
import GoSem.ClaimMapViews
import Derived.JoinedTies
import Derived.KernelRfl
namespace Go.Proofs.YtkdcafigcodbgaaDoor
/- THE CELL 'sum', in the pinned program and in every row, IS THE sha256 OF THE DUMP (.gsa) THAT YtkdcafigcodbgaaDoorProg.lean LOADS. Nothing in Lean hashes anything: it is a label: what it is worth is what the hold of that sum in a sandbox is worth. -/
noncomputable def Tryd.pinned : Pinned := { name := "ytkdcafigcodbgaadoor", sum := "46d568930e36c18ea777a49010506765d2b409f8816126abfd9c20e20f878861", checked := Tryd.checked }
namespace Rows
def none {H : Type} : Left H := { results := [], args := [] }

/- WHAT THE LISTED PACKAGE-LEVEL VARIABLES READ AS WHEN THE CALL BEGINS. Each datum BY PROGRAM (the guide's laid-datum.mjs) off the statement by which the dump's own 'gosem.cut.vars' lays the variable. In a bare row this is a premise. The card (YtkdcafigcodbgaaDoorCards.lean) ties it to the program's text. -/
def laid_curfew_crc_halves {H : Type} : DataW H := .agg [.lit (.int .u32 0), .lit (.int .u32 498536548), .lit (.int .u32 997073096), .lit (.int .u32 651767980), .lit (.int .u32 1994146192), .lit (.int .u32 1802195444), .lit (.int .u32 1303535960), .lit (.int .u32 1342533948), .lit (.int .u32 3988292384), .lit (.int .u32 4027552580), .lit (.int .u32 3604390888), .lit (.int .u32 3412177804), .lit (.int .u32 2607071920), .lit (.int .u32 2262029012), .lit (.int .u32 2685067896), .lit (.int .u32 3183342108)]

/-- 'curfewlaw19.StableAll': WHATEVER THE INPUT: true; the input reads as it did. -/
def stableAllSpec : ChangeSpec := { name := "stableAll", fn := fun _ => fun
  | [d1, d2] => { results := [.lit (.bool true)], args := [d1, d2] }
  | _ => none }
def stableAllRow : OpenClaim := { program := "ytkdcafigcodbgaadoor", sum := "46d568930e36c18ea777a49010506765d2b409f8816126abfd9c20e20f878861", func := "curfew/curfewlaw19.StableAll", spec := "stableAll", named := ["curfew/crc.halves"], apart := false, laid := [("curfew/crc.halves", laid_curfew_crc_halves)] }
def StableAllSaid : Prop := stableAllRow.holds Tryd.pinned (OpenSpec.ofChange stableAllSpec)

/-- ITS FALSE NEIGHBOUR: 'it returns false'. Refute it at one input. -/
def stableAllWrong : ChangeSpec := { name := "stableAll", fn := fun _ => fun
  | [d1, d2] => { results := [.lit (.bool false)], args := [d1, d2] }
  | _ => none }
def StableAllWrongFalsely : Prop := stableAllRow.holds Tryd.pinned (OpenSpec.ofChange stableAllWrong)

/-- 'curfewlaw19.StableRead': WHATEVER THE INPUT: true; the input reads as it did. -/
def stableReadSpec : ChangeSpec := { name := "stableRead", fn := fun _ => fun
  | [d1, d2, d3, d4, d5] => { results := [.lit (.bool true)], args := [d1, d2, d3, d4, d5] }
  | _ => none }
def stableReadRow : OpenClaim := { program := "ytkdcafigcodbgaadoor", sum := "46d568930e36c18ea777a49010506765d2b409f8816126abfd9c20e20f878861", func := "curfew/curfewlaw19.StableRead", spec := "stableRead", named := ["curfew/crc.halves"], apart := false, laid := [("curfew/crc.halves", laid_curfew_crc_halves)] }
def StableReadSaid : Prop := stableReadRow.holds Tryd.pinned (OpenSpec.ofChange stableReadSpec)

/-- ITS FALSE NEIGHBOUR: 'it returns false'. Refute it at one input. -/
def stableReadWrong : ChangeSpec := { name := "stableRead", fn := fun _ => fun
  | [d1, d2, d3, d4, d5] => { results := [.lit (.bool false)], args := [d1, d2, d3, d4, d5] }
  | _ => none }
def StableReadWrongFalsely : Prop := stableReadRow.holds Tryd.pinned (OpenSpec.ofChange stableReadWrong)

/-- 'curfewlaw19.StableEnd': WHATEVER THE INPUT: true; the input reads as it did. -/
def stableEndSpec : ChangeSpec := { name := "stableEnd", fn := fun _ => fun
  | [d] => { results := [.lit (.bool true)], args := [d] }
  | _ => none }
def stableEndRow : OpenClaim := { program := "ytkdcafigcodbgaadoor", sum := "46d568930e36c18ea777a49010506765d2b409f8816126abfd9c20e20f878861", func := "curfew/curfewlaw19.StableEnd", spec := "stableEnd", named := ["curfew/crc.halves"], apart := false, laid := [("curfew/crc.halves", laid_curfew_crc_halves)] }
def StableEndSaid : Prop := stableEndRow.holds Tryd.pinned (OpenSpec.ofChange stableEndSpec)

/-- ITS FALSE NEIGHBOUR: 'it returns false'. Refute it at one input. -/
def stableEndWrong : ChangeSpec := { name := "stableEnd", fn := fun _ => fun
  | [d] => { results := [.lit (.bool false)], args := [d] }
  | _ => none }
def StableEndWrongFalsely : Prop := stableEndRow.holds Tryd.pinned (OpenSpec.ofChange stableEndWrong)

/-- 'curfewlaw19.StableNone': WHATEVER THE INPUT: true; the input reads as it did. -/
def stableNoneSpec : ChangeSpec := { name := "stableNone", fn := fun _ => fun
  | [] => { results := [.lit (.bool true)], args := [] }
  | _ => none }
def stableNoneRow : OpenClaim := { program := "ytkdcafigcodbgaadoor", sum := "46d568930e36c18ea777a49010506765d2b409f8816126abfd9c20e20f878861", func := "curfew/curfewlaw19.StableNone", spec := "stableNone", named := ["curfew/crc.halves"], apart := false, laid := [("curfew/crc.halves", laid_curfew_crc_halves)] }
def StableNoneSaid : Prop := stableNoneRow.holds Tryd.pinned (OpenSpec.ofChange stableNoneSpec)

/-- ITS FALSE NEIGHBOUR: 'it returns false'. Refute it at one input. -/
def stableNoneWrong : ChangeSpec := { name := "stableNone", fn := fun _ => fun
  | [] => { results := [.lit (.bool false)], args := [] }
  | _ => none }
def StableNoneWrongFalsely : Prop := stableNoneRow.holds Tryd.pinned (OpenSpec.ofChange stableNoneWrong)

/-- 'curfewlaw19.StableRise': WHATEVER THE INPUT: true; the input reads as it did. -/
def stableRiseSpec : ChangeSpec := { name := "stableRise", fn := fun _ => fun
  | [d] => { results := [.lit (.bool true)], args := [d] }
  | _ => none }
def stableRiseRow : OpenClaim := { program := "ytkdcafigcodbgaadoor", sum := "46d568930e36c18ea777a49010506765d2b409f8816126abfd9c20e20f878861", func := "curfew/curfewlaw19.StableRise", spec := "stableRise", named := ["curfew/crc.halves"], apart := false, laid := [("curfew/crc.halves", laid_curfew_crc_halves)] }
def StableRiseSaid : Prop := stableRiseRow.holds Tryd.pinned (OpenSpec.ofChange stableRiseSpec)

/-- ITS FALSE NEIGHBOUR: 'it returns false'. Refute it at one input. -/
def stableRiseWrong : ChangeSpec := { name := "stableRise", fn := fun _ => fun
  | [d] => { results := [.lit (.bool false)], args := [d] }
  | _ => none }
def StableRiseWrongFalsely : Prop := stableRiseRow.holds Tryd.pinned (OpenSpec.ofChange stableRiseWrong)

/-- 'curfewlaw19.StableTwins': WHATEVER THE INPUT: true; the input reads as it did. -/
def stableTwinsSpec : ChangeSpec := { name := "stableTwins", fn := fun _ => fun
  | [d1, d2, d3, d4] => { results := [.lit (.bool true)], args := [d1, d2, d3, d4] }
  | _ => none }
def stableTwinsRow : OpenClaim := { program := "ytkdcafigcodbgaadoor", sum := "46d568930e36c18ea777a49010506765d2b409f8816126abfd9c20e20f878861", func := "curfew/curfewlaw19.StableTwins", spec := "stableTwins", named := ["curfew/crc.halves"], apart := false, laid := [("curfew/crc.halves", laid_curfew_crc_halves)] }
def StableTwinsSaid : Prop := stableTwinsRow.holds Tryd.pinned (OpenSpec.ofChange stableTwinsSpec)

/-- ITS FALSE NEIGHBOUR: 'it returns false'. Refute it at one input. -/
def stableTwinsWrong : ChangeSpec := { name := "stableTwins", fn := fun _ => fun
  | [d1, d2, d3, d4] => { results := [.lit (.bool false)], args := [d1, d2, d3, d4] }
  | _ => none }
def StableTwinsWrongFalsely : Prop := stableTwinsRow.holds Tryd.pinned (OpenSpec.ofChange stableTwinsWrong)

/- THE SECOND FORM. 'bulk': how many values and letters a reading holds, each counted each time it is reached (what is shared counts as often as it is met; a slice's spare places count too). A statement '..UptoSaid' is the law's where the arguments, and the package variables that the reading takes, are together of bulk at most 1048576: NARROWER than '..Said'. Prove '..Said' where nothing that the law and all that it calls make is longer than what came in: it says more and counts as full. Else prove '..UptoSaid'. A law counts once. -/
mutual
def uptoBulk {H : Type} : DataW H → Nat
  | .lit (.string bytes) => bytes.length + 1
  | .lit _ => 1
  | .nil => 1
  | .ptr d => uptoBulk d + 1
  | .slice elems spare => uptoBulkAll elems + uptoBulkAll spare + 1
  | .agg parts => uptoBulkAll parts + 1
  | .iface _ d => uptoBulk d + 1
  | .map entries => uptoBulkEntries entries + 1
  | .held _ => 1
def uptoBulkAll {H : Type} : List (DataW H) → Nat
  | [] => 0
  | d :: r => uptoBulk d + uptoBulkAll r
def uptoBulkEntries {H : Type} : List (Lit × DataW H) → Nat
  | [] => 0
  | x :: r => uptoBulkEntry x + uptoBulkEntries r
def uptoBulkEntry {H : Type} : Lit × DataW H → Nat
  | (.string bytes, d) => bytes.length + uptoBulk d + 1
  | (_, d) => uptoBulk d + 1
 end
def uptoSmall : (H : Type) → List (DataW H) → Bool := fun _ ds => decide (uptoBulkAll ds ≤ 1048576)
def OpenSpec.upto (s : _root_.Go.ChangeSpec) : _root_.Go.OpenSpec := { _root_.Go.OpenSpec.ofChange s with cond := some uptoSmall }

/-- 'curfewlaw19.StableAll', WHERE WHAT IT READS IS OF BULK AT MOST 1048576: true; the input reads as it did. -/
def stableAllUptoRow : OpenClaim := { program := "ytkdcafigcodbgaadoor", sum := "46d568930e36c18ea777a49010506765d2b409f8816126abfd9c20e20f878861", func := "curfew/curfewlaw19.StableAll", spec := "stableAll", named := ["curfew/crc.halves"], apart := false, laid := [("curfew/crc.halves", laid_curfew_crc_halves)], narrowed := true }
def StableAllUptoSaid : Prop := stableAllUptoRow.holds Tryd.pinned (OpenSpec.upto stableAllSpec)

/-- 'curfewlaw19.StableRead', WHERE WHAT IT READS IS OF BULK AT MOST 1048576: true; the input reads as it did. -/
def stableReadUptoRow : OpenClaim := { program := "ytkdcafigcodbgaadoor", sum := "46d568930e36c18ea777a49010506765d2b409f8816126abfd9c20e20f878861", func := "curfew/curfewlaw19.StableRead", spec := "stableRead", named := ["curfew/crc.halves"], apart := false, laid := [("curfew/crc.halves", laid_curfew_crc_halves)], narrowed := true }
def StableReadUptoSaid : Prop := stableReadUptoRow.holds Tryd.pinned (OpenSpec.upto stableReadSpec)

/-- 'curfewlaw19.StableEnd', WHERE WHAT IT READS IS OF BULK AT MOST 1048576: true; the input reads as it did. -/
def stableEndUptoRow : OpenClaim := { program := "ytkdcafigcodbgaadoor", sum := "46d568930e36c18ea777a49010506765d2b409f8816126abfd9c20e20f878861", func := "curfew/curfewlaw19.StableEnd", spec := "stableEnd", named := ["curfew/crc.halves"], apart := false, laid := [("curfew/crc.halves", laid_curfew_crc_halves)], narrowed := true }
def StableEndUptoSaid : Prop := stableEndUptoRow.holds Tryd.pinned (OpenSpec.upto stableEndSpec)

/-- 'curfewlaw19.StableNone', WHERE WHAT IT READS IS OF BULK AT MOST 1048576: true; the input reads as it did. -/
def stableNoneUptoRow : OpenClaim := { program := "ytkdcafigcodbgaadoor", sum := "46d568930e36c18ea777a49010506765d2b409f8816126abfd9c20e20f878861", func := "curfew/curfewlaw19.StableNone", spec := "stableNone", named := ["curfew/crc.halves"], apart := false, laid := [("curfew/crc.halves", laid_curfew_crc_halves)], narrowed := true }
def StableNoneUptoSaid : Prop := stableNoneUptoRow.holds Tryd.pinned (OpenSpec.upto stableNoneSpec)

/-- 'curfewlaw19.StableRise', WHERE WHAT IT READS IS OF BULK AT MOST 1048576: true; the input reads as it did. -/
def stableRiseUptoRow : OpenClaim := { program := "ytkdcafigcodbgaadoor", sum := "46d568930e36c18ea777a49010506765d2b409f8816126abfd9c20e20f878861", func := "curfew/curfewlaw19.StableRise", spec := "stableRise", named := ["curfew/crc.halves"], apart := false, laid := [("curfew/crc.halves", laid_curfew_crc_halves)], narrowed := true }
def StableRiseUptoSaid : Prop := stableRiseUptoRow.holds Tryd.pinned (OpenSpec.upto stableRiseSpec)

/-- 'curfewlaw19.StableTwins', WHERE WHAT IT READS IS OF BULK AT MOST 1048576: true; the input reads as it did. -/
def stableTwinsUptoRow : OpenClaim := { program := "ytkdcafigcodbgaadoor", sum := "46d568930e36c18ea777a49010506765d2b409f8816126abfd9c20e20f878861", func := "curfew/curfewlaw19.StableTwins", spec := "stableTwins", named := ["curfew/crc.halves"], apart := false, laid := [("curfew/crc.halves", laid_curfew_crc_halves)], narrowed := true }
def StableTwinsUptoSaid : Prop := stableTwinsUptoRow.holds Tryd.pinned (OpenSpec.upto stableTwinsSpec)

end Rows
end Go.Proofs.YtkdcafigcodbgaaDoor
