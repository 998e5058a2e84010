/-
  NARROWER THAN 'FOR EVERY INPUT', by the rows' own cells (each row's printed sentence says how): GramAll: laid · GramBoots: laid · GramNone: laid · GramTook: laid · GramWhole: laid.
  DERIVED. THE GIVEN ROWS OF THIS SEAT. 5 by the template 'for every input the law returns true; each argument reads behind the call as it read before'; 0 by the template 'total and deterministic' (their statements: YtfijjdahoimoeaaDoorTotals.lean).
  GIVEN WITH THE SEED: the statements are not yours to turn. If you find one false, say at which input.
  Laid BY PROGRAM, IN A SANDBOX (cutbox-rows.mjs): the forced cells as the released guide's own fill.sh prints them over the translation 40b94f8a840c5a2a… (all of the seat's roots in one cut). By AI agents, Wed Nov 11 2026. No macro, syntax, notation, axiom, sorry.
-/
import Derived.Test.YtfijjdahoimoeaaDoorChecked
import GoSem.Claim
import GoSem.ClaimJoined
import GoSem.ClaimMapViews
import Derived.JoinedTies
import Derived.KernelRfl
namespace Go.Proofs.YtfijjdahoimoeaaDoor
/- THE CELL 'sum', in the pinned program and in every row, IS THE sha256 OF THE DUMP (.gsa) THAT YtfijjdahoimoeaaDoorProg.lean LOADS. Nothing in Lean hashes anything: it is a label: what it is worth is what the hold of that sum in a sandbox is worth. -/
noncomputable def Tryd.pinned : Pinned := { name := "ytfijjdahoimoeaadoor", sum := "40b94f8a840c5a2a943d8149002bc7c47d8cb9bb1a02b8d463438071b35a637f", checked := Tryd.checked }
namespace Rows
def none {H : Type} : Left H := { results := [], args := [] }

/- WHAT THE LISTED PACKAGE-LEVEL VARIABLES READ AS WHEN THE CALL BEGINS. Each datum BY PROGRAM (the guide's laid-datum.mjs) off the statement by which the dump's own 'gosem.cut.vars' lays the variable. In a bare row this is a premise. The card (YtfijjdahoimoeaaDoorCards.lean) ties it to the program's text. -/
def laid_curfew_crc_halves {H : Type} : DataW H := .agg [.lit (.int .u32 0), .lit (.int .u32 498536548), .lit (.int .u32 997073096), .lit (.int .u32 651767980), .lit (.int .u32 1994146192), .lit (.int .u32 1802195444), .lit (.int .u32 1303535960), .lit (.int .u32 1342533948), .lit (.int .u32 3988292384), .lit (.int .u32 4027552580), .lit (.int .u32 3604390888), .lit (.int .u32 3412177804), .lit (.int .u32 2607071920), .lit (.int .u32 2262029012), .lit (.int .u32 2685067896), .lit (.int .u32 3183342108)]

/-- 'curfewlaw17.GramAll': WHATEVER THE INPUT: true; the input reads as it did. -/
def gramAllSpec : ChangeSpec := { name := "gramAll", fn := fun _ => fun
  | [d1, d2, d3] => { results := [.lit (.bool true)], args := [d1, d2, d3] }
  | _ => none }
def gramAllRow : OpenClaim := { program := "ytfijjdahoimoeaadoor", sum := "40b94f8a840c5a2a943d8149002bc7c47d8cb9bb1a02b8d463438071b35a637f", func := "curfew/curfewlaw17.GramAll", spec := "gramAll", named := ["curfew/crc.halves"], apart := false, laid := [("curfew/crc.halves", laid_curfew_crc_halves)] }
def GramAllSaid : Prop := gramAllRow.holds Tryd.pinned (OpenSpec.ofChange gramAllSpec)

/-- ITS FALSE NEIGHBOUR: 'it returns false'. Refute it at one input. -/
def gramAllWrong : ChangeSpec := { name := "gramAll", fn := fun _ => fun
  | [d1, d2, d3] => { results := [.lit (.bool false)], args := [d1, d2, d3] }
  | _ => none }
def GramAllWrongFalsely : Prop := gramAllRow.holds Tryd.pinned (OpenSpec.ofChange gramAllWrong)

/-- 'curfewlaw17.GramBoots': WHATEVER THE INPUT: true; the input reads as it did. -/
def gramBootsSpec : ChangeSpec := { name := "gramBoots", fn := fun _ => fun
  | [d] => { results := [.lit (.bool true)], args := [d] }
  | _ => none }
def gramBootsRow : OpenClaim := { program := "ytfijjdahoimoeaadoor", sum := "40b94f8a840c5a2a943d8149002bc7c47d8cb9bb1a02b8d463438071b35a637f", func := "curfew/curfewlaw17.GramBoots", spec := "gramBoots", named := ["curfew/crc.halves"], apart := false, laid := [("curfew/crc.halves", laid_curfew_crc_halves)] }
def GramBootsSaid : Prop := gramBootsRow.holds Tryd.pinned (OpenSpec.ofChange gramBootsSpec)

/-- ITS FALSE NEIGHBOUR: 'it returns false'. Refute it at one input. -/
def gramBootsWrong : ChangeSpec := { name := "gramBoots", fn := fun _ => fun
  | [d] => { results := [.lit (.bool false)], args := [d] }
  | _ => none }
def GramBootsWrongFalsely : Prop := gramBootsRow.holds Tryd.pinned (OpenSpec.ofChange gramBootsWrong)

/-- 'curfewlaw17.GramNone': WHATEVER THE INPUT: true; the input reads as it did. -/
def gramNoneSpec : ChangeSpec := { name := "gramNone", fn := fun _ => fun
  | [] => { results := [.lit (.bool true)], args := [] }
  | _ => none }
def gramNoneRow : OpenClaim := { program := "ytfijjdahoimoeaadoor", sum := "40b94f8a840c5a2a943d8149002bc7c47d8cb9bb1a02b8d463438071b35a637f", func := "curfew/curfewlaw17.GramNone", spec := "gramNone", named := ["curfew/crc.halves"], apart := false, laid := [("curfew/crc.halves", laid_curfew_crc_halves)] }
def GramNoneSaid : Prop := gramNoneRow.holds Tryd.pinned (OpenSpec.ofChange gramNoneSpec)

/-- ITS FALSE NEIGHBOUR: 'it returns false'. Refute it at one input. -/
def gramNoneWrong : ChangeSpec := { name := "gramNone", fn := fun _ => fun
  | [] => { results := [.lit (.bool false)], args := [] }
  | _ => none }
def GramNoneWrongFalsely : Prop := gramNoneRow.holds Tryd.pinned (OpenSpec.ofChange gramNoneWrong)

/-- 'curfewlaw17.GramTook': WHATEVER THE INPUT: true; the input reads as it did. -/
def gramTookSpec : ChangeSpec := { name := "gramTook", fn := fun _ => fun
  | [d1, d2, d3, d4, d5] => { results := [.lit (.bool true)], args := [d1, d2, d3, d4, d5] }
  | _ => none }
def gramTookRow : OpenClaim := { program := "ytfijjdahoimoeaadoor", sum := "40b94f8a840c5a2a943d8149002bc7c47d8cb9bb1a02b8d463438071b35a637f", func := "curfew/curfewlaw17.GramTook", spec := "gramTook", named := ["curfew/crc.halves"], apart := false, laid := [("curfew/crc.halves", laid_curfew_crc_halves)] }
def GramTookSaid : Prop := gramTookRow.holds Tryd.pinned (OpenSpec.ofChange gramTookSpec)

/-- ITS FALSE NEIGHBOUR: 'it returns false'. Refute it at one input. -/
def gramTookWrong : ChangeSpec := { name := "gramTook", fn := fun _ => fun
  | [d1, d2, d3, d4, d5] => { results := [.lit (.bool false)], args := [d1, d2, d3, d4, d5] }
  | _ => none }
def GramTookWrongFalsely : Prop := gramTookRow.holds Tryd.pinned (OpenSpec.ofChange gramTookWrong)

/-- 'curfewlaw17.GramWhole': WHATEVER THE INPUT: true; the input reads as it did. -/
def gramWholeSpec : ChangeSpec := { name := "gramWhole", fn := fun _ => fun
  | [d] => { results := [.lit (.bool true)], args := [d] }
  | _ => none }
def gramWholeRow : OpenClaim := { program := "ytfijjdahoimoeaadoor", sum := "40b94f8a840c5a2a943d8149002bc7c47d8cb9bb1a02b8d463438071b35a637f", func := "curfew/curfewlaw17.GramWhole", spec := "gramWhole", named := ["curfew/crc.halves"], apart := false, laid := [("curfew/crc.halves", laid_curfew_crc_halves)] }
def GramWholeSaid : Prop := gramWholeRow.holds Tryd.pinned (OpenSpec.ofChange gramWholeSpec)

/-- ITS FALSE NEIGHBOUR: 'it returns false'. Refute it at one input. -/
def gramWholeWrong : ChangeSpec := { name := "gramWhole", fn := fun _ => fun
  | [d] => { results := [.lit (.bool false)], args := [d] }
  | _ => none }
def GramWholeWrongFalsely : Prop := gramWholeRow.holds Tryd.pinned (OpenSpec.ofChange gramWholeWrong)

/- THE SECOND FORM. 'bulk': how many values and letters a reading holds, each counted each time it is reached (what is shared counts as often as it is met; a slice's spare places count too). A statement '..UptoSaid' is the law's where the arguments, and the package variables that the reading takes, are together of bulk at most 1048576: NARROWER than '..Said'. Prove '..Said' where nothing that the law and all that it calls make is longer than what came in: it says more and counts as full. Else prove '..UptoSaid'. A law counts once. -/
mutual
def uptoBulk {H : Type} : DataW H → Nat
  | .lit (.string bytes) => bytes.length + 1
  | .lit _ => 1
  | .nil => 1
  | .ptr d => uptoBulk d + 1
  | .slice elems spare => uptoBulkAll elems + uptoBulkAll spare + 1
  | .agg parts => uptoBulkAll parts + 1
  | .iface _ d => uptoBulk d + 1
  | .map entries => uptoBulkEntries entries + 1
  | .held _ => 1
def uptoBulkAll {H : Type} : List (DataW H) → Nat
  | [] => 0
  | d :: r => uptoBulk d + uptoBulkAll r
def uptoBulkEntries {H : Type} : List (Lit × DataW H) → Nat
  | [] => 0
  | x :: r => uptoBulkEntry x + uptoBulkEntries r
def uptoBulkEntry {H : Type} : Lit × DataW H → Nat
  | (.string bytes, d) => bytes.length + uptoBulk d + 1
  | (_, d) => uptoBulk d + 1
 end
def uptoSmall : (H : Type) → List (DataW H) → Bool := fun _ ds => decide (uptoBulkAll ds ≤ 1048576)
def OpenSpec.upto (s : _root_.Go.ChangeSpec) : _root_.Go.OpenSpec := { _root_.Go.OpenSpec.ofChange s with cond := some uptoSmall }

/-- 'curfewlaw17.GramAll', WHERE WHAT IT READS IS OF BULK AT MOST 1048576: true; the input reads as it did. -/
def gramAllUptoRow : OpenClaim := { program := "ytfijjdahoimoeaadoor", sum := "40b94f8a840c5a2a943d8149002bc7c47d8cb9bb1a02b8d463438071b35a637f", func := "curfew/curfewlaw17.GramAll", spec := "gramAll", named := ["curfew/crc.halves"], apart := false, laid := [("curfew/crc.halves", laid_curfew_crc_halves)], narrowed := true }
def GramAllUptoSaid : Prop := gramAllUptoRow.holds Tryd.pinned (OpenSpec.upto gramAllSpec)

/-- 'curfewlaw17.GramBoots', WHERE WHAT IT READS IS OF BULK AT MOST 1048576: true; the input reads as it did. -/
def gramBootsUptoRow : OpenClaim := { program := "ytfijjdahoimoeaadoor", sum := "40b94f8a840c5a2a943d8149002bc7c47d8cb9bb1a02b8d463438071b35a637f", func := "curfew/curfewlaw17.GramBoots", spec := "gramBoots", named := ["curfew/crc.halves"], apart := false, laid := [("curfew/crc.halves", laid_curfew_crc_halves)], narrowed := true }
def GramBootsUptoSaid : Prop := gramBootsUptoRow.holds Tryd.pinned (OpenSpec.upto gramBootsSpec)

/-- 'curfewlaw17.GramNone', WHERE WHAT IT READS IS OF BULK AT MOST 1048576: true; the input reads as it did. -/
def gramNoneUptoRow : OpenClaim := { program := "ytfijjdahoimoeaadoor", sum := "40b94f8a840c5a2a943d8149002bc7c47d8cb9bb1a02b8d463438071b35a637f", func := "curfew/curfewlaw17.GramNone", spec := "gramNone", named := ["curfew/crc.halves"], apart := false, laid := [("curfew/crc.halves", laid_curfew_crc_halves)], narrowed := true }
def GramNoneUptoSaid : Prop := gramNoneUptoRow.holds Tryd.pinned (OpenSpec.upto gramNoneSpec)

/-- 'curfewlaw17.GramTook', WHERE WHAT IT READS IS OF BULK AT MOST 1048576: true; the input reads as it did. -/
def gramTookUptoRow : OpenClaim := { program := "ytfijjdahoimoeaadoor", sum := "40b94f8a840c5a2a943d8149002bc7c47d8cb9bb1a02b8d463438071b35a637f", func := "curfew/curfewlaw17.GramTook", spec := "gramTook", named := ["curfew/crc.halves"], apart := false, laid := [("curfew/crc.halves", laid_curfew_crc_halves)], narrowed := true }
def GramTookUptoSaid : Prop := gramTookUptoRow.holds Tryd.pinned (OpenSpec.upto gramTookSpec)

/-- 'curfewlaw17.GramWhole', WHERE WHAT IT READS IS OF BULK AT MOST 1048576: true; the input reads as it did. -/
def gramWholeUptoRow : OpenClaim := { program := "ytfijjdahoimoeaadoor", sum := "40b94f8a840c5a2a943d8149002bc7c47d8cb9bb1a02b8d463438071b35a637f", func := "curfew/curfewlaw17.GramWhole", spec := "gramWhole", named := ["curfew/crc.halves"], apart := false, laid := [("curfew/crc.halves", laid_curfew_crc_halves)], narrowed := true }
def GramWholeUptoSaid : Prop := gramWholeUptoRow.holds Tryd.pinned (OpenSpec.upto gramWholeSpec)

end Rows
end Go.Proofs.YtfijjdahoimoeaaDoor
