/-
  NARROWER THAN 'FOR EVERY INPUT', by the rows' own cells (each row's printed sentence says how): WireMay: laid · WireBytes: laid · WireAny: laid · WireTwins: laid · WireEnds: laid · WireKinds: laid.
  DERIVED. THE GIVEN ROWS OF THIS SEAT. 6 by the template 'for every input the law returns true; each argument reads behind the call as it read before'; 0 by the template 'total and deterministic' (their statements: YtgcpofiecbpfbaaDoorTotals.lean).
  GIVEN WITH THE SEED: the statements are not yours to turn. If you find one false, say at which input.
  Laid BY PROGRAM, IN A SANDBOX (cutbox-rows.mjs): the forced cells as the released guide's own fill.sh prints them over the translation fe1c48e6908359ba… (all of the seat's roots in one cut). By AI agents, Wed Nov 11 2026. No macro, syntax, notation, axiom, sorry.
-/
import Derived.Test.YtgcpofiecbpfbaaDoorChecked
import GoSem.Claim
import GoSem.ClaimJoined
import GoSem.ClaimMapViews
import Derived.JoinedTies
import Derived.KernelRfl
namespace Go.Proofs.YtgcpofiecbpfbaaDoor
/- THE CELL 'sum', in the pinned program and in every row, IS THE sha256 OF THE DUMP (.gsa) THAT YtgcpofiecbpfbaaDoorProg.lean LOADS. Nothing in Lean hashes anything: it is a label: what it is worth is what the hold of that sum in a sandbox is worth. -/
noncomputable def Tryd.pinned : Pinned := { name := "ytgcpofiecbpfbaadoor", sum := "fe1c48e6908359ba811f079a2e156b063cc484dfddfcefec5e8b8f0de174e6a4", checked := Tryd.checked }
namespace Rows
def none {H : Type} : Left H := { results := [], args := [] }

/- WHAT THE LISTED PACKAGE-LEVEL VARIABLES READ AS WHEN THE CALL BEGINS. Each datum BY PROGRAM (the guide's laid-datum.mjs) off the statement by which the dump's own 'gosem.cut.vars' lays the variable. In a bare row this is a premise. The card (YtgcpofiecbpfbaaDoorCards.lean) ties it to the program's text. -/
def laid_curfew_crc_halves {H : Type} : DataW H := .agg [.lit (.int .u32 0), .lit (.int .u32 498536548), .lit (.int .u32 997073096), .lit (.int .u32 651767980), .lit (.int .u32 1994146192), .lit (.int .u32 1802195444), .lit (.int .u32 1303535960), .lit (.int .u32 1342533948), .lit (.int .u32 3988292384), .lit (.int .u32 4027552580), .lit (.int .u32 3604390888), .lit (.int .u32 3412177804), .lit (.int .u32 2607071920), .lit (.int .u32 2262029012), .lit (.int .u32 2685067896), .lit (.int .u32 3183342108)]

/-- 'curfewlaw16.WireMay': WHATEVER THE INPUT: true; the input reads as it did. -/
def wireMaySpec : ChangeSpec := { name := "wireMay", fn := fun _ => fun
  | [d1, d2] => { results := [.lit (.bool true)], args := [d1, d2] }
  | _ => none }
def wireMayRow : OpenClaim := { program := "ytgcpofiecbpfbaadoor", sum := "fe1c48e6908359ba811f079a2e156b063cc484dfddfcefec5e8b8f0de174e6a4", func := "curfew/curfewlaw16.WireMay", spec := "wireMay", unfollowed := true, recurses := true, named := ["curfew/crc.halves"], apart := false, laid := [("curfew/crc.halves", laid_curfew_crc_halves)] }
def WireMaySaid : Prop := wireMayRow.holds Tryd.pinned (OpenSpec.ofChange wireMaySpec)

/-- ITS FALSE NEIGHBOUR: 'it returns false'. Refute it at one input. -/
def wireMayWrong : ChangeSpec := { name := "wireMay", fn := fun _ => fun
  | [d1, d2] => { results := [.lit (.bool false)], args := [d1, d2] }
  | _ => none }
def WireMayWrongFalsely : Prop := wireMayRow.holds Tryd.pinned (OpenSpec.ofChange wireMayWrong)

/-- 'curfewlaw16.WireBytes': WHATEVER THE INPUT: true; the input reads as it did. -/
def wireBytesSpec : ChangeSpec := { name := "wireBytes", fn := fun _ => fun
  | [d1, d2, d3, d4] => { results := [.lit (.bool true)], args := [d1, d2, d3, d4] }
  | _ => none }
def wireBytesRow : OpenClaim := { program := "ytgcpofiecbpfbaadoor", sum := "fe1c48e6908359ba811f079a2e156b063cc484dfddfcefec5e8b8f0de174e6a4", func := "curfew/curfewlaw16.WireBytes", spec := "wireBytes", unfollowed := true, recurses := true, named := ["curfew/crc.halves"], apart := false, laid := [("curfew/crc.halves", laid_curfew_crc_halves)] }
def WireBytesSaid : Prop := wireBytesRow.holds Tryd.pinned (OpenSpec.ofChange wireBytesSpec)

/-- ITS FALSE NEIGHBOUR: 'it returns false'. Refute it at one input. -/
def wireBytesWrong : ChangeSpec := { name := "wireBytes", fn := fun _ => fun
  | [d1, d2, d3, d4] => { results := [.lit (.bool false)], args := [d1, d2, d3, d4] }
  | _ => none }
def WireBytesWrongFalsely : Prop := wireBytesRow.holds Tryd.pinned (OpenSpec.ofChange wireBytesWrong)

/-- 'curfewlaw16.WireAny': WHATEVER THE INPUT: true; the input reads as it did. -/
def wireAnySpec : ChangeSpec := { name := "wireAny", fn := fun _ => fun
  | [d] => { results := [.lit (.bool true)], args := [d] }
  | _ => none }
def wireAnyRow : OpenClaim := { program := "ytgcpofiecbpfbaadoor", sum := "fe1c48e6908359ba811f079a2e156b063cc484dfddfcefec5e8b8f0de174e6a4", func := "curfew/curfewlaw16.WireAny", spec := "wireAny", unfollowed := true, recurses := true, named := ["curfew/crc.halves"], apart := false, laid := [("curfew/crc.halves", laid_curfew_crc_halves)] }
def WireAnySaid : Prop := wireAnyRow.holds Tryd.pinned (OpenSpec.ofChange wireAnySpec)

/-- ITS FALSE NEIGHBOUR: 'it returns false'. Refute it at one input. -/
def wireAnyWrong : ChangeSpec := { name := "wireAny", fn := fun _ => fun
  | [d] => { results := [.lit (.bool false)], args := [d] }
  | _ => none }
def WireAnyWrongFalsely : Prop := wireAnyRow.holds Tryd.pinned (OpenSpec.ofChange wireAnyWrong)

/-- 'curfewlaw16.WireTwins': WHATEVER THE INPUT: true; the input reads as it did. -/
def wireTwinsSpec : ChangeSpec := { name := "wireTwins", fn := fun _ => fun
  | [d1, d2] => { results := [.lit (.bool true)], args := [d1, d2] }
  | _ => none }
def wireTwinsRow : OpenClaim := { program := "ytgcpofiecbpfbaadoor", sum := "fe1c48e6908359ba811f079a2e156b063cc484dfddfcefec5e8b8f0de174e6a4", func := "curfew/curfewlaw16.WireTwins", spec := "wireTwins", unfollowed := true, recurses := true, named := ["curfew/crc.halves"], apart := false, laid := [("curfew/crc.halves", laid_curfew_crc_halves)] }
def WireTwinsSaid : Prop := wireTwinsRow.holds Tryd.pinned (OpenSpec.ofChange wireTwinsSpec)

/-- ITS FALSE NEIGHBOUR: 'it returns false'. Refute it at one input. -/
def wireTwinsWrong : ChangeSpec := { name := "wireTwins", fn := fun _ => fun
  | [d1, d2] => { results := [.lit (.bool false)], args := [d1, d2] }
  | _ => none }
def WireTwinsWrongFalsely : Prop := wireTwinsRow.holds Tryd.pinned (OpenSpec.ofChange wireTwinsWrong)

/-- 'curfewlaw16.WireEnds': WHATEVER THE INPUT: true; the input reads as it did. -/
def wireEndsSpec : ChangeSpec := { name := "wireEnds", fn := fun _ => fun
  | [d1, d2, d3, d4, d5, d6, d7, d8, d9, d10] => { results := [.lit (.bool true)], args := [d1, d2, d3, d4, d5, d6, d7, d8, d9, d10] }
  | _ => none }
def wireEndsRow : OpenClaim := { program := "ytgcpofiecbpfbaadoor", sum := "fe1c48e6908359ba811f079a2e156b063cc484dfddfcefec5e8b8f0de174e6a4", func := "curfew/curfewlaw16.WireEnds", spec := "wireEnds", unfollowed := true, recurses := true, named := ["curfew/crc.halves"], apart := false, laid := [("curfew/crc.halves", laid_curfew_crc_halves)] }
def WireEndsSaid : Prop := wireEndsRow.holds Tryd.pinned (OpenSpec.ofChange wireEndsSpec)

/-- ITS FALSE NEIGHBOUR: 'it returns false'. Refute it at one input. -/
def wireEndsWrong : ChangeSpec := { name := "wireEnds", fn := fun _ => fun
  | [d1, d2, d3, d4, d5, d6, d7, d8, d9, d10] => { results := [.lit (.bool false)], args := [d1, d2, d3, d4, d5, d6, d7, d8, d9, d10] }
  | _ => none }
def WireEndsWrongFalsely : Prop := wireEndsRow.holds Tryd.pinned (OpenSpec.ofChange wireEndsWrong)

/-- 'curfewlaw16.WireKinds': WHATEVER THE INPUT: true; the input reads as it did. -/
def wireKindsSpec : ChangeSpec := { name := "wireKinds", fn := fun _ => fun
  | [d1, d2, d3, d4] => { results := [.lit (.bool true)], args := [d1, d2, d3, d4] }
  | _ => none }
def wireKindsRow : OpenClaim := { program := "ytgcpofiecbpfbaadoor", sum := "fe1c48e6908359ba811f079a2e156b063cc484dfddfcefec5e8b8f0de174e6a4", func := "curfew/curfewlaw16.WireKinds", spec := "wireKinds", unfollowed := true, recurses := true, named := ["curfew/crc.halves"], apart := false, laid := [("curfew/crc.halves", laid_curfew_crc_halves)] }
def WireKindsSaid : Prop := wireKindsRow.holds Tryd.pinned (OpenSpec.ofChange wireKindsSpec)

/-- ITS FALSE NEIGHBOUR: 'it returns false'. Refute it at one input. -/
def wireKindsWrong : ChangeSpec := { name := "wireKinds", fn := fun _ => fun
  | [d1, d2, d3, d4] => { results := [.lit (.bool false)], args := [d1, d2, d3, d4] }
  | _ => none }
def WireKindsWrongFalsely : Prop := wireKindsRow.holds Tryd.pinned (OpenSpec.ofChange wireKindsWrong)

/- THE SECOND FORM. 'bulk': how many values and letters a reading holds, each counted each time it is reached (what is shared counts as often as it is met; a slice's spare places count too). A statement '..UptoSaid' is the law's where the arguments, and the package variables that the reading takes, are together of bulk at most 1048576: NARROWER than '..Said'. Prove '..Said' where nothing that the law and all that it calls make is longer than what came in: it says more and counts as full. Else prove '..UptoSaid'. A law counts once. -/
mutual
def uptoBulk {H : Type} : DataW H → Nat
  | .lit (.string bytes) => bytes.length + 1
  | .lit _ => 1
  | .nil => 1
  | .ptr d => uptoBulk d + 1
  | .slice elems spare => uptoBulkAll elems + uptoBulkAll spare + 1
  | .agg parts => uptoBulkAll parts + 1
  | .iface _ d => uptoBulk d + 1
  | .map entries => uptoBulkEntries entries + 1
  | .held _ => 1
def uptoBulkAll {H : Type} : List (DataW H) → Nat
  | [] => 0
  | d :: r => uptoBulk d + uptoBulkAll r
def uptoBulkEntries {H : Type} : List (Lit × DataW H) → Nat
  | [] => 0
  | x :: r => uptoBulkEntry x + uptoBulkEntries r
def uptoBulkEntry {H : Type} : Lit × DataW H → Nat
  | (.string bytes, d) => bytes.length + uptoBulk d + 1
  | (_, d) => uptoBulk d + 1
 end
def uptoSmall : (H : Type) → List (DataW H) → Bool := fun _ ds => decide (uptoBulkAll ds ≤ 1048576)
def OpenSpec.upto (s : _root_.Go.ChangeSpec) : _root_.Go.OpenSpec := { _root_.Go.OpenSpec.ofChange s with cond := some uptoSmall }

/-- 'curfewlaw16.WireMay', WHERE WHAT IT READS IS OF BULK AT MOST 1048576: true; the input reads as it did. -/
def wireMayUptoRow : OpenClaim := { program := "ytgcpofiecbpfbaadoor", sum := "fe1c48e6908359ba811f079a2e156b063cc484dfddfcefec5e8b8f0de174e6a4", func := "curfew/curfewlaw16.WireMay", spec := "wireMay", unfollowed := true, recurses := true, named := ["curfew/crc.halves"], apart := false, laid := [("curfew/crc.halves", laid_curfew_crc_halves)], narrowed := true }
def WireMayUptoSaid : Prop := wireMayUptoRow.holds Tryd.pinned (OpenSpec.upto wireMaySpec)

/-- 'curfewlaw16.WireBytes', WHERE WHAT IT READS IS OF BULK AT MOST 1048576: true; the input reads as it did. -/
def wireBytesUptoRow : OpenClaim := { program := "ytgcpofiecbpfbaadoor", sum := "fe1c48e6908359ba811f079a2e156b063cc484dfddfcefec5e8b8f0de174e6a4", func := "curfew/curfewlaw16.WireBytes", spec := "wireBytes", unfollowed := true, recurses := true, named := ["curfew/crc.halves"], apart := false, laid := [("curfew/crc.halves", laid_curfew_crc_halves)], narrowed := true }
def WireBytesUptoSaid : Prop := wireBytesUptoRow.holds Tryd.pinned (OpenSpec.upto wireBytesSpec)

/-- 'curfewlaw16.WireAny', WHERE WHAT IT READS IS OF BULK AT MOST 1048576: true; the input reads as it did. -/
def wireAnyUptoRow : OpenClaim := { program := "ytgcpofiecbpfbaadoor", sum := "fe1c48e6908359ba811f079a2e156b063cc484dfddfcefec5e8b8f0de174e6a4", func := "curfew/curfewlaw16.WireAny", spec := "wireAny", unfollowed := true, recurses := true, named := ["curfew/crc.halves"], apart := false, laid := [("curfew/crc.halves", laid_curfew_crc_halves)], narrowed := true }
def WireAnyUptoSaid : Prop := wireAnyUptoRow.holds Tryd.pinned (OpenSpec.upto wireAnySpec)

/-- 'curfewlaw16.WireTwins', WHERE WHAT IT READS IS OF BULK AT MOST 1048576: true; the input reads as it did. -/
def wireTwinsUptoRow : OpenClaim := { program := "ytgcpofiecbpfbaadoor", sum := "fe1c48e6908359ba811f079a2e156b063cc484dfddfcefec5e8b8f0de174e6a4", func := "curfew/curfewlaw16.WireTwins", spec := "wireTwins", unfollowed := true, recurses := true, named := ["curfew/crc.halves"], apart := false, laid := [("curfew/crc.halves", laid_curfew_crc_halves)], narrowed := true }
def WireTwinsUptoSaid : Prop := wireTwinsUptoRow.holds Tryd.pinned (OpenSpec.upto wireTwinsSpec)

/-- 'curfewlaw16.WireEnds', WHERE WHAT IT READS IS OF BULK AT MOST 1048576: true; the input reads as it did. -/
def wireEndsUptoRow : OpenClaim := { program := "ytgcpofiecbpfbaadoor", sum := "fe1c48e6908359ba811f079a2e156b063cc484dfddfcefec5e8b8f0de174e6a4", func := "curfew/curfewlaw16.WireEnds", spec := "wireEnds", unfollowed := true, recurses := true, named := ["curfew/crc.halves"], apart := false, laid := [("curfew/crc.halves", laid_curfew_crc_halves)], narrowed := true }
def WireEndsUptoSaid : Prop := wireEndsUptoRow.holds Tryd.pinned (OpenSpec.upto wireEndsSpec)

/-- 'curfewlaw16.WireKinds', WHERE WHAT IT READS IS OF BULK AT MOST 1048576: true; the input reads as it did. -/
def wireKindsUptoRow : OpenClaim := { program := "ytgcpofiecbpfbaadoor", sum := "fe1c48e6908359ba811f079a2e156b063cc484dfddfcefec5e8b8f0de174e6a4", func := "curfew/curfewlaw16.WireKinds", spec := "wireKinds", unfollowed := true, recurses := true, named := ["curfew/crc.halves"], apart := false, laid := [("curfew/crc.halves", laid_curfew_crc_halves)], narrowed := true }
def WireKindsUptoSaid : Prop := wireKindsUptoRow.holds Tryd.pinned (OpenSpec.upto wireKindsSpec)

end Rows
end Go.Proofs.YtgcpofiecbpfbaaDoor
