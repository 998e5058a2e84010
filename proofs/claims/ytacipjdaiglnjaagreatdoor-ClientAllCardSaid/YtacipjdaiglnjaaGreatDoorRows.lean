/-
  NARROWER THAN 'FOR EVERY INPUT', by the rows' own cells (each row's printed sentence says how): ClientAll: laid · ClientNone: laid · ClientNoView: laid · ClientBusy: laid · ClientTwo: laid.
  DERIVED. THE GIVEN ROWS OF THIS SEAT. 5 by the template 'for every input the law returns true; each argument reads behind the call as it read before'; 0 by the template 'total and deterministic' (their statements: YtacipjdaiglnjaaGreatDoorTotals.lean).
  GIVEN WITH THE SEED: the statements are not yours to turn. If you find one false, say at which input.
  Laid BY PROGRAM, IN A SANDBOX (cutbox-rows.mjs): the forced cells as the released guide's own fill.sh prints them over the translation 270e733f66fd6a39… (all of the seat's roots in one cut). By AI agents, Wed Nov 11 2026. No macro, syntax, notation, axiom, sorry.
-/
import Derived.Test.YtacipjdaiglnjaaGreatDoorChecked
import GoSem.Claim
import GoSem.ClaimJoined
import GoSem.ClaimMapViews
import Derived.JoinedTies
import Derived.KernelRfl
namespace Go.Proofs.YtacipjdaiglnjaaGreatDoor
/- THE CELL 'sum', in the pinned program and in every row, IS THE sha256 OF THE DUMP (.gsa) THAT YtacipjdaiglnjaaGreatDoorProg.lean LOADS. Nothing in Lean hashes anything: it is a label: what it is worth is what the hold of that sum in a sandbox is worth. -/
noncomputable def Tryz.pinned : Pinned := { name := "ytacipjdaiglnjaagreatdoor", sum := "270e733f66fd6a394d479f3b8c7de12f0abf107b3ccd17bdf75d9cac1912c110", checked := Tryz.checked }
namespace Rows
def none {H : Type} : Left H := { results := [], args := [] }

/- WHAT THE LISTED PACKAGE-LEVEL VARIABLES READ AS WHEN THE CALL BEGINS. Each datum BY PROGRAM (the guide's laid-datum.mjs) off the statement by which the dump's own 'gosem.cut.vars' lays the variable. In a bare row this is a premise. The card (YtacipjdaiglnjaaGreatDoorCards.lean) ties it to the program's text. -/
def laid_curfew_crc_halves {H : Type} : DataW H := .agg [.lit (.int .u32 0), .lit (.int .u32 498536548), .lit (.int .u32 997073096), .lit (.int .u32 651767980), .lit (.int .u32 1994146192), .lit (.int .u32 1802195444), .lit (.int .u32 1303535960), .lit (.int .u32 1342533948), .lit (.int .u32 3988292384), .lit (.int .u32 4027552580), .lit (.int .u32 3604390888), .lit (.int .u32 3412177804), .lit (.int .u32 2607071920), .lit (.int .u32 2262029012), .lit (.int .u32 2685067896), .lit (.int .u32 3183342108)]

/-- 'curfewlaw26.ClientAll': WHATEVER THE INPUT: true; the input reads as it did. -/
def clientAllSpec : ChangeSpec := { name := "clientAll", fn := fun _ => fun
  | [d] => { results := [.lit (.bool true)], args := [d] }
  | _ => none }
def clientAllRow : OpenClaim := { program := "ytacipjdaiglnjaagreatdoor", sum := "270e733f66fd6a394d479f3b8c7de12f0abf107b3ccd17bdf75d9cac1912c110", func := "curfew/curfewlaw26.ClientAll", spec := "clientAll", inPlace := ["internal/bytealg.IndexByteString", "internal/bytealg.IndexString", "sync/atomic.AddInt64", "sync/atomic.LoadInt64"], unfollowed := true, recurses := true, named := ["internal/bytealg.MaxLen", "curfew/crc.halves"], plainKeys := false, apart := false, laid := [("curfew/crc.halves", laid_curfew_crc_halves)] }
def ClientAllSaid : Prop := clientAllRow.holds Tryz.pinned (OpenSpec.ofChange clientAllSpec)

/-- ITS FALSE NEIGHBOUR: 'it returns false'. Refute it at one input. -/
def clientAllWrong : ChangeSpec := { name := "clientAll", fn := fun _ => fun
  | [d] => { results := [.lit (.bool false)], args := [d] }
  | _ => none }
def ClientAllWrongFalsely : Prop := clientAllRow.holds Tryz.pinned (OpenSpec.ofChange clientAllWrong)

/-- 'curfewlaw26.ClientNone': WHATEVER THE INPUT: true; the input reads as it did. -/
def clientNoneSpec : ChangeSpec := { name := "clientNone", fn := fun _ => fun
  | [] => { results := [.lit (.bool true)], args := [] }
  | _ => none }
def clientNoneRow : OpenClaim := { program := "ytacipjdaiglnjaagreatdoor", sum := "270e733f66fd6a394d479f3b8c7de12f0abf107b3ccd17bdf75d9cac1912c110", func := "curfew/curfewlaw26.ClientNone", spec := "clientNone", inPlace := ["internal/bytealg.IndexByteString", "internal/bytealg.IndexString", "sync/atomic.AddInt64", "sync/atomic.LoadInt64"], unfollowed := true, recurses := true, named := ["internal/bytealg.MaxLen", "curfew/crc.halves"], plainKeys := false, apart := false, laid := [("curfew/crc.halves", laid_curfew_crc_halves)] }
def ClientNoneSaid : Prop := clientNoneRow.holds Tryz.pinned (OpenSpec.ofChange clientNoneSpec)

/-- ITS FALSE NEIGHBOUR: 'it returns false'. Refute it at one input. -/
def clientNoneWrong : ChangeSpec := { name := "clientNone", fn := fun _ => fun
  | [] => { results := [.lit (.bool false)], args := [] }
  | _ => none }
def ClientNoneWrongFalsely : Prop := clientNoneRow.holds Tryz.pinned (OpenSpec.ofChange clientNoneWrong)

/-- 'curfewlaw26.ClientNoView': WHATEVER THE INPUT: true; the input reads as it did. -/
def clientNoViewSpec : ChangeSpec := { name := "clientNoView", fn := fun _ => fun
  | [d1, d2] => { results := [.lit (.bool true)], args := [d1, d2] }
  | _ => none }
def clientNoViewRow : OpenClaim := { program := "ytacipjdaiglnjaagreatdoor", sum := "270e733f66fd6a394d479f3b8c7de12f0abf107b3ccd17bdf75d9cac1912c110", func := "curfew/curfewlaw26.ClientNoView", spec := "clientNoView", inPlace := ["internal/bytealg.IndexByteString", "internal/bytealg.IndexString", "sync/atomic.AddInt64", "sync/atomic.LoadInt64"], unfollowed := true, recurses := true, named := ["internal/bytealg.MaxLen", "curfew/crc.halves"], plainKeys := false, apart := false, laid := [("curfew/crc.halves", laid_curfew_crc_halves)] }
def ClientNoViewSaid : Prop := clientNoViewRow.holds Tryz.pinned (OpenSpec.ofChange clientNoViewSpec)

/-- ITS FALSE NEIGHBOUR: 'it returns false'. Refute it at one input. -/
def clientNoViewWrong : ChangeSpec := { name := "clientNoView", fn := fun _ => fun
  | [d1, d2] => { results := [.lit (.bool false)], args := [d1, d2] }
  | _ => none }
def ClientNoViewWrongFalsely : Prop := clientNoViewRow.holds Tryz.pinned (OpenSpec.ofChange clientNoViewWrong)

/-- 'curfewlaw26.ClientBusy': WHATEVER THE INPUT: true; the input reads as it did. -/
def clientBusySpec : ChangeSpec := { name := "clientBusy", fn := fun _ => fun
  | [d] => { results := [.lit (.bool true)], args := [d] }
  | _ => none }
def clientBusyRow : OpenClaim := { program := "ytacipjdaiglnjaagreatdoor", sum := "270e733f66fd6a394d479f3b8c7de12f0abf107b3ccd17bdf75d9cac1912c110", func := "curfew/curfewlaw26.ClientBusy", spec := "clientBusy", inPlace := ["internal/bytealg.IndexByteString", "internal/bytealg.IndexString", "sync/atomic.AddInt64", "sync/atomic.LoadInt64"], unfollowed := true, recurses := true, named := ["internal/bytealg.MaxLen", "curfew/crc.halves"], plainKeys := false, apart := false, laid := [("curfew/crc.halves", laid_curfew_crc_halves)] }
def ClientBusySaid : Prop := clientBusyRow.holds Tryz.pinned (OpenSpec.ofChange clientBusySpec)

/-- ITS FALSE NEIGHBOUR: 'it returns false'. Refute it at one input. -/
def clientBusyWrong : ChangeSpec := { name := "clientBusy", fn := fun _ => fun
  | [d] => { results := [.lit (.bool false)], args := [d] }
  | _ => none }
def ClientBusyWrongFalsely : Prop := clientBusyRow.holds Tryz.pinned (OpenSpec.ofChange clientBusyWrong)

/-- 'curfewlaw26.ClientTwo': WHATEVER THE INPUT: true; the input reads as it did. -/
def clientTwoSpec : ChangeSpec := { name := "clientTwo", fn := fun _ => fun
  | [d] => { results := [.lit (.bool true)], args := [d] }
  | _ => none }
def clientTwoRow : OpenClaim := { program := "ytacipjdaiglnjaagreatdoor", sum := "270e733f66fd6a394d479f3b8c7de12f0abf107b3ccd17bdf75d9cac1912c110", func := "curfew/curfewlaw26.ClientTwo", spec := "clientTwo", inPlace := ["internal/bytealg.IndexByteString", "internal/bytealg.IndexString", "sync/atomic.AddInt64", "sync/atomic.LoadInt64"], unfollowed := true, recurses := true, named := ["internal/bytealg.MaxLen", "curfew/crc.halves"], plainKeys := false, apart := false, laid := [("curfew/crc.halves", laid_curfew_crc_halves)] }
def ClientTwoSaid : Prop := clientTwoRow.holds Tryz.pinned (OpenSpec.ofChange clientTwoSpec)

/-- ITS FALSE NEIGHBOUR: 'it returns false'. Refute it at one input. -/
def clientTwoWrong : ChangeSpec := { name := "clientTwo", fn := fun _ => fun
  | [d] => { results := [.lit (.bool false)], args := [d] }
  | _ => none }
def ClientTwoWrongFalsely : Prop := clientTwoRow.holds Tryz.pinned (OpenSpec.ofChange clientTwoWrong)

/- THE SECOND FORM. 'bulk': how many values and letters a reading holds, each counted each time it is reached (what is shared counts as often as it is met; a slice's spare places count too). A statement '..UptoSaid' is the law's where the arguments, and the package variables that the reading takes, are together of bulk at most 1048576: NARROWER than '..Said'. Prove '..Said' where nothing that the law and all that it calls make is longer than what came in: it says more and counts as full. Else prove '..UptoSaid'. A law counts once. -/
mutual
def uptoBulk {H : Type} : DataW H → Nat
  | .lit (.string bytes) => bytes.length + 1
  | .lit _ => 1
  | .nil => 1
  | .ptr d => uptoBulk d + 1
  | .slice elems spare => uptoBulkAll elems + uptoBulkAll spare + 1
  | .agg parts => uptoBulkAll parts + 1
  | .iface _ d => uptoBulk d + 1
  | .map entries => uptoBulkEntries entries + 1
  | .held _ => 1
def uptoBulkAll {H : Type} : List (DataW H) → Nat
  | [] => 0
  | d :: r => uptoBulk d + uptoBulkAll r
def uptoBulkEntries {H : Type} : List (Lit × DataW H) → Nat
  | [] => 0
  | x :: r => uptoBulkEntry x + uptoBulkEntries r
def uptoBulkEntry {H : Type} : Lit × DataW H → Nat
  | (.string bytes, d) => bytes.length + uptoBulk d + 1
  | (_, d) => uptoBulk d + 1
 end
def uptoSmall : (H : Type) → List (DataW H) → Bool := fun _ ds => decide (uptoBulkAll ds ≤ 1048576)
def OpenSpec.upto (s : _root_.Go.ChangeSpec) : _root_.Go.OpenSpec := { _root_.Go.OpenSpec.ofChange s with cond := some uptoSmall }

/-- 'curfewlaw26.ClientAll', WHERE WHAT IT READS IS OF BULK AT MOST 1048576: true; the input reads as it did. -/
def clientAllUptoRow : OpenClaim := { program := "ytacipjdaiglnjaagreatdoor", sum := "270e733f66fd6a394d479f3b8c7de12f0abf107b3ccd17bdf75d9cac1912c110", func := "curfew/curfewlaw26.ClientAll", spec := "clientAll", inPlace := ["internal/bytealg.IndexByteString", "internal/bytealg.IndexString", "sync/atomic.AddInt64", "sync/atomic.LoadInt64"], unfollowed := true, recurses := true, named := ["internal/bytealg.MaxLen", "curfew/crc.halves"], plainKeys := false, apart := false, laid := [("curfew/crc.halves", laid_curfew_crc_halves)], narrowed := true }
def ClientAllUptoSaid : Prop := clientAllUptoRow.holds Tryz.pinned (OpenSpec.upto clientAllSpec)

/-- 'curfewlaw26.ClientNone', WHERE WHAT IT READS IS OF BULK AT MOST 1048576: true; the input reads as it did. -/
def clientNoneUptoRow : OpenClaim := { program := "ytacipjdaiglnjaagreatdoor", sum := "270e733f66fd6a394d479f3b8c7de12f0abf107b3ccd17bdf75d9cac1912c110", func := "curfew/curfewlaw26.ClientNone", spec := "clientNone", inPlace := ["internal/bytealg.IndexByteString", "internal/bytealg.IndexString", "sync/atomic.AddInt64", "sync/atomic.LoadInt64"], unfollowed := true, recurses := true, named := ["internal/bytealg.MaxLen", "curfew/crc.halves"], plainKeys := false, apart := false, laid := [("curfew/crc.halves", laid_curfew_crc_halves)], narrowed := true }
def ClientNoneUptoSaid : Prop := clientNoneUptoRow.holds Tryz.pinned (OpenSpec.upto clientNoneSpec)

/-- 'curfewlaw26.ClientNoView', WHERE WHAT IT READS IS OF BULK AT MOST 1048576: true; the input reads as it did. -/
def clientNoViewUptoRow : OpenClaim := { program := "ytacipjdaiglnjaagreatdoor", sum := "270e733f66fd6a394d479f3b8c7de12f0abf107b3ccd17bdf75d9cac1912c110", func := "curfew/curfewlaw26.ClientNoView", spec := "clientNoView", inPlace := ["internal/bytealg.IndexByteString", "internal/bytealg.IndexString", "sync/atomic.AddInt64", "sync/atomic.LoadInt64"], unfollowed := true, recurses := true, named := ["internal/bytealg.MaxLen", "curfew/crc.halves"], plainKeys := false, apart := false, laid := [("curfew/crc.halves", laid_curfew_crc_halves)], narrowed := true }
def ClientNoViewUptoSaid : Prop := clientNoViewUptoRow.holds Tryz.pinned (OpenSpec.upto clientNoViewSpec)

/-- 'curfewlaw26.ClientBusy', WHERE WHAT IT READS IS OF BULK AT MOST 1048576: true; the input reads as it did. -/
def clientBusyUptoRow : OpenClaim := { program := "ytacipjdaiglnjaagreatdoor", sum := "270e733f66fd6a394d479f3b8c7de12f0abf107b3ccd17bdf75d9cac1912c110", func := "curfew/curfewlaw26.ClientBusy", spec := "clientBusy", inPlace := ["internal/bytealg.IndexByteString", "internal/bytealg.IndexString", "sync/atomic.AddInt64", "sync/atomic.LoadInt64"], unfollowed := true, recurses := true, named := ["internal/bytealg.MaxLen", "curfew/crc.halves"], plainKeys := false, apart := false, laid := [("curfew/crc.halves", laid_curfew_crc_halves)], narrowed := true }
def ClientBusyUptoSaid : Prop := clientBusyUptoRow.holds Tryz.pinned (OpenSpec.upto clientBusySpec)

/-- 'curfewlaw26.ClientTwo', WHERE WHAT IT READS IS OF BULK AT MOST 1048576: true; the input reads as it did. -/
def clientTwoUptoRow : OpenClaim := { program := "ytacipjdaiglnjaagreatdoor", sum := "270e733f66fd6a394d479f3b8c7de12f0abf107b3ccd17bdf75d9cac1912c110", func := "curfew/curfewlaw26.ClientTwo", spec := "clientTwo", inPlace := ["internal/bytealg.IndexByteString", "internal/bytealg.IndexString", "sync/atomic.AddInt64", "sync/atomic.LoadInt64"], unfollowed := true, recurses := true, named := ["internal/bytealg.MaxLen", "curfew/crc.halves"], plainKeys := false, apart := false, laid := [("curfew/crc.halves", laid_curfew_crc_halves)], narrowed := true }
def ClientTwoUptoSaid : Prop := clientTwoUptoRow.holds Tryz.pinned (OpenSpec.upto clientTwoSpec)

end Rows
end Go.Proofs.YtacipjdaiglnjaaGreatDoor
