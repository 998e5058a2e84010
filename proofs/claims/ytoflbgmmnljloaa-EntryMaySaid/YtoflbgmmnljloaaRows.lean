/-
  No cell of these rows narrows 'for every input' (looked for: loops, veiled, ifaces, maps, wideKeys, modest, calm, conditions, laid).
  DERIVED. THE GIVEN ROWS OF THIS SEAT. 6 by the template 'for every input the law returns true; each argument reads behind the call as it read before'; 0 by the template 'total and deterministic' (their statements: YtoflbgmmnljloaaTotals.lean).
  GIVEN WITH THE SEED: the statements are not yours to turn. If you find one false, say at which input.
  Laid BY PROGRAM, IN A SANDBOX (cutbox-rows.mjs): the forced cells as the released guide's own fill.sh prints them over the translation ce6d2d7d296af338… (all of the seat's roots in one cut). By AI agents, Wed Nov 11 2026. No macro, syntax, notation, axiom, sorry.
-/
import Derived.Test.YtoflbgmmnljloaaChecked
import GoSem.Claim
import GoSem.ClaimJoined
import GoSem.ClaimMapViews
import Derived.JoinedTies
import Derived.KernelRfl
namespace Go.Proofs.Ytoflbgmmnljloaa
/- THE CELL 'sum', in the pinned program and in every row, IS THE sha256 OF THE DUMP (.gsa) THAT YtoflbgmmnljloaaProg.lean LOADS. Nothing in Lean hashes anything: it is a label: what it is worth is what the hold of that sum in a sandbox is worth. -/
noncomputable def Try.pinned : Pinned := { name := "ytoflbgmmnljloaa", sum := "ce6d2d7d296af338609c78a88edf6fcbe22542d00744d9bb823af46625d4b49f", checked := Try.checked }
namespace Rows
def none {H : Type} : Left H := { results := [], args := [] }

/-- 'curfewlaw12.EntryMay': WHATEVER THE INPUT: true; the input reads as it did. -/
def entryMaySpec : ChangeSpec := { name := "entryMay", fn := fun _ => fun
  | [d1, d2] => { results := [.lit (.bool true)], args := [d1, d2] }
  | _ => none }
def entryMayRow : OpenClaim := { program := "ytoflbgmmnljloaa", sum := "ce6d2d7d296af338609c78a88edf6fcbe22542d00744d9bb823af46625d4b49f", func := "curfew/curfewlaw12.EntryMay", spec := "entryMay", apart := false }
def EntryMaySaid : Prop := entryMayRow.holds Try.pinned (OpenSpec.ofChange entryMaySpec)

/-- ITS FALSE NEIGHBOUR: 'it returns false'. Refute it at one input. -/
def entryMayWrong : ChangeSpec := { name := "entryMay", fn := fun _ => fun
  | [d1, d2] => { results := [.lit (.bool false)], args := [d1, d2] }
  | _ => none }
def EntryMayWrongFalsely : Prop := entryMayRow.holds Try.pinned (OpenSpec.ofChange entryMayWrong)

/-- 'curfewlaw12.EntryBytes': WHATEVER THE INPUT: true; the input reads as it did. -/
def entryBytesSpec : ChangeSpec := { name := "entryBytes", fn := fun _ => fun
  | [d1, d2, d3] => { results := [.lit (.bool true)], args := [d1, d2, d3] }
  | _ => none }
def entryBytesRow : OpenClaim := { program := "ytoflbgmmnljloaa", sum := "ce6d2d7d296af338609c78a88edf6fcbe22542d00744d9bb823af46625d4b49f", func := "curfew/curfewlaw12.EntryBytes", spec := "entryBytes", apart := false }
def EntryBytesSaid : Prop := entryBytesRow.holds Try.pinned (OpenSpec.ofChange entryBytesSpec)

/-- ITS FALSE NEIGHBOUR: 'it returns false'. Refute it at one input. -/
def entryBytesWrong : ChangeSpec := { name := "entryBytes", fn := fun _ => fun
  | [d1, d2, d3] => { results := [.lit (.bool false)], args := [d1, d2, d3] }
  | _ => none }
def EntryBytesWrongFalsely : Prop := entryBytesRow.holds Try.pinned (OpenSpec.ofChange entryBytesWrong)

/-- 'curfewlaw12.EntryAny': WHATEVER THE INPUT: true; the input reads as it did. -/
def entryAnySpec : ChangeSpec := { name := "entryAny", fn := fun _ => fun
  | [d] => { results := [.lit (.bool true)], args := [d] }
  | _ => none }
def entryAnyRow : OpenClaim := { program := "ytoflbgmmnljloaa", sum := "ce6d2d7d296af338609c78a88edf6fcbe22542d00744d9bb823af46625d4b49f", func := "curfew/curfewlaw12.EntryAny", spec := "entryAny", apart := false }
def EntryAnySaid : Prop := entryAnyRow.holds Try.pinned (OpenSpec.ofChange entryAnySpec)

/-- ITS FALSE NEIGHBOUR: 'it returns false'. Refute it at one input. -/
def entryAnyWrong : ChangeSpec := { name := "entryAny", fn := fun _ => fun
  | [d] => { results := [.lit (.bool false)], args := [d] }
  | _ => none }
def EntryAnyWrongFalsely : Prop := entryAnyRow.holds Try.pinned (OpenSpec.ofChange entryAnyWrong)

/-- 'curfewlaw12.EntryTwins': WHATEVER THE INPUT: true; the input reads as it did. -/
def entryTwinsSpec : ChangeSpec := { name := "entryTwins", fn := fun _ => fun
  | [d1, d2] => { results := [.lit (.bool true)], args := [d1, d2] }
  | _ => none }
def entryTwinsRow : OpenClaim := { program := "ytoflbgmmnljloaa", sum := "ce6d2d7d296af338609c78a88edf6fcbe22542d00744d9bb823af46625d4b49f", func := "curfew/curfewlaw12.EntryTwins", spec := "entryTwins", apart := false }
def EntryTwinsSaid : Prop := entryTwinsRow.holds Try.pinned (OpenSpec.ofChange entryTwinsSpec)

/-- ITS FALSE NEIGHBOUR: 'it returns false'. Refute it at one input. -/
def entryTwinsWrong : ChangeSpec := { name := "entryTwins", fn := fun _ => fun
  | [d1, d2] => { results := [.lit (.bool false)], args := [d1, d2] }
  | _ => none }
def EntryTwinsWrongFalsely : Prop := entryTwinsRow.holds Try.pinned (OpenSpec.ofChange entryTwinsWrong)

/-- 'curfewlaw12.EntrySame': WHATEVER THE INPUT: true; the input reads as it did. -/
def entrySameSpec : ChangeSpec := { name := "entrySame", fn := fun _ => fun
  | [d1, d2, d3, d4, d5] => { results := [.lit (.bool true)], args := [d1, d2, d3, d4, d5] }
  | _ => none }
def entrySameRow : OpenClaim := { program := "ytoflbgmmnljloaa", sum := "ce6d2d7d296af338609c78a88edf6fcbe22542d00744d9bb823af46625d4b49f", func := "curfew/curfewlaw12.EntrySame", spec := "entrySame", apart := false }
def EntrySameSaid : Prop := entrySameRow.holds Try.pinned (OpenSpec.ofChange entrySameSpec)

/-- ITS FALSE NEIGHBOUR: 'it returns false'. Refute it at one input. -/
def entrySameWrong : ChangeSpec := { name := "entrySame", fn := fun _ => fun
  | [d1, d2, d3, d4, d5] => { results := [.lit (.bool false)], args := [d1, d2, d3, d4, d5] }
  | _ => none }
def EntrySameWrongFalsely : Prop := entrySameRow.holds Try.pinned (OpenSpec.ofChange entrySameWrong)

/-- 'curfewlaw12.EntryJoin': WHATEVER THE INPUT: true; the input reads as it did. -/
def entryJoinSpec : ChangeSpec := { name := "entryJoin", fn := fun _ => fun
  | [d1, d2] => { results := [.lit (.bool true)], args := [d1, d2] }
  | _ => none }
def entryJoinRow : OpenClaim := { program := "ytoflbgmmnljloaa", sum := "ce6d2d7d296af338609c78a88edf6fcbe22542d00744d9bb823af46625d4b49f", func := "curfew/curfewlaw12.EntryJoin", spec := "entryJoin", apart := false }
def EntryJoinSaid : Prop := entryJoinRow.holds Try.pinned (OpenSpec.ofChange entryJoinSpec)

/-- ITS FALSE NEIGHBOUR: 'it returns false'. Refute it at one input. -/
def entryJoinWrong : ChangeSpec := { name := "entryJoin", fn := fun _ => fun
  | [d1, d2] => { results := [.lit (.bool false)], args := [d1, d2] }
  | _ => none }
def EntryJoinWrongFalsely : Prop := entryJoinRow.holds Try.pinned (OpenSpec.ofChange entryJoinWrong)

/- THE SECOND FORM. 'bulk': how many values and letters a reading holds, each counted each time it is reached (what is shared counts as often as it is met; a slice's spare places count too). A statement '..UptoSaid' is the law's where the arguments, and the package variables that the reading takes, are together of bulk at most 1048576: NARROWER than '..Said'. Prove '..Said' where nothing that the law and all that it calls make is longer than what came in: it says more and counts as full. Else prove '..UptoSaid'. A law counts once. -/
mutual
def uptoBulk {H : Type} : DataW H → Nat
  | .lit (.string bytes) => bytes.length + 1
  | .lit _ => 1
  | .nil => 1
  | .ptr d => uptoBulk d + 1
  | .slice elems spare => uptoBulkAll elems + uptoBulkAll spare + 1
  | .agg parts => uptoBulkAll parts + 1
  | .iface _ d => uptoBulk d + 1
  | .map entries => uptoBulkEntries entries + 1
  | .held _ => 1
def uptoBulkAll {H : Type} : List (DataW H) → Nat
  | [] => 0
  | d :: r => uptoBulk d + uptoBulkAll r
def uptoBulkEntries {H : Type} : List (Lit × DataW H) → Nat
  | [] => 0
  | x :: r => uptoBulkEntry x + uptoBulkEntries r
def uptoBulkEntry {H : Type} : Lit × DataW H → Nat
  | (.string bytes, d) => bytes.length + uptoBulk d + 1
  | (_, d) => uptoBulk d + 1
 end
def uptoSmall : (H : Type) → List (DataW H) → Bool := fun _ ds => decide (uptoBulkAll ds ≤ 1048576)
def OpenSpec.upto (s : _root_.Go.ChangeSpec) : _root_.Go.OpenSpec := { _root_.Go.OpenSpec.ofChange s with cond := some uptoSmall }

/-- 'curfewlaw12.EntryMay', WHERE WHAT IT READS IS OF BULK AT MOST 1048576: true; the input reads as it did. -/
def entryMayUptoRow : OpenClaim := { program := "ytoflbgmmnljloaa", sum := "ce6d2d7d296af338609c78a88edf6fcbe22542d00744d9bb823af46625d4b49f", func := "curfew/curfewlaw12.EntryMay", spec := "entryMay", apart := false, narrowed := true }
def EntryMayUptoSaid : Prop := entryMayUptoRow.holds Try.pinned (OpenSpec.upto entryMaySpec)

/-- 'curfewlaw12.EntryBytes', WHERE WHAT IT READS IS OF BULK AT MOST 1048576: true; the input reads as it did. -/
def entryBytesUptoRow : OpenClaim := { program := "ytoflbgmmnljloaa", sum := "ce6d2d7d296af338609c78a88edf6fcbe22542d00744d9bb823af46625d4b49f", func := "curfew/curfewlaw12.EntryBytes", spec := "entryBytes", apart := false, narrowed := true }
def EntryBytesUptoSaid : Prop := entryBytesUptoRow.holds Try.pinned (OpenSpec.upto entryBytesSpec)

/-- 'curfewlaw12.EntryAny', WHERE WHAT IT READS IS OF BULK AT MOST 1048576: true; the input reads as it did. -/
def entryAnyUptoRow : OpenClaim := { program := "ytoflbgmmnljloaa", sum := "ce6d2d7d296af338609c78a88edf6fcbe22542d00744d9bb823af46625d4b49f", func := "curfew/curfewlaw12.EntryAny", spec := "entryAny", apart := false, narrowed := true }
def EntryAnyUptoSaid : Prop := entryAnyUptoRow.holds Try.pinned (OpenSpec.upto entryAnySpec)

/-- 'curfewlaw12.EntryTwins', WHERE WHAT IT READS IS OF BULK AT MOST 1048576: true; the input reads as it did. -/
def entryTwinsUptoRow : OpenClaim := { program := "ytoflbgmmnljloaa", sum := "ce6d2d7d296af338609c78a88edf6fcbe22542d00744d9bb823af46625d4b49f", func := "curfew/curfewlaw12.EntryTwins", spec := "entryTwins", apart := false, narrowed := true }
def EntryTwinsUptoSaid : Prop := entryTwinsUptoRow.holds Try.pinned (OpenSpec.upto entryTwinsSpec)

/-- 'curfewlaw12.EntrySame', WHERE WHAT IT READS IS OF BULK AT MOST 1048576: true; the input reads as it did. -/
def entrySameUptoRow : OpenClaim := { program := "ytoflbgmmnljloaa", sum := "ce6d2d7d296af338609c78a88edf6fcbe22542d00744d9bb823af46625d4b49f", func := "curfew/curfewlaw12.EntrySame", spec := "entrySame", apart := false, narrowed := true }
def EntrySameUptoSaid : Prop := entrySameUptoRow.holds Try.pinned (OpenSpec.upto entrySameSpec)

/-- 'curfewlaw12.EntryJoin', WHERE WHAT IT READS IS OF BULK AT MOST 1048576: true; the input reads as it did. -/
def entryJoinUptoRow : OpenClaim := { program := "ytoflbgmmnljloaa", sum := "ce6d2d7d296af338609c78a88edf6fcbe22542d00744d9bb823af46625d4b49f", func := "curfew/curfewlaw12.EntryJoin", spec := "entryJoin", apart := false, narrowed := true }
def EntryJoinUptoSaid : Prop := entryJoinUptoRow.holds Try.pinned (OpenSpec.upto entryJoinSpec)

end Rows
end Go.Proofs.Ytoflbgmmnljloaa
