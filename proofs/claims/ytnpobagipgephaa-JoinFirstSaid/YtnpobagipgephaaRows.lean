/-
  No cell of these rows narrows 'for every input' (looked for: loops, veiled, ifaces, maps, wideKeys, modest, calm, conditions, laid).
  DERIVED. THE GIVEN ROWS OF THIS SEAT. 3 by the template 'for every input the law returns true; each argument reads behind the call as it read before'; 0 by the template 'total and deterministic' (their statements: YtnpobagipgephaaTotals.lean).
  GIVEN WITH THE SEED: the statements are not yours to turn. If you find one false, say at which input.
  Laid BY PROGRAM, IN A SANDBOX (cutbox-rows.mjs): the forced cells as the released guide's own fill.sh prints them over the translation dca2f0bb609c7465… (all of the seat's roots in one cut). By AI agents, Wed Nov 11 2026. No macro, syntax, notation, axiom, sorry.
-/
import Derived.Test.YtnpobagipgephaaChecked
import GoSem.Claim
import GoSem.ClaimJoined
import GoSem.ClaimMapViews
import Derived.JoinedTies
import Derived.KernelRfl
namespace Go.Proofs.Ytnpobagipgephaa
/- THE CELL 'sum', in the pinned program and in every row, IS THE sha256 OF THE DUMP (.gsa) THAT YtnpobagipgephaaProg.lean LOADS. Nothing in Lean hashes anything: it is a label: what it is worth is what the hold of that sum in a sandbox is worth. -/
noncomputable def Try.pinned : Pinned := { name := "ytnpobagipgephaa", sum := "dca2f0bb609c74653dbb3001e9aeafa2a5af75882ce17d56d1fa60a881244c47", checked := Try.checked }
namespace Rows
def none {H : Type} : Left H := { results := [], args := [] }

/-- 'curfewlaw24.JoinAsk': WHATEVER THE INPUT: true; the input reads as it did. -/
def joinAskSpec : ChangeSpec := { name := "joinAsk", fn := fun _ => fun
  | [d1, d2, d3, d4] => { results := [.lit (.bool true)], args := [d1, d2, d3, d4] }
  | _ => none }
def joinAskRow : OpenClaim := { program := "ytnpobagipgephaa", sum := "dca2f0bb609c74653dbb3001e9aeafa2a5af75882ce17d56d1fa60a881244c47", func := "curfew/curfewlaw24.JoinAsk", spec := "joinAsk", unfollowed := true, recurses := true, apart := false }
def JoinAskSaid : Prop := joinAskRow.holds Try.pinned (OpenSpec.ofChange joinAskSpec)

/-- ITS FALSE NEIGHBOUR: 'it returns false'. Refute it at one input. -/
def joinAskWrong : ChangeSpec := { name := "joinAsk", fn := fun _ => fun
  | [d1, d2, d3, d4] => { results := [.lit (.bool false)], args := [d1, d2, d3, d4] }
  | _ => none }
def JoinAskWrongFalsely : Prop := joinAskRow.holds Try.pinned (OpenSpec.ofChange joinAskWrong)

/-- 'curfewlaw24.JoinNone': WHATEVER THE INPUT: true; the input reads as it did. -/
def joinNoneSpec : ChangeSpec := { name := "joinNone", fn := fun _ => fun
  | [] => { results := [.lit (.bool true)], args := [] }
  | _ => none }
def joinNoneRow : OpenClaim := { program := "ytnpobagipgephaa", sum := "dca2f0bb609c74653dbb3001e9aeafa2a5af75882ce17d56d1fa60a881244c47", func := "curfew/curfewlaw24.JoinNone", spec := "joinNone", unfollowed := true, recurses := true, apart := false }
def JoinNoneSaid : Prop := joinNoneRow.holds Try.pinned (OpenSpec.ofChange joinNoneSpec)

/-- ITS FALSE NEIGHBOUR: 'it returns false'. Refute it at one input. -/
def joinNoneWrong : ChangeSpec := { name := "joinNone", fn := fun _ => fun
  | [] => { results := [.lit (.bool false)], args := [] }
  | _ => none }
def JoinNoneWrongFalsely : Prop := joinNoneRow.holds Try.pinned (OpenSpec.ofChange joinNoneWrong)

/-- 'curfewlaw24.JoinFirst': WHATEVER THE INPUT: true; the input reads as it did. -/
def joinFirstSpec : ChangeSpec := { name := "joinFirst", fn := fun _ => fun
  | [d1, d2, d3, d4] => { results := [.lit (.bool true)], args := [d1, d2, d3, d4] }
  | _ => none }
def joinFirstRow : OpenClaim := { program := "ytnpobagipgephaa", sum := "dca2f0bb609c74653dbb3001e9aeafa2a5af75882ce17d56d1fa60a881244c47", func := "curfew/curfewlaw24.JoinFirst", spec := "joinFirst", unfollowed := true, recurses := true, apart := false }
def JoinFirstSaid : Prop := joinFirstRow.holds Try.pinned (OpenSpec.ofChange joinFirstSpec)

/-- ITS FALSE NEIGHBOUR: 'it returns false'. Refute it at one input. -/
def joinFirstWrong : ChangeSpec := { name := "joinFirst", fn := fun _ => fun
  | [d1, d2, d3, d4] => { results := [.lit (.bool false)], args := [d1, d2, d3, d4] }
  | _ => none }
def JoinFirstWrongFalsely : Prop := joinFirstRow.holds Try.pinned (OpenSpec.ofChange joinFirstWrong)

/- THE SECOND FORM. 'bulk': how many values and letters a reading holds, each counted each time it is reached (what is shared counts as often as it is met; a slice's spare places count too). A statement '..UptoSaid' is the law's where the arguments, and the package variables that the reading takes, are together of bulk at most 1048576: NARROWER than '..Said'. Prove '..Said' where nothing that the law and all that it calls make is longer than what came in: it says more and counts as full. Else prove '..UptoSaid'. A law counts once. -/
mutual
def uptoBulk {H : Type} : DataW H → Nat
  | .lit (.string bytes) => bytes.length + 1
  | .lit _ => 1
  | .nil => 1
  | .ptr d => uptoBulk d + 1
  | .slice elems spare => uptoBulkAll elems + uptoBulkAll spare + 1
  | .agg parts => uptoBulkAll parts + 1
  | .iface _ d => uptoBulk d + 1
  | .map entries => uptoBulkEntries entries + 1
  | .held _ => 1
def uptoBulkAll {H : Type} : List (DataW H) → Nat
  | [] => 0
  | d :: r => uptoBulk d + uptoBulkAll r
def uptoBulkEntries {H : Type} : List (Lit × DataW H) → Nat
  | [] => 0
  | x :: r => uptoBulkEntry x + uptoBulkEntries r
def uptoBulkEntry {H : Type} : Lit × DataW H → Nat
  | (.string bytes, d) => bytes.length + uptoBulk d + 1
  | (_, d) => uptoBulk d + 1
 end
def uptoSmall : (H : Type) → List (DataW H) → Bool := fun _ ds => decide (uptoBulkAll ds ≤ 1048576)
def OpenSpec.upto (s : _root_.Go.ChangeSpec) : _root_.Go.OpenSpec := { _root_.Go.OpenSpec.ofChange s with cond := some uptoSmall }

/-- 'curfewlaw24.JoinAsk', WHERE WHAT IT READS IS OF BULK AT MOST 1048576: true; the input reads as it did. -/
def joinAskUptoRow : OpenClaim := { program := "ytnpobagipgephaa", sum := "dca2f0bb609c74653dbb3001e9aeafa2a5af75882ce17d56d1fa60a881244c47", func := "curfew/curfewlaw24.JoinAsk", spec := "joinAsk", unfollowed := true, recurses := true, apart := false, narrowed := true }
def JoinAskUptoSaid : Prop := joinAskUptoRow.holds Try.pinned (OpenSpec.upto joinAskSpec)

/-- 'curfewlaw24.JoinNone', WHERE WHAT IT READS IS OF BULK AT MOST 1048576: true; the input reads as it did. -/
def joinNoneUptoRow : OpenClaim := { program := "ytnpobagipgephaa", sum := "dca2f0bb609c74653dbb3001e9aeafa2a5af75882ce17d56d1fa60a881244c47", func := "curfew/curfewlaw24.JoinNone", spec := "joinNone", unfollowed := true, recurses := true, apart := false, narrowed := true }
def JoinNoneUptoSaid : Prop := joinNoneUptoRow.holds Try.pinned (OpenSpec.upto joinNoneSpec)

/-- 'curfewlaw24.JoinFirst', WHERE WHAT IT READS IS OF BULK AT MOST 1048576: true; the input reads as it did. -/
def joinFirstUptoRow : OpenClaim := { program := "ytnpobagipgephaa", sum := "dca2f0bb609c74653dbb3001e9aeafa2a5af75882ce17d56d1fa60a881244c47", func := "curfew/curfewlaw24.JoinFirst", spec := "joinFirst", unfollowed := true, recurses := true, apart := false, narrowed := true }
def JoinFirstUptoSaid : Prop := joinFirstUptoRow.holds Try.pinned (OpenSpec.upto joinFirstSpec)

end Rows
end Go.Proofs.Ytnpobagipgephaa
