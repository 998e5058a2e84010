/-
  No cell of these rows narrows 'for every input' (looked for: loops, veiled, ifaces, maps, wideKeys, modest, calm, conditions, laid).
  DERIVED. THE GIVEN ROWS OF THIS SEAT. 6 by the template 'for every input the law returns true; each argument reads behind the call as it read before'; 0 by the template 'total and deterministic' (their statements: YtheeigbljjcbpaaTotals.lean).
  GIVEN WITH THE SEED: the statements are not yours to turn. If you find one false, say at which input.
  Laid BY PROGRAM, IN A SANDBOX (cutbox-rows.mjs): the forced cells as the released guide's own fill.sh prints them over the translation 3fd9d53734f2fd97… (all of the seat's roots in one cut). By AI agents, Wed Nov 11 2026. No macro, syntax, notation, axiom, sorry.
-/
import Derived.Test.YtheeigbljjcbpaaChecked
import GoSem.Claim
import GoSem.ClaimJoined
import GoSem.ClaimMapViews
import Derived.JoinedTies
import Derived.KernelRfl
namespace Go.Proofs.Ytheeigbljjcbpaa
/- THE CELL 'sum', in the pinned program and in every row, IS THE sha256 OF THE DUMP (.gsa) THAT YtheeigbljjcbpaaProg.lean LOADS. Nothing in Lean hashes anything: it is a label: what it is worth is what the hold of that sum in a sandbox is worth. -/
noncomputable def Try.pinned : Pinned := { name := "ytheeigbljjcbpaa", sum := "3fd9d53734f2fd970f49eff69d8976a1143b3ad2acb8898e0d76fc35f0012c9c", checked := Try.checked }
namespace Rows
def none {H : Type} : Left H := { results := [], args := [] }

/-- 'curfewlaw20.VoteAll': WHATEVER THE INPUT: true; the input reads as it did. -/
def voteAllSpec : ChangeSpec := { name := "voteAll", fn := fun _ => fun
  | [d1, d2, d3] => { results := [.lit (.bool true)], args := [d1, d2, d3] }
  | _ => none }
def voteAllRow : OpenClaim := { program := "ytheeigbljjcbpaa", sum := "3fd9d53734f2fd970f49eff69d8976a1143b3ad2acb8898e0d76fc35f0012c9c", func := "curfew/curfewlaw20.VoteAll", spec := "voteAll", unfollowed := true, recurses := true, apart := false }
def VoteAllSaid : Prop := voteAllRow.holds Try.pinned (OpenSpec.ofChange voteAllSpec)

/-- ITS FALSE NEIGHBOUR: 'it returns false'. Refute it at one input. -/
def voteAllWrong : ChangeSpec := { name := "voteAll", fn := fun _ => fun
  | [d1, d2, d3] => { results := [.lit (.bool false)], args := [d1, d2, d3] }
  | _ => none }
def VoteAllWrongFalsely : Prop := voteAllRow.holds Try.pinned (OpenSpec.ofChange voteAllWrong)

/-- 'curfewlaw20.VoteOrder': WHATEVER THE INPUT: true; the input reads as it did. -/
def voteOrderSpec : ChangeSpec := { name := "voteOrder", fn := fun _ => fun
  | [d1, d2, d3] => { results := [.lit (.bool true)], args := [d1, d2, d3] }
  | _ => none }
def voteOrderRow : OpenClaim := { program := "ytheeigbljjcbpaa", sum := "3fd9d53734f2fd970f49eff69d8976a1143b3ad2acb8898e0d76fc35f0012c9c", func := "curfew/curfewlaw20.VoteOrder", spec := "voteOrder", unfollowed := true, recurses := true, apart := false }
def VoteOrderSaid : Prop := voteOrderRow.holds Try.pinned (OpenSpec.ofChange voteOrderSpec)

/-- ITS FALSE NEIGHBOUR: 'it returns false'. Refute it at one input. -/
def voteOrderWrong : ChangeSpec := { name := "voteOrder", fn := fun _ => fun
  | [d1, d2, d3] => { results := [.lit (.bool false)], args := [d1, d2, d3] }
  | _ => none }
def VoteOrderWrongFalsely : Prop := voteOrderRow.holds Try.pinned (OpenSpec.ofChange voteOrderWrong)

/-- 'curfewlaw20.VoteOwn': WHATEVER THE INPUT: true; the input reads as it did. -/
def voteOwnSpec : ChangeSpec := { name := "voteOwn", fn := fun _ => fun
  | [d] => { results := [.lit (.bool true)], args := [d] }
  | _ => none }
def voteOwnRow : OpenClaim := { program := "ytheeigbljjcbpaa", sum := "3fd9d53734f2fd970f49eff69d8976a1143b3ad2acb8898e0d76fc35f0012c9c", func := "curfew/curfewlaw20.VoteOwn", spec := "voteOwn", unfollowed := true, recurses := true, apart := false }
def VoteOwnSaid : Prop := voteOwnRow.holds Try.pinned (OpenSpec.ofChange voteOwnSpec)

/-- ITS FALSE NEIGHBOUR: 'it returns false'. Refute it at one input. -/
def voteOwnWrong : ChangeSpec := { name := "voteOwn", fn := fun _ => fun
  | [d] => { results := [.lit (.bool false)], args := [d] }
  | _ => none }
def VoteOwnWrongFalsely : Prop := voteOwnRow.holds Try.pinned (OpenSpec.ofChange voteOwnWrong)

/-- 'curfewlaw20.VoteNone': WHATEVER THE INPUT: true; the input reads as it did. -/
def voteNoneSpec : ChangeSpec := { name := "voteNone", fn := fun _ => fun
  | [] => { results := [.lit (.bool true)], args := [] }
  | _ => none }
def voteNoneRow : OpenClaim := { program := "ytheeigbljjcbpaa", sum := "3fd9d53734f2fd970f49eff69d8976a1143b3ad2acb8898e0d76fc35f0012c9c", func := "curfew/curfewlaw20.VoteNone", spec := "voteNone", unfollowed := true, recurses := true, apart := false }
def VoteNoneSaid : Prop := voteNoneRow.holds Try.pinned (OpenSpec.ofChange voteNoneSpec)

/-- ITS FALSE NEIGHBOUR: 'it returns false'. Refute it at one input. -/
def voteNoneWrong : ChangeSpec := { name := "voteNone", fn := fun _ => fun
  | [] => { results := [.lit (.bool false)], args := [] }
  | _ => none }
def VoteNoneWrongFalsely : Prop := voteNoneRow.holds Try.pinned (OpenSpec.ofChange voteNoneWrong)

/-- 'curfewlaw20.VoteBest': WHATEVER THE INPUT: true; the input reads as it did. -/
def voteBestSpec : ChangeSpec := { name := "voteBest", fn := fun _ => fun
  | [d1, d2, d3] => { results := [.lit (.bool true)], args := [d1, d2, d3] }
  | _ => none }
def voteBestRow : OpenClaim := { program := "ytheeigbljjcbpaa", sum := "3fd9d53734f2fd970f49eff69d8976a1143b3ad2acb8898e0d76fc35f0012c9c", func := "curfew/curfewlaw20.VoteBest", spec := "voteBest", unfollowed := true, recurses := true, apart := false }
def VoteBestSaid : Prop := voteBestRow.holds Try.pinned (OpenSpec.ofChange voteBestSpec)

/-- ITS FALSE NEIGHBOUR: 'it returns false'. Refute it at one input. -/
def voteBestWrong : ChangeSpec := { name := "voteBest", fn := fun _ => fun
  | [d1, d2, d3] => { results := [.lit (.bool false)], args := [d1, d2, d3] }
  | _ => none }
def VoteBestWrongFalsely : Prop := voteBestRow.holds Try.pinned (OpenSpec.ofChange voteBestWrong)

/-- 'curfewlaw20.VoteMay': WHATEVER THE INPUT: true; the input reads as it did. -/
def voteMaySpec : ChangeSpec := { name := "voteMay", fn := fun _ => fun
  | [d1, d2, d3, d4, d5, d6] => { results := [.lit (.bool true)], args := [d1, d2, d3, d4, d5, d6] }
  | _ => none }
def voteMayRow : OpenClaim := { program := "ytheeigbljjcbpaa", sum := "3fd9d53734f2fd970f49eff69d8976a1143b3ad2acb8898e0d76fc35f0012c9c", func := "curfew/curfewlaw20.VoteMay", spec := "voteMay", unfollowed := true, recurses := true, apart := false }
def VoteMaySaid : Prop := voteMayRow.holds Try.pinned (OpenSpec.ofChange voteMaySpec)

/-- ITS FALSE NEIGHBOUR: 'it returns false'. Refute it at one input. -/
def voteMayWrong : ChangeSpec := { name := "voteMay", fn := fun _ => fun
  | [d1, d2, d3, d4, d5, d6] => { results := [.lit (.bool false)], args := [d1, d2, d3, d4, d5, d6] }
  | _ => none }
def VoteMayWrongFalsely : Prop := voteMayRow.holds Try.pinned (OpenSpec.ofChange voteMayWrong)

/- THE SECOND FORM. 'bulk': how many values and letters a reading holds, each counted each time it is reached (what is shared counts as often as it is met; a slice's spare places count too). A statement '..UptoSaid' is the law's where the arguments, and the package variables that the reading takes, are together of bulk at most 1048576: NARROWER than '..Said'. Prove '..Said' where nothing that the law and all that it calls make is longer than what came in: it says more and counts as full. Else prove '..UptoSaid'. A law counts once. -/
mutual
def uptoBulk {H : Type} : DataW H → Nat
  | .lit (.string bytes) => bytes.length + 1
  | .lit _ => 1
  | .nil => 1
  | .ptr d => uptoBulk d + 1
  | .slice elems spare => uptoBulkAll elems + uptoBulkAll spare + 1
  | .agg parts => uptoBulkAll parts + 1
  | .iface _ d => uptoBulk d + 1
  | .map entries => uptoBulkEntries entries + 1
  | .held _ => 1
def uptoBulkAll {H : Type} : List (DataW H) → Nat
  | [] => 0
  | d :: r => uptoBulk d + uptoBulkAll r
def uptoBulkEntries {H : Type} : List (Lit × DataW H) → Nat
  | [] => 0
  | x :: r => uptoBulkEntry x + uptoBulkEntries r
def uptoBulkEntry {H : Type} : Lit × DataW H → Nat
  | (.string bytes, d) => bytes.length + uptoBulk d + 1
  | (_, d) => uptoBulk d + 1
 end
def uptoSmall : (H : Type) → List (DataW H) → Bool := fun _ ds => decide (uptoBulkAll ds ≤ 1048576)
def OpenSpec.upto (s : _root_.Go.ChangeSpec) : _root_.Go.OpenSpec := { _root_.Go.OpenSpec.ofChange s with cond := some uptoSmall }

/-- 'curfewlaw20.VoteAll', WHERE WHAT IT READS IS OF BULK AT MOST 1048576: true; the input reads as it did. -/
def voteAllUptoRow : OpenClaim := { program := "ytheeigbljjcbpaa", sum := "3fd9d53734f2fd970f49eff69d8976a1143b3ad2acb8898e0d76fc35f0012c9c", func := "curfew/curfewlaw20.VoteAll", spec := "voteAll", unfollowed := true, recurses := true, apart := false, narrowed := true }
def VoteAllUptoSaid : Prop := voteAllUptoRow.holds Try.pinned (OpenSpec.upto voteAllSpec)

/-- 'curfewlaw20.VoteOrder', WHERE WHAT IT READS IS OF BULK AT MOST 1048576: true; the input reads as it did. -/
def voteOrderUptoRow : OpenClaim := { program := "ytheeigbljjcbpaa", sum := "3fd9d53734f2fd970f49eff69d8976a1143b3ad2acb8898e0d76fc35f0012c9c", func := "curfew/curfewlaw20.VoteOrder", spec := "voteOrder", unfollowed := true, recurses := true, apart := false, narrowed := true }
def VoteOrderUptoSaid : Prop := voteOrderUptoRow.holds Try.pinned (OpenSpec.upto voteOrderSpec)

/-- 'curfewlaw20.VoteOwn', WHERE WHAT IT READS IS OF BULK AT MOST 1048576: true; the input reads as it did. -/
def voteOwnUptoRow : OpenClaim := { program := "ytheeigbljjcbpaa", sum := "3fd9d53734f2fd970f49eff69d8976a1143b3ad2acb8898e0d76fc35f0012c9c", func := "curfew/curfewlaw20.VoteOwn", spec := "voteOwn", unfollowed := true, recurses := true, apart := false, narrowed := true }
def VoteOwnUptoSaid : Prop := voteOwnUptoRow.holds Try.pinned (OpenSpec.upto voteOwnSpec)

/-- 'curfewlaw20.VoteNone', WHERE WHAT IT READS IS OF BULK AT MOST 1048576: true; the input reads as it did. -/
def voteNoneUptoRow : OpenClaim := { program := "ytheeigbljjcbpaa", sum := "3fd9d53734f2fd970f49eff69d8976a1143b3ad2acb8898e0d76fc35f0012c9c", func := "curfew/curfewlaw20.VoteNone", spec := "voteNone", unfollowed := true, recurses := true, apart := false, narrowed := true }
def VoteNoneUptoSaid : Prop := voteNoneUptoRow.holds Try.pinned (OpenSpec.upto voteNoneSpec)

/-- 'curfewlaw20.VoteBest', WHERE WHAT IT READS IS OF BULK AT MOST 1048576: true; the input reads as it did. -/
def voteBestUptoRow : OpenClaim := { program := "ytheeigbljjcbpaa", sum := "3fd9d53734f2fd970f49eff69d8976a1143b3ad2acb8898e0d76fc35f0012c9c", func := "curfew/curfewlaw20.VoteBest", spec := "voteBest", unfollowed := true, recurses := true, apart := false, narrowed := true }
def VoteBestUptoSaid : Prop := voteBestUptoRow.holds Try.pinned (OpenSpec.upto voteBestSpec)

/-- 'curfewlaw20.VoteMay', WHERE WHAT IT READS IS OF BULK AT MOST 1048576: true; the input reads as it did. -/
def voteMayUptoRow : OpenClaim := { program := "ytheeigbljjcbpaa", sum := "3fd9d53734f2fd970f49eff69d8976a1143b3ad2acb8898e0d76fc35f0012c9c", func := "curfew/curfewlaw20.VoteMay", spec := "voteMay", unfollowed := true, recurses := true, apart := false, narrowed := true }
def VoteMayUptoSaid : Prop := voteMayUptoRow.holds Try.pinned (OpenSpec.upto voteMaySpec)

end Rows
end Go.Proofs.Ytheeigbljjcbpaa
