/-
  No cell of these rows narrows 'for every input' (looked for: loops, veiled, ifaces, maps, wideKeys, modest, calm, conditions, laid).
  DERIVED. THE GIVEN ROWS OF THIS SEAT. 4 by the template 'for every input the law returns true; each argument reads behind the call as it read before'; 0 by the template 'total and deterministic' (their statements: YtkpgijmpaklfgaaTotals.lean).
  GIVEN WITH THE SEED: the statements are not yours to turn. If you find one false, say at which input.
  Laid BY PROGRAM, IN A SANDBOX (cutbox-rows.mjs): the forced cells as the released guide's own fill.sh prints them over the translation 121d18800d366c2b… (all of the seat's roots in one cut). By AI agents, Wed Nov 11 2026. No macro, syntax, notation, axiom, sorry.
-/
import Derived.Test.YtkpgijmpaklfgaaChecked
import GoSem.Claim
import GoSem.ClaimJoined
import GoSem.ClaimMapViews
import Derived.JoinedTies
import Derived.KernelRfl
namespace Go.Proofs.Ytkpgijmpaklfgaa
/- THE CELL 'sum', in the pinned program and in every row, IS THE sha256 OF THE DUMP (.gsa) THAT YtkpgijmpaklfgaaProg.lean LOADS. Nothing in Lean hashes anything: it is a label: what it is worth is what the hold of that sum in a sandbox is worth. -/
noncomputable def Try.pinned : Pinned := { name := "ytkpgijmpaklfgaa", sum := "121d18800d366c2b959da96712367a26b4291a4729994363259eea60171b3b04", checked := Try.checked }
namespace Rows
def none {H : Type} : Left H := { results := [], args := [] }

/-- 'curfewlaw28.JudgeAll': WHATEVER THE INPUT: true; the input reads as it did. -/
def judgeAllSpec : ChangeSpec := { name := "judgeAll", fn := fun _ => fun
  | [d1, d2, d3] => { results := [.lit (.bool true)], args := [d1, d2, d3] }
  | _ => none }
def judgeAllRow : OpenClaim := { program := "ytkpgijmpaklfgaa", sum := "121d18800d366c2b959da96712367a26b4291a4729994363259eea60171b3b04", func := "curfew/curfewlaw28.JudgeAll", spec := "judgeAll", plainKeys := false, apart := false }
def JudgeAllSaid : Prop := judgeAllRow.holds Try.pinned (OpenSpec.ofChange judgeAllSpec)

/-- ITS FALSE NEIGHBOUR: 'it returns false'. Refute it at one input. -/
def judgeAllWrong : ChangeSpec := { name := "judgeAll", fn := fun _ => fun
  | [d1, d2, d3] => { results := [.lit (.bool false)], args := [d1, d2, d3] }
  | _ => none }
def JudgeAllWrongFalsely : Prop := judgeAllRow.holds Try.pinned (OpenSpec.ofChange judgeAllWrong)

/-- 'curfewlaw28.JudgeAgree': WHATEVER THE INPUT: true; the input reads as it did. -/
def judgeAgreeSpec : ChangeSpec := { name := "judgeAgree", fn := fun _ => fun
  | [d1, d2, d3, d4] => { results := [.lit (.bool true)], args := [d1, d2, d3, d4] }
  | _ => none }
def judgeAgreeRow : OpenClaim := { program := "ytkpgijmpaklfgaa", sum := "121d18800d366c2b959da96712367a26b4291a4729994363259eea60171b3b04", func := "curfew/curfewlaw28.JudgeAgree", spec := "judgeAgree", plainKeys := false, apart := false }
def JudgeAgreeSaid : Prop := judgeAgreeRow.holds Try.pinned (OpenSpec.ofChange judgeAgreeSpec)

/-- ITS FALSE NEIGHBOUR: 'it returns false'. Refute it at one input. -/
def judgeAgreeWrong : ChangeSpec := { name := "judgeAgree", fn := fun _ => fun
  | [d1, d2, d3, d4] => { results := [.lit (.bool false)], args := [d1, d2, d3, d4] }
  | _ => none }
def JudgeAgreeWrongFalsely : Prop := judgeAgreeRow.holds Try.pinned (OpenSpec.ofChange judgeAgreeWrong)

/-- 'curfewlaw28.JudgeCut': WHATEVER THE INPUT: true; the input reads as it did. -/
def judgeCutSpec : ChangeSpec := { name := "judgeCut", fn := fun _ => fun
  | [d1, d2] => { results := [.lit (.bool true)], args := [d1, d2] }
  | _ => none }
def judgeCutRow : OpenClaim := { program := "ytkpgijmpaklfgaa", sum := "121d18800d366c2b959da96712367a26b4291a4729994363259eea60171b3b04", func := "curfew/curfewlaw28.JudgeCut", spec := "judgeCut", plainKeys := false, apart := false }
def JudgeCutSaid : Prop := judgeCutRow.holds Try.pinned (OpenSpec.ofChange judgeCutSpec)

/-- ITS FALSE NEIGHBOUR: 'it returns false'. Refute it at one input. -/
def judgeCutWrong : ChangeSpec := { name := "judgeCut", fn := fun _ => fun
  | [d1, d2] => { results := [.lit (.bool false)], args := [d1, d2] }
  | _ => none }
def JudgeCutWrongFalsely : Prop := judgeCutRow.holds Try.pinned (OpenSpec.ofChange judgeCutWrong)

/-- 'curfewlaw28.JudgeApart': WHATEVER THE INPUT: true; the input reads as it did. -/
def judgeApartSpec : ChangeSpec := { name := "judgeApart", fn := fun _ => fun
  | [d1, d2] => { results := [.lit (.bool true)], args := [d1, d2] }
  | _ => none }
def judgeApartRow : OpenClaim := { program := "ytkpgijmpaklfgaa", sum := "121d18800d366c2b959da96712367a26b4291a4729994363259eea60171b3b04", func := "curfew/curfewlaw28.JudgeApart", spec := "judgeApart", plainKeys := false, apart := false }
def JudgeApartSaid : Prop := judgeApartRow.holds Try.pinned (OpenSpec.ofChange judgeApartSpec)

/-- ITS FALSE NEIGHBOUR: 'it returns false'. Refute it at one input. -/
def judgeApartWrong : ChangeSpec := { name := "judgeApart", fn := fun _ => fun
  | [d1, d2] => { results := [.lit (.bool false)], args := [d1, d2] }
  | _ => none }
def JudgeApartWrongFalsely : Prop := judgeApartRow.holds Try.pinned (OpenSpec.ofChange judgeApartWrong)

/- THE SECOND FORM. 'bulk': how many values and letters a reading holds, each counted each time it is reached (what is shared counts as often as it is met; a slice's spare places count too). A statement '..UptoSaid' is the law's where the arguments, and the package variables that the reading takes, are together of bulk at most 1048576: NARROWER than '..Said'. Prove '..Said' where nothing that the law and all that it calls make is longer than what came in: it says more and counts as full. Else prove '..UptoSaid'. A law counts once. -/
mutual
def uptoBulk {H : Type} : DataW H → Nat
  | .lit (.string bytes) => bytes.length + 1
  | .lit _ => 1
  | .nil => 1
  | .ptr d => uptoBulk d + 1
  | .slice elems spare => uptoBulkAll elems + uptoBulkAll spare + 1
  | .agg parts => uptoBulkAll parts + 1
  | .iface _ d => uptoBulk d + 1
  | .map entries => uptoBulkEntries entries + 1
  | .held _ => 1
def uptoBulkAll {H : Type} : List (DataW H) → Nat
  | [] => 0
  | d :: r => uptoBulk d + uptoBulkAll r
def uptoBulkEntries {H : Type} : List (Lit × DataW H) → Nat
  | [] => 0
  | x :: r => uptoBulkEntry x + uptoBulkEntries r
def uptoBulkEntry {H : Type} : Lit × DataW H → Nat
  | (.string bytes, d) => bytes.length + uptoBulk d + 1
  | (_, d) => uptoBulk d + 1
 end
def uptoSmall : (H : Type) → List (DataW H) → Bool := fun _ ds => decide (uptoBulkAll ds ≤ 1048576)
def OpenSpec.upto (s : _root_.Go.ChangeSpec) : _root_.Go.OpenSpec := { _root_.Go.OpenSpec.ofChange s with cond := some uptoSmall }

/-- 'curfewlaw28.JudgeAll', WHERE WHAT IT READS IS OF BULK AT MOST 1048576: true; the input reads as it did. -/
def judgeAllUptoRow : OpenClaim := { program := "ytkpgijmpaklfgaa", sum := "121d18800d366c2b959da96712367a26b4291a4729994363259eea60171b3b04", func := "curfew/curfewlaw28.JudgeAll", spec := "judgeAll", plainKeys := false, apart := false, narrowed := true }
def JudgeAllUptoSaid : Prop := judgeAllUptoRow.holds Try.pinned (OpenSpec.upto judgeAllSpec)

/-- 'curfewlaw28.JudgeAgree', WHERE WHAT IT READS IS OF BULK AT MOST 1048576: true; the input reads as it did. -/
def judgeAgreeUptoRow : OpenClaim := { program := "ytkpgijmpaklfgaa", sum := "121d18800d366c2b959da96712367a26b4291a4729994363259eea60171b3b04", func := "curfew/curfewlaw28.JudgeAgree", spec := "judgeAgree", plainKeys := false, apart := false, narrowed := true }
def JudgeAgreeUptoSaid : Prop := judgeAgreeUptoRow.holds Try.pinned (OpenSpec.upto judgeAgreeSpec)

/-- 'curfewlaw28.JudgeCut', WHERE WHAT IT READS IS OF BULK AT MOST 1048576: true; the input reads as it did. -/
def judgeCutUptoRow : OpenClaim := { program := "ytkpgijmpaklfgaa", sum := "121d18800d366c2b959da96712367a26b4291a4729994363259eea60171b3b04", func := "curfew/curfewlaw28.JudgeCut", spec := "judgeCut", plainKeys := false, apart := false, narrowed := true }
def JudgeCutUptoSaid : Prop := judgeCutUptoRow.holds Try.pinned (OpenSpec.upto judgeCutSpec)

/-- 'curfewlaw28.JudgeApart', WHERE WHAT IT READS IS OF BULK AT MOST 1048576: true; the input reads as it did. -/
def judgeApartUptoRow : OpenClaim := { program := "ytkpgijmpaklfgaa", sum := "121d18800d366c2b959da96712367a26b4291a4729994363259eea60171b3b04", func := "curfew/curfewlaw28.JudgeApart", spec := "judgeApart", plainKeys := false, apart := false, narrowed := true }
def JudgeApartUptoSaid : Prop := judgeApartUptoRow.holds Try.pinned (OpenSpec.upto judgeApartSpec)

end Rows
end Go.Proofs.Ytkpgijmpaklfgaa
