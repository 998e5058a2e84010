/- My words for slices, more. -/
import Derived.Test.YtkpgijmpaklfgaaKit
namespace Go.Proofs.Ytkpgijmpaklfgaa
open Go.RowKit

/-- A cut whose bounds are reckoned: each bound's number is told apart from its spelling. -/
theorem wpList_cutI {P : Program} {w : World} {ops : Array Oper} {rest : List Oper} {o : Oper} {a : Act} {Q : Exit → Act → World → Prop} (hgd : o.guard = none) (t : TypeId) (x : Operand) (lo hig : Option Operand) (ho : o.op = .slice t x lo hig none)
    (e : TypeId) (z : Option Value) (k bytes : Nat) (ht : P.underlying t = some (.slice e)) (hi : (P.info? e).map (fun i => (i.zero, i.size, i.bytes)) = some (z, k, bytes))
    (B : Nat) (A : Option Addr) (c n : Nat) (xs : List Value) (hx : a.eval x = .slice A n c) (hr : Rd w B A c k n xs)
    (l m : Nat) (L M : Int) (hlo : lo.map a.eval = none ∧ l = 0 ∨ lo.map a.eval = some (.int .i64 L) ∧ L = l) (hhi : hig.map a.eval = none ∧ m = n ∨ hig.map a.eval = some (.int .i64 M) ∧ M = m) (h1 : l ≤ m) (h2 : m ≤ n)
    (h : ∀ A' c', Rd w B A' c' k (m - l) ((xs.drop (l * k)).take ((m - l) * k)) → wpList P ops Q rest (a.put o.dst (.slice A' (m - l) c')) w) : wpList P ops Q (o :: rest) a w :=
  wpList_cut hgd t x lo hig ho e z k bytes ht hi B A c n xs hx hr l m (hlo.imp id fun ⟨h1, h2⟩ => by rw [h1, h2]) (hhi.imp id fun ⟨h1, h2⟩ => by rw [h1, h2]) h1 h2 h

end Go.Proofs.Ytkpgijmpaklfgaa
