/- Structs of ints by value that came in, and that stand as they did. -/
import Derived.Test.YtapfdceopbkcgaaKit
import Derived.WideShapes
import Derived.ChangeSame
import Derived.ChangeShapes
namespace Go.Proofs.Ytapfdceopbkcgaa
open Go.RowKit Go.ChangeShapes Go.WideShapes

theorem list_of2 {α : Type} {l : List α} {a b : α} (h : l.length = 2) (h0 : l[0]? = some a) (h1 : l[1]? = some b) : l = [a, b] := by
  match l, h with
  | [x, y], _ => simp at h0 h1; subst h0 h1; rfl
theorem list_of3 {α : Type} {l : List α} {a b c : α} (h : l.length = 3) (h0 : l[0]? = some a) (h1 : l[1]? = some b) (h2 : l[2]? = some c) : l = [a, b, c] := by
  match l, h with
  | [x, y, z], _ => simp at h0 h1 h2; subst h0 h1 h2; rfl
theorem list_of4 {α : Type} {l : List α} {a b c d : α} (h : l.length = 4) (h0 : l[0]? = some a) (h1 : l[1]? = some b) (h2 : l[2]? = some c) (h3 : l[3]? = some d) : l = [a, b, c, d] := by
  match l, h with
  | [x, y, z, u], _ => simp at h0 h1 h2 h3; subst h0 h1 h2 h3; rfl

section
variable {H : Type} {enc : TypeId × Value → H} {P : Program} {w : World} {base : Nat} {spare : Nat → Bool} {held : Bool}
/-- An int among a struct's fields. -/
theorem str_field {f : Field} {k : IntKind} {fuel i : Nat} {cs : List Value} {xs : List (DataW H × List MemPlace)} (hk : P.underlying f.type = some (.int k)) (hc : P.cellsOf f.type = 1) (ho : f.offset = i) (hx : i < xs.length)
    (h : DataW.trod enc P w base spare held fuel f.type ((cs.drop f.offset).take (P.cellsOf f.type)) = xs[i]?) : ∃ n, cs[i]? = some (.int k n) ∧ xs[i]? = some (.lit (.int k n), []) ∧ (Lit.int k n).wf = true := by
  rw [List.getElem?_eq_getElem hx] at h ⊢
  obtain ⟨n, hn, hx', hw⟩ := DataW.trod_int hk h
  rw [hc, ho] at hn
  refine ⟨n, ?_, by rw [hx'], hw⟩
  have := congrArg (fun l => l[0]?) hn
  simpa [List.getElem?_take, List.getElem?_drop] using this
/-- Four ints. -/
theorem open_str4 {r : Reach} {b0 : Nat} {t : TypeId} {f0 f1 f2 f3 : Field} {k0 k1 k2 k3 : IntKind} {v : Value} {d : DataW H} {ps : List MemPlace} (ht : P.underlying t = some (.struct #[f0, f1, f2, f3])) (hC : P.cellsOf t = 4)
    (u0 : P.underlying f0.type = some (.int k0)) (c0 : P.cellsOf f0.type = 1) (o0 : f0.offset = 0) (u1 : P.underlying f1.type = some (.int k1)) (c1 : P.cellsOf f1.type = 1) (o1 : f1.offset = 1)
    (u2 : P.underlying f2.type = some (.int k2)) (c2 : P.cellsOf f2.type = 1) (o2 : f2.offset = 2) (u3 : P.underlying f3.type = some (.int k3)) (c3 : P.cellsOf f3.type = 1) (o3 : f3.offset = 3)
    (hval : Value.okWide P w r b0 t v) (hd : DataW.Trod enc P w base spare held t v d ps) :
    ∃ x0 x1 x2 x3, v = .agg #[.int k0 x0, .int k1 x1, .int k2 x2, .int k3 x3] ∧ d = .agg [.lit (.int k0 x0), .lit (.int k1 x1), .lit (.int k2 x2), .lit (.int k3 x3)] ∧ ps = [] ∧
      (Lit.int k0 x0).wf = true ∧ (Lit.int k1 x1).wf = true ∧ (Lit.int k2 x2).wf = true ∧ (Lit.int k3 x3).wf = true := by
  obtain ⟨cs, rfl, hsz⟩ := okWide_struct ht hval
  obtain ⟨fuel, hf⟩ := hd
  obtain ⟨xs, n, rfl, hx, hl, hxl, hfs⟩ := DataW.trod_struct ht hf
  have hxl : xs.length = 4 := hxl
  obtain ⟨x0, e0, y0, w0⟩ := str_field u0 c0 o0 (by omega) (hfs 0 f0 rfl)
  obtain ⟨x1, e1, y1, w1⟩ := str_field u1 c1 o1 (by omega) (hfs 1 f1 rfl)
  obtain ⟨x2, e2, y2, w2⟩ := str_field u2 c2 o2 (by omega) (hfs 2 f2 rfl)
  obtain ⟨x3, e3, y3, w3⟩ := str_field u3 c3 o3 (by omega) (hfs 3 f3 rfl)
  have hcs : cs.toList = _ := list_of4 (by rw [hC] at hl; exact hl) e0 e1 e2 e3
  have hxs := list_of4 hxl y0 y1 y2 y3
  subst hxs
  obtain ⟨rfl, rfl⟩ := Prod.mk.inj hx
  exact ⟨x0, x1, x2, x3, by rw [← Array.toArray_toList (xs := cs), hcs], rfl, rfl, w0, w1, w2, w3⟩
theorem shut_str4 {t : TypeId} {f0 f1 f2 f3 : Field} {k0 k1 k2 k3 : IntKind} {x0 x1 x2 x3 : Int} (ht : P.underlying t = some (.struct #[f0, f1, f2, f3])) (hC : P.cellsOf t = 4)
    (u0 : P.underlying f0.type = some (.int k0)) (c0 : P.cellsOf f0.type = 1) (o0 : f0.offset = 0) (u1 : P.underlying f1.type = some (.int k1)) (c1 : P.cellsOf f1.type = 1) (o1 : f1.offset = 1)
    (u2 : P.underlying f2.type = some (.int k2)) (c2 : P.cellsOf f2.type = 1) (o2 : f2.offset = 2) (u3 : P.underlying f3.type = some (.int k3)) (c3 : P.cellsOf f3.type = 1) (o3 : f3.offset = 3)
    (w0 : (Lit.int k0 x0).wf = true) (w1 : (Lit.int k1 x1).wf = true) (w2 : (Lit.int k2 x2).wf = true) (w3 : (Lit.int k3 x3).wf = true) :
    DataW.Trod enc P w base spare held t (.agg #[.int k0 x0, .int k1 x1, .int k2 x2, .int k3 x3]) (.agg [.lit (.int k0 x0), .lit (.int k1 x1), .lit (.int k2 x2), .lit (.int k3 x3)]) [] :=
  ⟨2, by simp [DataW.trod, Value.cells, ht, hC, u0, u1, u2, u3, c0, c1, c2, c3, o0, o1, o2, o3, w0, w1, w2, w3]⟩
end
end Go.Proofs.Ytapfdceopbkcgaa
