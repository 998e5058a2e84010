/- A slice of structs of two ints and a slice of entries, which came in. No program is named here. -/
import Derived.Test.YtnhdehbpcgeceaaEnt
namespace Go.Proofs.Ytnhdehbpcgeceaa
open Go.RowKit Go.ChangeShapes Go.WideShapes Go.Deep

/-- What is known of the cell of field j. -/
def FO (w : World) (j : Nat) (u : Value) : Prop := (j < 2 → ∃ x, u = .int .i64 x ∧ (Lit.int .i64 x).wf = true) ∧ (j = 2 → ∃ (A : Option Addr) (n c : Nat) (l : List Ent), u = .slice A n c ∧ Rd w w.heap.size A c 7 n (els l) ∧ ∀ e ∈ l, EntOk e)
/-- What is known of all cells. -/
def AllO (w : World) (z : List Value) : Prop := ∀ (i j : Nat) (u : Value), j < 3 → z[i * 3 + j]? = some u → FO w j u

section
variable {H : Type} {enc : TypeId × Value → H} {P : Program} {w : World} {base : Nat} {spare : Nat → Bool} {held : Bool}
theorem open_ops {t e E : TypeId} {fs es : Array Field} {fuel : Nat} {cs : List Value} {x : DataW H × List MemPlace} (ht : P.underlying t = some (.slice e)) (he : P.underlying e = some (.struct fs)) (hC : P.cellsOf e = 3) (h3 : fs.size = 3)
    (hT : ∀ (j : Nat) (f : Field), fs[j]? = some f → P.cellsOf f.type = 1 ∧ f.offset = j ∧ (j < 2 → P.underlying f.type = some (.int .i64)) ∧ (j = 2 → P.underlying f.type = some (.slice E)))
    (hE : P.underlying E = some (.struct es)) (hEC : P.cellsOf E = 7) (hET : EntT P es)
    (h : DataW.trod enc P w base spare held fuel t cs = some x) : ∃ (A : Option Addr) (n c : Nat) (z : List Value), cs = [.slice A n c] ∧ Rd w w.heap.size A c 3 n z ∧ AllO w z := by
  refine open_flat (F := FO w) ht he hC h3 (by omega) (fun j f hf => ⟨(hT j f hf).1, (hT j f hf).2.1, fun fuel cs x hx => ?_⟩) h
  obtain ⟨_, _, h1, h2⟩ := hT j f hf
  have hj : j < 3 := by have := (Array.getElem?_eq_some_iff.1 hf).1; omega
  by_cases h6 : j = 2
  · obtain ⟨A, n, c, l, hcs, hr, ho⟩ := open_ents (h2 h6) hE hEC hET hx
    exact ⟨_, hcs, fun h' => by omega, fun _ => ⟨A, n, c, l, rfl, hr, ho⟩⟩
  · obtain ⟨n, hn, _, hw⟩ := DataW.trod_int (h1 (by omega)) hx
    exact ⟨_, hn, fun _ => ⟨n, rfl, hw⟩, fun h' => absurd h' h6⟩
end

/-- The cells of the struct at place i, in a later world. -/
theorem Rd.op {w w' : World} {c n : Nat} {A : Option Addr} {z : List Value} (h : Rd w w.heap.size A c 3 n z) (hz : AllO w z) (hb : Below w.heap.size w w') {i : Nat} (hi : i < n) :
    ∃ (b o : Nat) (k t : Int) (X : Option Addr) (m cx : Nat) (l : List Ent), A = some ⟨b, o, none⟩ ∧ w'.cell? ⟨b, o + i * 3, none⟩ = some (.int .i64 k) ∧ w'.cell? ⟨b, o + i * 3 + 1, none⟩ = some (.int .i64 t) ∧ w'.cell? ⟨b, o + i * 3 + 2, none⟩ = some (.slice X m cx) ∧
      Rd w' w'.heap.size X cx 7 m (els l) ∧ (∀ e ∈ l, EntOk e) ∧ -9223372036854775808 ≤ t ∧ t ≤ 9223372036854775807 := by
  obtain ⟨b, o, hA, _, hc⟩ := (h.below hb).flat hi (by omega)
  obtain ⟨u0, hu0, c0⟩ := hc 0 (by omega)
  obtain ⟨u1, hu1, c1⟩ := hc 1 (by omega)
  obtain ⟨u2, hu2, c2⟩ := hc 2 (by omega)
  obtain ⟨k, rfl, _⟩ := (hz i 0 u0 (by omega) hu0).1 (by omega)
  obtain ⟨t, rfl, wt⟩ := (hz i 1 u1 (by omega) hu1).1 (by omega)
  obtain ⟨X, m, cx, l, rfl, hr, ho⟩ := (hz i 2 u2 (by omega) hu2).2 rfl
  have ht := bounds_i64 wt
  exact ⟨b, o, k, t, X, m, cx, l, hA, c0, c1, c2, (hr.past hb).tight, ho, ht.1, ht.2⟩
end Go.Proofs.Ytnhdehbpcgeceaa
