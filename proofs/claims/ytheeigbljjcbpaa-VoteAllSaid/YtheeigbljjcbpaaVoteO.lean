/- A slice of votes that came in: structs of two ints, a slice of entries, an int. No program is named here. -/
import Derived.Test.YtheeigbljjcbpaaEnt
namespace Go.Proofs.Ytheeigbljjcbpaa
open Go.RowKit Go.ChangeShapes Go.WideShapes Go.Deep

/-- What is known of the cell of field j. -/
def FVt (w : World) (j : Nat) (u : Value) : Prop := (j ≠ 2 → ∃ x, u = .int .i64 x ∧ (Lit.int .i64 x).wf = true) ∧ (j = 2 → ∃ (A : Option Addr) (n c : Nat) (l : List Ent), u = .slice A n c ∧ Rd w w.heap.size A c 7 n (els l) ∧ ∀ e ∈ l, EntOk e)
/-- What is known of all cells. -/
def AllVt (w : World) (z : List Value) : Prop := ∀ (i j : Nat) (u : Value), j < 4 → z[i * 4 + j]? = some u → FVt w j u

section
variable {H : Type} {enc : TypeId × Value → H} {P : Program} {w : World} {base : Nat} {spare : Nat → Bool} {held : Bool}
theorem open_votes {t e E : TypeId} {fs es : Array Field} {fuel : Nat} {cs : List Value} {x : DataW H × List MemPlace} (ht : P.underlying t = some (.slice e)) (he : P.underlying e = some (.struct fs)) (hC : P.cellsOf e = 4) (h4 : fs.size = 4)
    (hT : ∀ (j : Nat) (f : Field), fs[j]? = some f → P.cellsOf f.type = 1 ∧ f.offset = j ∧ (j ≠ 2 → P.underlying f.type = some (.int .i64)) ∧ (j = 2 → P.underlying f.type = some (.slice E)))
    (hE : P.underlying E = some (.struct es)) (hEC : P.cellsOf E = 7) (hET : EntT P es)
    (h : DataW.trod enc P w base spare held fuel t cs = some x) : ∃ (A : Option Addr) (n c : Nat) (z : List Value), cs = [.slice A n c] ∧ Rd w w.heap.size A c 4 n z ∧ AllVt w z := by
  refine open_flat (F := FVt w) ht he hC h4 (by omega) (fun j f hf => ⟨(hT j f hf).1, (hT j f hf).2.1, fun fuel cs x hx => ?_⟩) h
  obtain ⟨_, _, h1, h2⟩ := hT j f hf
  by_cases h6 : j = 2
  · obtain ⟨A, n, c, l, hcs, hr, ho⟩ := open_ents (h2 h6) hE hEC hET hx
    exact ⟨_, hcs, fun h' => absurd h6 h', fun _ => ⟨A, n, c, l, rfl, hr, ho⟩⟩
  · obtain ⟨n, hn, _, hw⟩ := DataW.trod_int (h1 h6) hx
    exact ⟨_, hn, fun _ => ⟨n, rfl, hw⟩, fun h' => absurd h' h6⟩
end

/-- The cells of the vote at place i, in a later world. -/
theorem Rd.vote {w w' : World} {c n : Nat} {A : Option Addr} {z : List Value} (h : Rd w w.heap.size A c 4 n z) (hz : AllVt w z) (hb : Below w.heap.size w w') {i : Nat} (hi : i < n) :
    ∃ (b o : Nat) (fr last com : Int) (X : Option Addr) (cx : Nat) (l : List Ent), A = some ⟨b, o, none⟩ ∧ w'.rangeAt b (o + i * 4) [.int .i64 fr, .int .i64 last, .slice X l.length cx, .int .i64 com] ∧
      Rd w' w'.heap.size X cx 7 l.length (els l) ∧ (∀ e ∈ l, EntOk e) ∧ (-9223372036854775808 ≤ fr ∧ fr ≤ 9223372036854775807) := by
  obtain ⟨b, o, hA, _, hc⟩ := (h.below hb).flat hi (by omega)
  obtain ⟨u0, hu0, c0⟩ := hc 0 (by omega)
  obtain ⟨u1, hu1, c1⟩ := hc 1 (by omega)
  obtain ⟨u2, hu2, c2⟩ := hc 2 (by omega)
  obtain ⟨u3, hu3, c3⟩ := hc 3 (by omega)
  obtain ⟨fr, rfl, wf⟩ := (hz i 0 u0 (by omega) hu0).1 (by omega)
  obtain ⟨last, rfl, _⟩ := (hz i 1 u1 (by omega) hu1).1 (by omega)
  obtain ⟨X, m, cx, l, rfl, hr, ho⟩ := (hz i 2 u2 (by omega) hu2).2 rfl
  obtain ⟨com, rfl, _⟩ := (hz i 3 u3 (by omega) hu3).1 (by omega)
  obtain rfl := hr.elen
  refine ⟨b, o, fr, last, com, X, cx, l, hA, fun j v hv => ?_, (hr.past hb).tight, ho, bounds_i64 wf⟩
  have hj : j < 4 := (List.getElem?_eq_some_iff.1 hv).1
  rcases j with _ | _ | _ | _ | j
  · have : Value.int .i64 fr = v := by simpa using hv
    rw [← this]; exact c0
  · have : Value.int .i64 last = v := by simpa using hv
    rw [← this]; exact c1
  · have : Value.slice X l.length cx = v := by simpa using hv
    rw [← this]; exact c2
  · have : Value.int .i64 com = v := by simpa using hv
    rw [← this]; exact c3
  · omega
end Go.Proofs.Ytheeigbljjcbpaa
