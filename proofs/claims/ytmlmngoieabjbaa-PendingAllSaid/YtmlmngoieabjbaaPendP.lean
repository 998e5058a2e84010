/- A slice of operations that came in: structs of three ints, a string and a slice of ints. No program is named here. -/
import Derived.Test.YtmlmngoieabjbaaAny
import Derived.Test.YtmlmngoieabjbaaInt
import Derived.Test.YtmlmngoieabjbaaEnt
namespace Go.Proofs.Ytmlmngoieabjbaa
open Go.RowKit Go.ChangeShapes Go.WideShapes Go.Deep

theorem is_of : ∀ (xs : List Value), (∀ u ∈ xs, ∃ x, u = .int .i64 x ∧ (Lit.int .i64 x).wf = true) → ∃ l, xs = is l ∧ ∀ x ∈ l, -9223372036854775808 ≤ x ∧ x ≤ 9223372036854775807
  | [], _ => ⟨[], rfl, fun x hx => by cases hx⟩
  | u :: xs, h => by
    obtain ⟨l, rfl, hl⟩ := is_of xs fun v hv => h v (List.mem_cons_of_mem _ hv)
    obtain ⟨x, rfl, hw⟩ := h u (List.mem_cons_self ..)
    refine ⟨x :: l, rfl, fun y hy => ?_⟩
    rcases List.mem_cons.1 hy with rfl | hy
    · exact bounds_i64 hw
    · exact hl y hy

/-- What is known of the cell of field j. -/
def FP (w : World) (j : Nat) (u : Value) : Prop := (j < 3 → ∃ x, u = .int .i64 x ∧ (Lit.int .i64 x).wf = true) ∧ (j = 3 → ∃ s : ByteArray, u = .string s ∧ s.size ≤ maxLen) ∧
  (j = 4 → ∃ (A : Option Addr) (n c : Nat) (l : List Int), u = .slice A n c ∧ Rd w w.heap.size A c 1 n (is l) ∧ ∀ x ∈ l, -9223372036854775808 ≤ x ∧ x ≤ 9223372036854775807)
/-- What is known of all cells. -/
def AllP (w : World) (z : List Value) : Prop := ∀ (i j : Nat) (u : Value), j < 5 → z[i * 5 + j]? = some u → FP w j u

section
variable {H : Type} {enc : TypeId × Value → H} {P : Program} {w : World} {base : Nat} {spare : Nat → Bool} {held : Bool}
theorem open_ints {t e : TypeId} {fuel : Nat} {cs : List Value} {x : DataW H × List MemPlace} (ht : P.underlying t = some (.slice e)) (he : P.underlying e = some (.int .i64)) (hC : P.cellsOf e = 1)
    (h : DataW.trod enc P w base spare held fuel t cs = some x) : ∃ (A : Option Addr) (n c : Nat) (l : List Int), cs = [.slice A n c] ∧ Rd w w.heap.size A c 1 n (is l) ∧ ∀ x ∈ l, -9223372036854775808 ≤ x ∧ x ≤ 9223372036854775807 := by
  obtain ⟨A, n, c, xs, e1, e2, e3⟩ := open_any (m := 1) (F := fun _ u => ∃ x, u = .int .i64 x ∧ (Lit.int .i64 x).wf = true) ht hC (by decide) (fun fuel cs x hx j u hu => by
    obtain ⟨n, rfl, _, hw⟩ := DataW.trod_int he hx
    have hj : j = 0 := by have := (List.getElem?_eq_some_iff.1 hu).1; simp at this; omega
    subst hj
    simp at hu
    exact ⟨n, hu.symm, hw⟩) h
  obtain ⟨l, rfl, hl⟩ := is_of xs fun u hu => by
    obtain ⟨i, hi, rfl⟩ := List.getElem_of_mem hu
    exact e3 i 0 _ (by decide) (by rw [Nat.mul_one, Nat.add_zero]; exact List.getElem?_eq_getElem hi)
  exact ⟨A, n, c, l, e1, e2, hl⟩
theorem open_pops {t e I1 : TypeId} {fs : Array Field} {fuel : Nat} {cs : List Value} {x : DataW H × List MemPlace} (ht : P.underlying t = some (.slice e)) (he : P.underlying e = some (.struct fs)) (hC : P.cellsOf e = 5) (h5 : fs.size = 5)
    (hT : ∀ (j : Nat) (f : Field), fs[j]? = some f → P.cellsOf f.type = 1 ∧ f.offset = j ∧ (j < 3 → P.underlying f.type = some (.int .i64)) ∧ (j = 3 → P.underlying f.type = some .string) ∧ (j = 4 → P.underlying f.type = some (.slice I1)))
    (hI : P.underlying I1 = some (.int .i64)) (hIC : P.cellsOf I1 = 1)
    (h : DataW.trod enc P w base spare held fuel t cs = some x) : ∃ (A : Option Addr) (n c : Nat) (z : List Value), cs = [.slice A n c] ∧ Rd w w.heap.size A c 5 n z ∧ AllP w z := by
  refine open_flat (F := FP w) ht he hC h5 (by omega) (fun j f hf => ⟨(hT j f hf).1, (hT j f hf).2.1, fun fuel cs x hx => ?_⟩) h
  obtain ⟨_, _, h1, h2, h3⟩ := hT j f hf
  by_cases h6 : j = 4
  · obtain ⟨A, n, c, l, hcs, hr, hb⟩ := open_ints (h3 h6) hI hIC hx
    exact ⟨_, hcs, fun h' => by omega, fun h' => by omega, fun _ => ⟨A, n, c, l, rfl, hr, hb⟩⟩
  · by_cases h7 : j = 3
    · obtain ⟨s, hs, _, hb⟩ := DataW.trod_string (h2 h7) hx
      exact ⟨_, hs, fun h' => by omega, fun _ => ⟨s, rfl, hb⟩, fun h' => absurd h' h6⟩
    · have hj : j < 3 := by have := (Array.getElem?_eq_some_iff.1 hf).1; omega
      obtain ⟨n, hn, _, hw⟩ := DataW.trod_int (h1 hj) hx
      exact ⟨_, hn, fun _ => ⟨n, rfl, hw⟩, fun h' => absurd h' h7, fun h' => absurd h' h6⟩
end

/-- The cells of the operation at place i, in a later world. -/
theorem Rd.pop {w w' : World} {c n : Nat} {A : Option Addr} {z : List Value} (h : Rd w w.heap.size A c 5 n z) (hz : AllP w z) (hb : Below w.heap.size w w') {i : Nat} (hi : i < n) :
    ∃ (b o : Nat) (kd ord lev : Int) (d : ByteArray) (X : Option Addr) (nx cx : Nat) (l : List Int), A = some ⟨b, o, none⟩ ∧ d.size ≤ maxLen ∧ Rd w' w'.heap.size X cx 1 nx (is l) ∧ (∀ x ∈ l, -9223372036854775808 ≤ x ∧ x ≤ 9223372036854775807) ∧
      w'.cell? ⟨b, o + i * 5, none⟩ = some (.int .i64 kd) ∧ w'.cell? ⟨b, o + i * 5 + 1, none⟩ = some (.int .i64 ord) ∧ w'.cell? ⟨b, o + i * 5 + 2, none⟩ = some (.int .i64 lev) ∧ w'.cell? ⟨b, o + i * 5 + 3, none⟩ = some (.string d) ∧ w'.cell? ⟨b, o + i * 5 + 4, none⟩ = some (.slice X nx cx) := by
  obtain ⟨b, o, hA, _, hc⟩ := (h.below hb).flat hi (by omega)
  obtain ⟨u0, hu0, c0⟩ := hc 0 (by omega)
  obtain ⟨u1, hu1, c1⟩ := hc 1 (by omega)
  obtain ⟨u2, hu2, c2⟩ := hc 2 (by omega)
  obtain ⟨u3, hu3, c3⟩ := hc 3 (by omega)
  obtain ⟨u4, hu4, c4⟩ := hc 4 (by omega)
  obtain ⟨kd, rfl, _⟩ := (hz i 0 u0 (by omega) hu0).1 (by omega)
  obtain ⟨ord, rfl, _⟩ := (hz i 1 u1 (by omega) hu1).1 (by omega)
  obtain ⟨lev, rfl, _⟩ := (hz i 2 u2 (by omega) hu2).1 (by omega)
  obtain ⟨d, rfl, hd⟩ := (hz i 3 u3 (by omega) hu3).2.1 rfl
  obtain ⟨X, nx, cx, l, rfl, hr, hl⟩ := (hz i 4 u4 (by omega) hu4).2.2 rfl
  exact ⟨b, o, kd, ord, lev, d, X, nx, cx, l, hA, hd, (hr.past hb).tight, hl, c0, c1, c2, c3, c4⟩
end Go.Proofs.Ytmlmngoieabjbaa
