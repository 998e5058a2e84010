/- For the proof texts (pack.py prunes the pieces: these stand apart): a slice of entries that came in. -/
import Derived.Test.YtfolifhgmdglaaaGreatDoorSeg2
import Derived.Deep.Slices
import Derived.Deep.Fields
import Derived.ChangeSame
import Derived.ChangeOld
namespace Go.Proofs.YtfolifhgmdglaaaGreatDoor.PX
open Go.RowKit Go.ChangeShapes Go.WideShapes Go.ChangeAt Go.Deep PEnt
/-- What is known of an entry that came in. -/
structure EntOk (e : Ent) : Prop where
  fit : PEnt.Fit e
  sz : e.data.size ≤ maxLen
/-- What is known of the cell of field j. -/
def FE (j : Nat) (u : Value) : Prop := (j < 6 → ∃ x, u = .int .i64 x ∧ (Lit.int .i64 x).wf = true) ∧ (j = 6 → ∃ s : ByteArray, u = .string s ∧ s.size ≤ maxLen)
theorem ent_of7 {a0 a1 a2 a3 a4 a5 a6 : Value} (h0 : FE 0 a0) (h1 : FE 1 a1) (h2 : FE 2 a2) (h3 : FE 3 a3) (h4 : FE 4 a4) (h5 : FE 5 a5) (h6 : FE 6 a6) : ∃ e, [a0, a1, a2, a3, a4, a5, a6] = ecs e ∧ EntOk e := by
  obtain ⟨x0, rfl, w0⟩ := h0.1 (by omega)
  obtain ⟨x1, rfl, w1⟩ := h1.1 (by omega)
  obtain ⟨x2, rfl, w2⟩ := h2.1 (by omega)
  obtain ⟨x3, rfl, w3⟩ := h3.1 (by omega)
  obtain ⟨x4, rfl, w4⟩ := h4.1 (by omega)
  obtain ⟨x5, rfl, w5⟩ := h5.1 (by omega)
  obtain ⟨s, rfl, hs⟩ := h6.2 rfl
  exact ⟨⟨x0, x1, x2, x3, x4, x5, s⟩, rfl, ⟨bounds_i64 w0, bounds_i64 w1, bounds_i64 w2, bounds_i64 w3, bounds_i64 w4, bounds_i64 w5⟩, hs⟩
theorem ents_of : ∀ (n : Nat) (xs : List Value), xs.length = n * 7 → (∀ (i j : Nat) (u : Value), j < 7 → xs[i * 7 + j]? = some u → FE j u) → ∃ l, xs = els l ∧ ∀ e ∈ l, EntOk e
  | 0, xs, h, _ => ⟨[], List.eq_nil_of_length_eq_zero (by omega), by simp⟩
  | n + 1, xs, h, hF => by
    match xs, h with
    | a0 :: a1 :: a2 :: a3 :: a4 :: a5 :: a6 :: r, h =>
      obtain ⟨l, hl, ho⟩ := ents_of n r (by simp only [List.length_cons] at h; omega) (fun i j u hj hu => hF (i + 1) j u hj (by
        rw [show (i + 1) * 7 + j = i * 7 + j + 7 by omega]; exact hu))
      obtain ⟨e, he, hok⟩ := ent_of7 (hF 0 0 a0 (by omega) rfl) (hF 0 1 a1 (by omega) rfl) (hF 0 2 a2 (by omega) rfl) (hF 0 3 a3 (by omega) rfl) (hF 0 4 a4 (by omega) rfl) (hF 0 5 a5 (by omega) rfl) (hF 0 6 a6 (by omega) rfl)
      refine ⟨e :: l, ?_, ?_⟩
      · show _ = ecs e ++ els l
        rw [← he, ← hl]; rfl
      · intro x hx
        rcases List.mem_cons.1 hx with rfl | hx
        · exact hok
        · exact ho x hx
    | [], h => simp at h
    | [_], h => simp only [List.length_cons, List.length_nil] at h; omega
    | [_, _], h => simp only [List.length_cons, List.length_nil] at h; omega
    | [_, _, _], h => simp only [List.length_cons, List.length_nil] at h; omega
    | [_, _, _, _], h => simp only [List.length_cons, List.length_nil] at h; omega
    | [_, _, _, _, _], h => simp only [List.length_cons, List.length_nil] at h; omega
    | [_, _, _, _, _, _], h => simp only [List.length_cons, List.length_nil] at h; omega
section
variable {H : Type} {enc : TypeId × Value → H} {P : Program} {w : World} {base : Nat} {spare : Nat → Bool} {held : Bool}
/-- F j u: what is known of the cell of field j. -/
theorem open_flat {t e : TypeId} {fs : Array Field} {m : Nat} {fuel : Nat} {cs : List Value} {x : DataW H × List MemPlace} (F : Nat → Value → Prop)
    (ht : P.underlying t = some (.slice e)) (he : P.underlying e = some (.struct fs)) (hC : P.cellsOf e = m) (hm : fs.size = m) (hm0 : 0 < m)
    (hF : ∀ (j : Nat) (f : Field), fs[j]? = some f → P.cellsOf f.type = 1 ∧ f.offset = j ∧ ∀ (fuel : Nat) (cs : List Value) (x : DataW H × List MemPlace), DataW.trod enc P w base spare held fuel f.type cs = some x → ∃ u, cs = [u] ∧ F j u)
    (h : DataW.trod enc P w base spare held fuel t cs = some x) :
    ∃ (A : Option Addr) (n c : Nat) (xs : List Value), cs = [.slice A n c] ∧ Rd w w.heap.size A c m n xs ∧ ∀ (i j : Nat) (u : Value), j < m → xs[i * m + j]? = some u → F j u := by
  rcases open_slice ht h with ⟨rfl, _⟩ | ⟨a, len, cap, k, q, D, Pl, hcs, hb, hl, hc, hk, hx, hi⟩
  · exact ⟨none, 0, 0, [], rfl, Rd.nil _ _ _, fun i j u _ hu => by simp at hu⟩
  · have hle : len ≤ k := by rw [hk]; split <;> omega
    have each : ∀ i j, i < len → j < m → ∃ u, w.cell? ((a.add (i * m)).add j) = some u ∧ F j u := by
      intro i j hil hj
      obtain ⟨cs', hc', ht'⟩ := hi i (by omega)
      rw [hC] at hc'
      obtain ⟨_, hcl, hat⟩ := World.cells?_some hc'
      obtain ⟨ys, n', _, _, _, hyl, hf⟩ := DataW.trod_struct he ht'
      have hj' : j < fs.size := by omega
      obtain ⟨h1, h2, h3⟩ := hF j fs[j] (Array.getElem?_eq_getElem hj')
      have hy := hf j fs[j] (Array.getElem?_eq_getElem hj')
      rw [List.getElem?_eq_getElem (show j < ys.length by omega)] at hy
      obtain ⟨u, hu, hFu⟩ := h3 _ _ _ hy
      rw [h1, h2] at hu
      refine ⟨u, (hat j hj).trans ?_, hFu⟩
      have := congrArg (fun l => l[0]?) hu
      simpa [List.getElem?_take, List.getElem?_drop] using this
    by_cases hp : 0 < len
    · obtain ⟨u0, e0, _⟩ := each 0 0 hp hm0
      obtain ⟨b, o, spot⟩ := a
      have hs : spot = none := by simpa [Addr.add] using World.cell?_spot e0
      subst hs
      have cel : ∀ i j, i < len → j < m → ∃ u, w.cell? ⟨b, o + (i * m + j), none⟩ = some u ∧ F j u := by
        intro i j hil hj
        obtain ⟨u, hu, hFu⟩ := each i j hil hj
        rw [add_zero_spot, add_zero_spot, Nat.add_assoc] at hu
        exact ⟨u, hu, hFu⟩
      refine ⟨some ⟨b, o, none⟩, len, cap, (List.range (len * m)).map (fun q => (w.cell? ⟨b, o + q, none⟩).getD undef), hcs, ⟨by simp, hl, hc, (fun hh => by cases hh), fun _ => ⟨b, o, rfl, ?_, fun j u hu => ?_⟩⟩, fun i j u hj hu => ?_⟩
      · rw [add_zero_spot, add_zero_spot] at e0
        exact World.block_lt_of_cell? w _ e0
      · rw [List.getElem?_map] at hu
        by_cases hj : j < len * m
        · rw [List.getElem?_range hj] at hu
          have d1 : j / m < len := Nat.div_lt_of_lt_mul (by rw [Nat.mul_comm]; exact hj)
          have d2 : j % m < m := Nat.mod_lt _ hm0
          obtain ⟨v, hv, _⟩ := cel (j / m) (j % m) d1 d2
          rw [show j / m * m + j % m = j by rw [Nat.mul_comm]; exact Nat.div_add_mod j m] at hv
          simp [hv] at hu
          rw [hv, hu]
        · rw [List.getElem?_eq_none (by simpa using hj)] at hu
          cases hu
      · rw [List.getElem?_map] at hu
        by_cases hq : i * m + j < len * m
        · rw [List.getElem?_range hq] at hu
          have d1 : i < len := by
            rcases Nat.lt_or_ge i len with h | h
            · exact h
            · have := Nat.mul_le_mul_right m h; omega
          obtain ⟨v, hv, hFv⟩ := cel i j d1 hj
          simp [hv] at hu
          rw [← hu]; exact hFv
        · rw [List.getElem?_eq_none (by simpa using hq)] at hu
          cases hu
    · have : len = 0 := by omega
      subst this
      exact ⟨some a, 0, cap, [], hcs, ⟨by simp, hl, hc, (fun hh => by cases hh), fun h => by omega⟩, fun i j u _ hu => by simp at hu⟩
/-- How an entry's fields lie. -/
def EntT (P : Program) (fs : Array Field) : Prop := fs.size = 7 ∧ ∀ (j : Nat) (f : Field), fs[j]? = some f → P.cellsOf f.type = 1 ∧ f.offset = j ∧ (j < 6 → P.underlying f.type = some (.int .i64)) ∧ (j = 6 → P.underlying f.type = some .string)
theorem EntT.field {fs : Array Field} (hT : EntT P fs) {j : Nat} {f : Field} (hj : fs[j]? = some f) {fuel : Nat} {cs : List Value} {x : DataW H × List MemPlace} (h : DataW.trod enc P w base spare held fuel f.type cs = some x) : ∃ u, cs = [u] ∧ FE j u := by
  obtain ⟨_, _, h2, h3⟩ := hT.2 j f hj
  have hj7 : j < 7 := by have := (Array.getElem?_eq_some_iff.1 hj).1; rw [hT.1] at this; exact this
  by_cases h6 : j = 6
  · obtain ⟨s, hs, _, hm⟩ := DataW.trod_string (h3 h6) h
    exact ⟨_, hs, fun h' => by omega, fun _ => ⟨s, rfl, hm⟩⟩
  · obtain ⟨n, hn, _, hw⟩ := DataW.trod_int (h2 (by omega)) h
    exact ⟨_, hn, fun _ => ⟨n, rfl, hw⟩, fun h' => absurd h' h6⟩
/-- A slice of entries that came in. -/
theorem open_ents {t e : TypeId} {fs : Array Field} {fuel : Nat} {cs : List Value} {x : DataW H × List MemPlace} (ht : P.underlying t = some (.slice e)) (he : P.underlying e = some (.struct fs)) (hC : P.cellsOf e = 7) (hT : EntT P fs)
    (h : DataW.trod enc P w base spare held fuel t cs = some x) : ∃ (A : Option Addr) (n c : Nat) (l : List Ent), cs = [.slice A n c] ∧ Rd w w.heap.size A c 7 n (els l) ∧ ∀ e ∈ l, EntOk e := by
  obtain ⟨A, n, c, xs, e1, e2, e3⟩ := open_flat (F := FE) ht he hC hT.1 (by omega) (fun j f hf => ⟨(hT.2 j f hf).1, (hT.2 j f hf).2.1, fun fuel cs x hx => hT.field hf hx⟩) h
  obtain ⟨l, rfl, hl⟩ := ents_of n xs e2.len e3
  exact ⟨A, n, c, l, e1, e2, hl⟩
end
end Go.Proofs.YtfolifhgmdglaaaGreatDoor.PX

