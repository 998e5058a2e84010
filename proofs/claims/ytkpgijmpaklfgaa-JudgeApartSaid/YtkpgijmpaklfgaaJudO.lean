/- A slice of what was told that came in: structs of an int and an entry. No program is named here. -/
import Derived.Test.YtkpgijmpaklfgaaAny
import Derived.Test.YtkpgijmpaklfgaaTold
namespace Go.Proofs.Ytkpgijmpaklfgaa
open Go.RowKit Go.ChangeShapes Go.WideShapes Go.Deep

section
variable {H : Type} {enc : TypeId × Value → H} {P : Program} {w : World} {base : Nat} {spare : Nat → Bool} {held : Bool}
theorem cell_of {cs : List Value} {u v : Value} {o : Nat} (hu : cs[o]? = some u) (hv : (cs.drop o).take 1 = [v]) : u = v := by
  have h3 := congrArg (fun q => q[0]?) hv
  simp only [List.getElem?_take, List.getElem?_drop, Nat.lt_succ_self, if_true, Nat.add_zero, List.getElem?_cons_zero] at h3
  exact Option.some.inj (hu.symm.trans h3)
/-- An entry's cells that came in. -/
theorem ent_cells {t : TypeId} {es : Array Field} {fuel : Nat} {cs : List Value} {x : DataW H × List MemPlace} (ht : P.underlying t = some (.struct es)) (hC : P.cellsOf t = 7) (hT : EntT P es)
    (h : DataW.trod enc P w base spare held fuel t cs = some x) : cs.length = 7 ∧ ∀ (j : Nat) (u : Value), cs[j]? = some u → FE j u := by
  obtain ⟨xs, n, rfl, hx, hl, hxl, hfs⟩ := DataW.trod_struct ht h
  rw [hC] at hl
  refine ⟨hl, fun j u hu => ?_⟩
  have hj := (List.getElem?_eq_some_iff.1 hu).1
  have hjf : j < es.size := by rw [hT.1]; omega
  have hy := hfs j es[j] (Array.getElem?_eq_getElem hjf)
  rw [List.getElem?_eq_getElem (show j < xs.length by omega)] at hy
  obtain ⟨v, hv, hFv⟩ := hT.field (Array.getElem?_eq_getElem hjf) hy
  obtain ⟨h1, h2, _⟩ := hT.2 j es[j] (Array.getElem?_eq_getElem hjf)
  rw [h1, h2] at hv
  rw [cell_of hu hv]
  exact hFv
/-- What is known of the cell j of one that was told. -/
def FT (j : Nat) (u : Value) : Prop := (j = 0 → ∃ x, u = .int .i64 x ∧ (Lit.int .i64 x).wf = true) ∧ (1 ≤ j → FE (j - 1) u)
theorem tolds_of : ∀ (n : Nat) (xs : List Value), xs.length = n * 8 → (∀ (i j : Nat) (u : Value), j < 8 → xs[i * 8 + j]? = some u → FT j u) → ∃ l, xs = tls l ∧ ∀ t ∈ l, EntOk t.2
  | 0, xs, h, _ => ⟨[], List.eq_nil_of_length_eq_zero (by omega), by simp⟩
  | n + 1, xs, h, hF => by
    match xs, h with
    | a :: a0 :: a1 :: a2 :: a3 :: a4 :: a5 :: a6 :: r, h =>
      obtain ⟨l, hl, ho⟩ := tolds_of n r (by simp only [List.length_cons] at h; omega) (fun i j u hj hu => hF (i + 1) j u hj (by
        rw [show (i + 1) * 8 + j = i * 8 + j + 8 by omega]; exact hu))
      obtain ⟨x, rfl, _⟩ := (hF 0 0 a (by omega) rfl).1 rfl
      obtain ⟨e, he, hok⟩ := ent_of7 ((hF 0 1 a0 (by omega) rfl).2 (by omega)) ((hF 0 2 a1 (by omega) rfl).2 (by omega)) ((hF 0 3 a2 (by omega) rfl).2 (by omega)) ((hF 0 4 a3 (by omega) rfl).2 (by omega)) ((hF 0 5 a4 (by omega) rfl).2 (by omega)) ((hF 0 6 a5 (by omega) rfl).2 (by omega)) ((hF 0 7 a6 (by omega) rfl).2 (by omega))
      refine ⟨(x, e) :: l, ?_, ?_⟩
      · show _ = tcs (x, e) ++ tls l
        unfold tcs
        rw [← he, ← hl]; rfl
      · intro t ht
        rcases List.mem_cons.1 ht with rfl | ht
        · exact hok
        · exact ho t ht
    | [], h => simp at h
    | [_], h => simp only [List.length_cons, List.length_nil] at h; omega
    | [_, _], h => simp only [List.length_cons, List.length_nil] at h; omega
    | [_, _, _], h => simp only [List.length_cons, List.length_nil] at h; omega
    | [_, _, _, _], h => simp only [List.length_cons, List.length_nil] at h; omega
    | [_, _, _, _, _], h => simp only [List.length_cons, List.length_nil] at h; omega
    | [_, _, _, _, _, _], h => simp only [List.length_cons, List.length_nil] at h; omega
    | [_, _, _, _, _, _, _], h => simp only [List.length_cons, List.length_nil] at h; omega
theorem open_tolds {t e : TypeId} {f0 f1 : Field} {es : Array Field} {fuel : Nat} {cs : List Value} {x : DataW H × List MemPlace}
    (ht : P.underlying t = some (.slice e)) (he : P.underlying e = some (.struct #[f0, f1])) (hC : P.cellsOf e = 8)
    (h0 : P.underlying f0.type = some (.int .i64) ∧ P.cellsOf f0.type = 1 ∧ f0.offset = 0)
    (hE : P.underlying f1.type = some (.struct es)) (hEC : P.cellsOf f1.type = 7) (hEO : f1.offset = 1) (hET : EntT P es)
    (h : DataW.trod enc P w base spare held fuel t cs = some x) : ∃ (A : Option Addr) (n c : Nat) (l : List PReady.Tl), cs = [.slice A n c] ∧ Rd w w.heap.size A c 8 n (tls l) ∧ ∀ t ∈ l, EntOk t.2 := by
  obtain ⟨A, n, c, xs, e1, e2, e3⟩ := open_any (F := FT) ht hC (by decide) (fun fuel cs x hx j u hu => by
    obtain ⟨xs, n, rfl, _, hl, hxl, hfs⟩ := DataW.trod_struct he hx
    rw [hC] at hl
    have hxl2 : xs.length = 2 := hxl
    have hj : j < 8 := by have := (List.getElem?_eq_some_iff.1 hu).1; omega
    refine ⟨fun hj0 => ?_, fun h1 => ?_⟩
    · subst hj0
      have hy := hfs 0 f0 rfl
      rw [List.getElem?_eq_getElem (show 0 < xs.length by omega)] at hy
      obtain ⟨x, hcs, _, hw⟩ := DataW.trod_int h0.1 hy
      rw [h0.2.1, h0.2.2] at hcs
      exact ⟨x, cell_of hu hcs, hw⟩
    · have hy := hfs 1 f1 rfl
      rw [List.getElem?_eq_getElem (show 1 < xs.length by omega), hEC, hEO] at hy
      refine (ent_cells hE hEC hET hy).2 (j - 1) u ?_
      rw [List.getElem?_take, if_pos (by omega), List.getElem?_drop, show 1 + (j - 1) = j by omega]
      exact hu) h
  obtain ⟨l, rfl, hl⟩ := tolds_of n xs e2.len e3
  exact ⟨A, n, c, l, e1, e2, hl⟩
end
end Go.Proofs.Ytkpgijmpaklfgaa
