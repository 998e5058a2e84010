/- A slice of structs of two int64s that came in, with what its numbers are; such a struct by value. -/
import Derived.Test.YtapfdceopbkcgaaPairs
import Derived.Test.YtapfdceopbkcgaaStr
import Derived.Test.YtapfdceopbkcgaaPlainCross
import Derived.OpenShut
namespace Go.Proofs.Ytapfdceopbkcgaa
open Go.RowKit Go.ChangeShapes Go.WideShapes Go.Deep
open PDrift (pr)

section
variable {H : Type} {enc : TypeId × Value → H} {P : Program} {w : World} {base : Nat} {spare : Nat → Bool} {held : Bool}
theorem open_fpairs {t e : TypeId} {f0 f1 : Field} {fuel : Nat} {cs : List Value} {x : DataW H × List MemPlace} (ht : P.underlying t = some (.slice e)) (he : P.underlying e = some (.struct #[f0, f1])) (hC : P.cellsOf e = 2)
    (k0 : P.underlying f0.type = some (.int .i64)) (c0 : P.cellsOf f0.type = 1) (o0 : f0.offset = 0) (k1 : P.underlying f1.type = some (.int .i64)) (c1 : P.cellsOf f1.type = 1) (o1 : f1.offset = 1)
    (h : DataW.trod enc P w base spare held fuel t cs = some x) : ∃ (A : Option Addr) (n c : Nat) (l : List (Int × Int)), cs = [.slice A n c] ∧ Rd w w.heap.size A c 2 n (tcs l) ∧ PCross.Fits l := by
  rcases open_slice ht h with ⟨rfl, _⟩ | ⟨a, len, cap, m, q, D, Pl, hcs, hb, hl, hm, hmm, hx, hi⟩
  · exact ⟨none, 0, 0, [], rfl, Rd.nil _ _ _, fun p hp => by cases hp⟩
  · have hle : len ≤ m := by rw [hmm]; split <;> omega
    have each : ∀ i, i < len → ∃ p : Int × Int, (w.cell? (a.add (i * 2)) = some (.int .i64 p.1) ∧ w.cell? ((a.add (i * 2)).add 1) = some (.int .i64 p.2)) ∧ PCross.Fits [p] := by
      intro i hil
      obtain ⟨cs', hc, ht'⟩ := hi i (by omega)
      rw [hC] at hc
      obtain ⟨_, hcl, hat⟩ := World.cells?_some hc
      obtain ⟨ys, n', _, _, _, hyl, hf⟩ := DataW.trod_struct he ht'
      have hys : ys.length = 2 := hyl
      obtain ⟨y, hy, _, wy⟩ := str_field (xs := ys) k0 c0 o0 (by omega) (by have := hf 0 f0 rfl; exact this)
      obtain ⟨z, hz, _, wz⟩ := str_field (xs := ys) k1 c1 o1 (by omega) (by have := hf 1 f1 rfl; exact this)
      refine ⟨(y, z), ⟨?_, (hat 1 (by omega)).trans hz⟩, fun p hp => ?_⟩
      · have := (hat 0 (by omega)).trans hy
        rwa [show (a.add (i * 2)).add 0 = a.add (i * 2) by unfold Addr.add; simp] at this
      · obtain rfl := List.mem_singleton.1 hp
        have := bounds_i64 wy
        have := bounds_i64 wz
        simp only; omega
    have all : ∀ k, k ≤ len → ∃ l : List (Int × Int), l.length = k ∧ PCross.Fits l ∧ ∀ i, i < k → w.cell? (a.add (i * 2)) = some (.int .i64 (pr l i).1) ∧ w.cell? ((a.add (i * 2)).add 1) = some (.int .i64 (pr l i).2) := by
      intro k
      induction k with
      | zero => exact fun _ => ⟨[], rfl, (fun p hp => by cases hp), fun i hi => absurd hi (by omega)⟩
      | succ k ih =>
        intro hk
        obtain ⟨l, ho, hF, hops⟩ := ih (by omega)
        obtain ⟨p, e1, e2⟩ := each k (by omega)
        refine ⟨l ++ [p], by simp [ho], hF.app e2, fun i hik => ?_⟩
        by_cases e : i = k
        · subst e
          have : pr (l ++ [p]) i = p := by rw [← ho]; simp [pr, List.getD]
          rw [this]; exact e1
        · have : pr (l ++ [p]) i = pr l i := by simp [pr, List.getD, List.getElem?_append_left (show i < l.length by omega)]
          rw [this]; exact hops i (by omega)
    obtain ⟨l, ho, hF, hops⟩ := all len (Nat.le_refl _)
    refine ⟨some a, len, cap, l, hcs, ⟨by rw [tcs_len, ho], hl, hm, (fun hh => by cases hh), fun hp => ?_⟩, hF⟩
    obtain ⟨b, o, spot⟩ := a
    have h0 := (hops 0 (by omega)).1
    have hs : spot = none := by simpa [Addr.add] using World.cell?_spot h0
    subst hs
    refine ⟨b, o, rfl, World.block_lt_of_cell? w ⟨b, o, none⟩ (by simpa [Addr.add] using h0), fun j v hv => ?_⟩
    have hj : j < len * 2 := by have := (List.getElem?_eq_some_iff.1 hv).1; rw [tcs_len, ho] at this; exact this
    obtain ⟨g0, g1⟩ := tcs_at l (j / 2) (by omega)
    obtain ⟨h0, h1⟩ := hops (j / 2) (by omega)
    rw [add_zero_spot] at h0 h1
    rw [add_zero_spot] at h1
    rcases (by omega : j = j / 2 * 2 ∨ j = j / 2 * 2 + 1) with e | e
    · rw [e] at hv ⊢; rw [g0] at hv; rw [h0]; exact hv
    · rw [e] at hv ⊢; rw [g1] at hv; rw [← Nat.add_assoc, h1]; exact hv
/-- Two ints by value. -/
theorem open_str2 {r : Reach} {b0 : Nat} {t : TypeId} {f0 f1 : Field} {k0 k1 : IntKind} {v : Value} {d : DataW H} {ps : List MemPlace} (ht : P.underlying t = some (.struct #[f0, f1])) (hC : P.cellsOf t = 2)
    (u0 : P.underlying f0.type = some (.int k0)) (c0 : P.cellsOf f0.type = 1) (o0 : f0.offset = 0) (u1 : P.underlying f1.type = some (.int k1)) (c1 : P.cellsOf f1.type = 1) (o1 : f1.offset = 1)
    (hval : Value.okWide P w r b0 t v) (hd : DataW.Trod enc P w base spare held t v d ps) :
    ∃ x0 x1, v = .agg #[.int k0 x0, .int k1 x1] ∧ d = .agg [.lit (.int k0 x0), .lit (.int k1 x1)] ∧ ps = [] ∧ (Lit.int k0 x0).wf = true ∧ (Lit.int k1 x1).wf = true := by
  obtain ⟨cs, rfl, hsz⟩ := okWide_struct ht hval
  obtain ⟨fuel, hf⟩ := hd
  obtain ⟨xs, n, rfl, hx, hl, hxl, hfs⟩ := DataW.trod_struct ht hf
  have hxl : xs.length = 2 := hxl
  obtain ⟨x0, e0, y0, w0⟩ := str_field u0 c0 o0 (by omega) (hfs 0 f0 rfl)
  obtain ⟨x1, e1, y1, w1⟩ := str_field u1 c1 o1 (by omega) (hfs 1 f1 rfl)
  have hcs : cs.toList = _ := list_of2 (by rw [hC] at hl; exact hl) e0 e1
  have hxs := list_of2 hxl y0 y1
  subst hxs
  obtain ⟨rfl, rfl⟩ := Prod.mk.inj hx
  exact ⟨x0, x1, by rw [← Array.toArray_toList (xs := cs), hcs], rfl, rfl, w0, w1⟩
theorem shut_str2 {t : TypeId} {f0 f1 : Field} {k0 k1 : IntKind} {x0 x1 : Int} (ht : P.underlying t = some (.struct #[f0, f1])) (hC : P.cellsOf t = 2)
    (u0 : P.underlying f0.type = some (.int k0)) (c0 : P.cellsOf f0.type = 1) (o0 : f0.offset = 0) (u1 : P.underlying f1.type = some (.int k1)) (c1 : P.cellsOf f1.type = 1) (o1 : f1.offset = 1)
    (w0 : (Lit.int k0 x0).wf = true) (w1 : (Lit.int k1 x1).wf = true) :
    DataW.Trod enc P w base spare held t (.agg #[.int k0 x0, .int k1 x1]) (.agg [.lit (.int k0 x0), .lit (.int k1 x1)]) [] :=
  ⟨2, by simp [DataW.trod, Value.cells, ht, hC, u0, u1, c0, c1, o0, o1, w0, w1]⟩
end
end Go.Proofs.Ytapfdceopbkcgaa
