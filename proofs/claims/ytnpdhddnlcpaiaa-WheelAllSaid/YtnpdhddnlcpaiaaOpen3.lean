/- A slice of structs of three int64s that came in, as cells. -/
import Derived.Test.YtnpdhddnlcpaiaaLaw7P
import Derived.Deep.Slices
import Derived.Deep.Fields
import Derived.ChangeSame
namespace Go.Proofs.Ytnpdhddnlcpaiaa
open Go.RowKit Go.ChangeShapes Go.WideShapes Go.Deep

theorem ocs_get : ∀ (l : List (Int × Int × Int)) (i : Nat), i < l.length → (ocs l)[i * 3]? = some (.int .i64 (l.getD i (0, 0, 0)).1) ∧ (ocs l)[i * 3 + 1]? = some (.int .i64 (l.getD i (0, 0, 0)).2.1) ∧ (ocs l)[i * 3 + 2]? = some (.int .i64 (l.getD i (0, 0, 0)).2.2)
  | p :: l, 0, _ => by simp [ocs, oc]
  | p :: l, i + 1, h => by
    obtain ⟨h1, h2, h3⟩ := ocs_get l i (by simpa using h)
    refine ⟨?_, ?_, ?_⟩
    · rw [show (i + 1) * 3 = i * 3 + 1 + 1 + 1 by omega]; simpa [ocs, oc] using h1
    · rw [show (i + 1) * 3 + 1 = i * 3 + 1 + 1 + 1 + 1 by omega]; simpa [ocs, oc] using h2
    · rw [show (i + 1) * 3 + 2 = i * 3 + 2 + 1 + 1 + 1 by omega]; simpa [ocs, oc] using h3

section
variable {H : Type} {enc : TypeId × Value → H} {P : Program} {w : World} {base : Nat} {spare : Nat → Bool} {held : Bool}
/-- One field of such a struct. -/
theorem one_field {f : Field} {fuel i : Nat} {cs : List Value} {xs : List (DataW H × List MemPlace)} (hk : P.underlying f.type = some (.int .i64)) (hc : P.cellsOf f.type = 1) (ho : f.offset = i) (hx : i < xs.length)
    (h : DataW.trod enc P w base spare held fuel f.type ((cs.drop f.offset).take (P.cellsOf f.type)) = xs[i]?) : ∃ n, cs[i]? = some (.int .i64 n) := by
  rw [List.getElem?_eq_getElem hx] at h
  obtain ⟨n, hn, _⟩ := DataW.trod_int hk h
  rw [hc, ho] at hn
  refine ⟨n, ?_⟩
  have := congrArg (fun l => l[0]?) hn
  simpa [List.getElem?_take, List.getElem?_drop] using this

theorem open_trips {t e : TypeId} {f0 f1 f2 : Field} {fuel : Nat} {cs : List Value} {x : DataW H × List MemPlace} (ht : P.underlying t = some (.slice e)) (he : P.underlying e = some (.struct #[f0, f1, f2])) (hC : P.cellsOf e = 3)
    (k0 : P.underlying f0.type = some (.int .i64)) (c0 : P.cellsOf f0.type = 1) (o0 : f0.offset = 0) (k1 : P.underlying f1.type = some (.int .i64)) (c1 : P.cellsOf f1.type = 1) (o1 : f1.offset = 1) (k2 : P.underlying f2.type = some (.int .i64)) (c2 : P.cellsOf f2.type = 1) (o2 : f2.offset = 2)
    (h : DataW.trod enc P w base spare held fuel t cs = some x) : ∃ (A : Option Addr) (n c : Nat) (ops : List (Int × Int × Int)), cs = [.slice A n c] ∧ Rd w w.heap.size A c 3 n (ocs ops) := by
  rcases open_slice ht h with ⟨rfl, _⟩ | ⟨a, len, cap, m, q, D, Pl, hcs, hb, hl, hm, hmm, hx, hi⟩
  · exact ⟨none, 0, 0, [], rfl, Rd.nil _ _ _⟩
  · have hle : len ≤ m := by rw [hmm]; split <;> omega
    have each : ∀ i, i < len → ∃ y z u, w.cell? (a.add (i * 3)) = some (.int .i64 y) ∧ w.cell? ((a.add (i * 3)).add 1) = some (.int .i64 z) ∧ w.cell? ((a.add (i * 3)).add 2) = some (.int .i64 u) := by
      intro i hil
      obtain ⟨cs', hc, ht'⟩ := hi i (by omega)
      rw [hC] at hc
      obtain ⟨_, hcl, hat⟩ := World.cells?_some hc
      obtain ⟨ys, n', _, _, _, hyl, hf⟩ := DataW.trod_struct he ht'
      have hys : ys.length = 3 := hyl
      obtain ⟨y, hy⟩ := one_field (xs := ys) k0 c0 o0 (by omega) (by have := hf 0 f0 rfl; exact this)
      obtain ⟨z, hz⟩ := one_field (xs := ys) k1 c1 o1 (by omega) (by have := hf 1 f1 rfl; exact this)
      obtain ⟨u, hu⟩ := one_field (xs := ys) k2 c2 o2 (by omega) (by have := hf 2 f2 rfl; exact this)
      refine ⟨y, z, u, ?_, (hat 1 (by omega)).trans hz, (hat 2 (by omega)).trans hu⟩
      have := (hat 0 (by omega)).trans hy
      rwa [show (a.add (i * 3)).add 0 = a.add (i * 3) by unfold Addr.add; simp] at this
    have all : ∀ k, k ≤ len → ∃ ops : List (Int × Int × Int), ops.length = k ∧ ∀ i, i < k → w.cell? (a.add (i * 3)) = some (.int .i64 (ops.getD i (0, 0, 0)).1) ∧ w.cell? ((a.add (i * 3)).add 1) = some (.int .i64 (ops.getD i (0, 0, 0)).2.1) ∧ w.cell? ((a.add (i * 3)).add 2) = some (.int .i64 (ops.getD i (0, 0, 0)).2.2) := by
      intro k
      induction k with
      | zero => exact fun _ => ⟨[], rfl, fun i hi => absurd hi (by omega)⟩
      | succ k ih =>
        intro hk
        obtain ⟨ops, ho, hops⟩ := ih (by omega)
        obtain ⟨y, z, u, e1, e2, e3⟩ := each k (by omega)
        refine ⟨ops ++ [(y, z, u)], by simp [ho], fun i hik => ?_⟩
        by_cases e : i = k
        · subst e
          have : (ops ++ [(y, z, u)]).getD i (0, 0, 0) = (y, z, u) := by rw [← ho]; simp [List.getD]
          rw [this]; exact ⟨e1, e2, e3⟩
        · have : (ops ++ [(y, z, u)]).getD i (0, 0, 0) = ops.getD i (0, 0, 0) := by simp [List.getD, List.getElem?_append_left (show i < ops.length by omega)]
          rw [this]; exact hops i (by omega)
    obtain ⟨ops, ho, hops⟩ := all len (Nat.le_refl _)
    refine ⟨some a, len, cap, ops, hcs, by rw [ocs_len, ho], hl, hm, (fun hh => by cases hh), fun hp => ?_⟩
    obtain ⟨b, o, spot⟩ := a
    have h0 := (hops 0 (by omega)).1
    have hs : spot = none := by simpa [Addr.add] using World.cell?_spot h0
    subst hs
    refine ⟨b, o, rfl, World.block_lt_of_cell? w ⟨b, o, none⟩ (by simpa [Addr.add] using h0), fun j v hv => ?_⟩
    have hj : j < len * 3 := by have := (List.getElem?_eq_some_iff.1 hv).1; rw [ocs_len, ho] at this; exact this
    obtain ⟨g0, g1, g2⟩ := ocs_get ops (j / 3) (by omega)
    obtain ⟨h0, h1, h2⟩ := hops (j / 3) (by omega)
    rw [add_zero_spot] at h0 h1 h2
    rw [add_zero_spot] at h1 h2
    rcases (by omega : j = j / 3 * 3 ∨ j = j / 3 * 3 + 1 ∨ j = j / 3 * 3 + 2) with e | e | e
    · rw [e] at hv ⊢; rw [g0] at hv; rw [h0]; exact hv
    · rw [e] at hv ⊢; rw [g1] at hv; rw [← Nat.add_assoc, h1]; exact hv
    · rw [e] at hv ⊢; rw [g2] at hv; rw [← Nat.add_assoc, h2]; exact hv
end
end Go.Proofs.Ytnpdhddnlcpaiaa
