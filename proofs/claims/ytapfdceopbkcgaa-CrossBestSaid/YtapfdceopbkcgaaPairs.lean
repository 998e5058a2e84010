/- Pairs of int64s as cells: slices of structs of two; loads and stores of such a struct; what came in. -/
import Derived.Test.YtapfdceopbkcgaaInt
import Derived.Test.YtapfdceopbkcgaaBlk
import Derived.Test.YtapfdceopbkcgaaPlainDrift
import Derived.Deep.Slices
import Derived.Deep.Fields
import Derived.ChangeSame
namespace Go.Proofs.Ytapfdceopbkcgaa
open Go.RowKit Go.ChangeShapes Go.WideShapes Go.Deep
open PDrift (pr)

def pc (p : Int × Int) : List Value := [.int .i64 p.1, .int .i64 p.2]
def tcs (l : List (Int × Int)) : List Value := l.flatMap pc
/-- A pair by value. -/
def pv (p : Int × Int) : Value := .agg #[.int .i64 p.1, .int .i64 p.2]
theorem pr_mem {l : List (Int × Int)} {i : Nat} (h : i < l.length) : pr l i ∈ l := by
  simp [pr, List.getD, List.getElem?_eq_getElem h]
theorem tcs_len : ∀ l : List (Int × Int), (tcs l).length = l.length * 2
  | [] => rfl
  | p :: l => by
    have := tcs_len l
    unfold tcs at this ⊢
    rw [List.flatMap_cons, List.length_append, this, List.length_cons]; simp [pc]; omega
theorem tcs_at : ∀ (l : List (Int × Int)) (i : Nat), i < l.length → (tcs l)[i * 2]? = some (.int .i64 (pr l i).1) ∧ (tcs l)[i * 2 + 1]? = some (.int .i64 (pr l i).2)
  | p :: l, 0, _ => by simp [tcs, pc, pr]
  | p :: l, i + 1, h => by
    have := tcs_at l i (by simpa using h)
    rw [show (i + 1) * 2 = i * 2 + 1 + 1 by omega]
    simpa [tcs, pc, pr] using this
theorem tcs_app (l m : List (Int × Int)) : tcs (l ++ m) = tcs l ++ tcs m := by simp [tcs]
theorem tcs_one (l : List (Int × Int)) : ∀ u ∈ tcs l, u.oneCell' = true := by
  intro u hu
  obtain ⟨p, _, hp⟩ := List.mem_flatMap.1 hu
  simp [pc] at hp
  rcases hp with rfl | rfl <;> rfl
theorem tcs_take (l : List (Int × Int)) (m : Nat) (h : m ≤ l.length) : (tcs l).take (m * 2) = tcs (l.take m) := by
  conv => lhs; rw [← List.take_append_drop m l, tcs_app]
  rw [List.take_left' (by rw [tcs_len, List.length_take]; omega)]
theorem tcs_drop (l : List (Int × Int)) (m : Nat) (h : m ≤ l.length) : (tcs l).drop (m * 2) = tcs (l.drop m) := by
  conv => lhs; rw [← List.take_append_drop m l, tcs_app]
  rw [List.drop_left' (by rw [tcs_len, List.length_take]; omega)]
theorem Rd.plen {w : World} {B : Nat} {A : Option Addr} {c n : Nat} {l : List (Int × Int)} (h : Rd w B A c 2 n (tcs l)) : l.length = n := by
  have := h.len; rw [tcs_len] at this; omega
theorem Rd.pair {w : World} {B : Nat} {A : Option Addr} {c n : Nat} {l : List (Int × Int)} (h : Rd w B A c 2 n (tcs l)) {i : Nat} (hi : i < n) :
    ∃ b o, A = some ⟨b, o, none⟩ ∧ b < w.heap.size ∧ w.cell? ⟨b, o + i * 2, none⟩ = some (.int .i64 (pr l i).1) ∧ w.cell? ⟨b, o + i * 2 + 1, none⟩ = some (.int .i64 (pr l i).2) := by
  obtain ⟨b, o, hA, _, hc⟩ := h.2.2.2.2 (by omega)
  obtain ⟨t1, t2⟩ := tcs_at l i (by rw [h.plen]; exact hi)
  have c1 := hc _ _ t1
  exact ⟨b, o, hA, World.block_lt_of_cell? w _ c1, c1, by have := hc _ _ t2; rwa [← Nat.add_assoc] at this⟩

theorem Rd.pairB {w : World} {B : Nat} {A : Option Addr} {c n : Nat} {l : List (Int × Int)} (h : Rd w B A c 2 n (tcs l)) {i : Nat} (hi : i < n) :
    ∃ b o, A = some ⟨b, o, none⟩ ∧ b < B ∧ w.cell? ⟨b, o + i * 2, none⟩ = some (.int .i64 (pr l i).1) ∧ w.cell? ⟨b, o + i * 2 + 1, none⟩ = some (.int .i64 (pr l i).2) := by
  obtain ⟨b, o, hA, hB, hc⟩ := h.2.2.2.2 (by omega)
  obtain ⟨t1, t2⟩ := tcs_at l i (by rw [h.plen]; exact hi)
  exact ⟨b, o, hA, hB, hc _ _ t1, by have := hc _ _ t2; rwa [← Nat.add_assoc] at this⟩
/-- A new row of one pair. -/
theorem Rd.one (w : World) (p : Int × Int) (e : TypeId) : Rd (w.alloc (.cells #[.int .i64 p.1, .int .i64 p.2] e)) (w.alloc (.cells #[.int .i64 p.1, .int .i64 p.2] e)).heap.size (some ⟨w.heap.size, 0, none⟩) 1 2 1 (tcs [p]) :=
  ⟨rfl, Nat.le_refl _, by simp [maxLen], (fun h => by cases h), fun _ => ⟨w.heap.size, 0, rfl, by simp, fun j u hu => by
    rw [Nat.zero_add]
    exact (Blk.new w #[.int .i64 p.1, .int .i64 p.2] e).cell hu⟩⟩
theorem take_succ_pr {l : List (Int × Int)} {u : Nat} (h : u < l.length) : l.take (u + 1) = l.take u ++ [pr l u] := by
  have e1 : pr l u = l[u] := by simp [pr, List.getD, List.getElem?_eq_getElem h]
  rw [List.take_add, List.drop_eq_getElem_cons h, e1]; rfl

section
variable {P : Program}
/-- A load of two cells. -/
theorem run_load2 {w : World} {dst : Option Tmp} {t : TypeId} {x : Operand} {ty : TypeId} {pos : String} {after : Array Edge} {guard : Option (Nat × Bool)} {ρ : Operand → Value} {b o : Nat} {u v : Value} {d : TypeDesc}
    (hu : P.underlying t = some d) (hd : d.isRow = true) (hi : (P.info? t).map (·.size) = some 2) (hx : ρ x = .pointer (some ⟨b, o, none⟩)) (h1 : w.cell? ⟨b, o, none⟩ = some u) (h2 : w.cell? ⟨b, o + 1, none⟩ = some v) :
    (execOp ρ { dst, op := .load t x, type := ty, pos, after, guard }).run P w = .ok (.value (.agg #[u, v])) w := by
  have hr : w.rangeAt b o [u, v] := fun j z hz => by
    match j, hz with
    | 0, hz => simp at hz; subst hz; exact h1
    | 1, hz => simp at hz; subst hz; exact h2
    | j + 2, hz => simp at hz
  have := run_loadAt_mid (P := P) w b o t [u, v] d hr hu hd hi
  unfold execOp
  simp only [hx, Sem.run_bind, this, Result.andThen_ok, Sem.run_pure]
/-- A new row of one, of two cells. -/
theorem wpList_build2 {w : World} {ops : Array Oper} {rest : List Oper} {o : Oper} {a : Act} {Q : Exit → Act → World → Prop} (hgd : o.guard = none) (t e : TypeId) (x : Operand) (ho : o.op = .buildSlice t 1 #[(0, x)])
    (ht : P.underlying t = some (.slice e)) (hs : ∀ w, (sizeOf e).run P w = .ok 2 w) {z0 z1 : Value} (hz : ∀ w, (zeroValue e).run P w = .ok (.agg #[z0, z1]) w) (u v : Value) (hx : a.eval x = .agg #[u, v])
    (h : wpList P ops Q rest (a.put o.dst (.slice (some ⟨w.heap.size, 0, none⟩) 1 1)) (w.alloc (.cells #[u, v] e))) : wpList P ops Q (o :: rest) a w := by
  refine wpList_plain hgd fun K hK => ?_
  have hrun : (Instr.buildSlice t 1 #[(0, .agg #[u, v])]).run P w = .ok (.slice (some ⟨w.heap.size, 0, none⟩) 1 1) (w.alloc (.cells #[u, v] e)) := by
    simp [Instr.buildSlice, Sem.run_bind, run_underlying ht, hs, hz, Value.cells, Instr.fill, Array.range, newRow]
    congr 2
  unfold Oper.wp execOp
  simp only [ho, List.map_toArray, List.map_cons, List.map_nil, hx, Sem.run_bind, hrun, Result.andThen_ok, Sem.run_pure]
  exact hK _ _ h
end

section
variable {H : Type} {enc : TypeId × Value → H} {P : Program} {w : World} {base : Nat} {spare : Nat → Bool} {held : Bool}
/-- One field of such a struct. -/
theorem one_field {f : Field} {fuel i : Nat} {cs : List Value} {xs : List (DataW H × List MemPlace)} (hk : P.underlying f.type = some (.int .i64)) (hc : P.cellsOf f.type = 1) (ho : f.offset = i) (hx : i < xs.length)
    (h : DataW.trod enc P w base spare held fuel f.type ((cs.drop f.offset).take (P.cellsOf f.type)) = xs[i]?) : ∃ n, cs[i]? = some (.int .i64 n) := by
  rw [List.getElem?_eq_getElem hx] at h
  obtain ⟨n, hn, _⟩ := DataW.trod_int hk h
  rw [hc, ho] at hn
  refine ⟨n, ?_⟩
  have := congrArg (fun l => l[0]?) hn
  simpa [List.getElem?_take, List.getElem?_drop] using this

/-- A slice of structs of two int64s that came in. -/
theorem open_pairs {t e : TypeId} {f0 f1 : Field} {fuel : Nat} {cs : List Value} {x : DataW H × List MemPlace} (ht : P.underlying t = some (.slice e)) (he : P.underlying e = some (.struct #[f0, f1])) (hC : P.cellsOf e = 2)
    (k0 : P.underlying f0.type = some (.int .i64)) (c0 : P.cellsOf f0.type = 1) (o0 : f0.offset = 0) (k1 : P.underlying f1.type = some (.int .i64)) (c1 : P.cellsOf f1.type = 1) (o1 : f1.offset = 1)
    (h : DataW.trod enc P w base spare held fuel t cs = some x) : ∃ (A : Option Addr) (n c : Nat) (l : List (Int × Int)), cs = [.slice A n c] ∧ Rd w w.heap.size A c 2 n (tcs l) := by
  rcases open_slice ht h with ⟨rfl, _⟩ | ⟨a, len, cap, m, q, D, Pl, hcs, hb, hl, hm, hmm, hx, hi⟩
  · exact ⟨none, 0, 0, [], rfl, Rd.nil _ _ _⟩
  · have hle : len ≤ m := by rw [hmm]; split <;> omega
    have each : ∀ i, i < len → ∃ p : Int × Int, w.cell? (a.add (i * 2)) = some (.int .i64 p.1) ∧ w.cell? ((a.add (i * 2)).add 1) = some (.int .i64 p.2) := by
      intro i hil
      obtain ⟨cs', hc, ht'⟩ := hi i (by omega)
      rw [hC] at hc
      obtain ⟨_, hcl, hat⟩ := World.cells?_some hc
      obtain ⟨ys, n', _, _, _, hyl, hf⟩ := DataW.trod_struct he ht'
      have hys : ys.length = 2 := hyl
      obtain ⟨y, hy⟩ := one_field (xs := ys) k0 c0 o0 (by omega) (by have := hf 0 f0 rfl; exact this)
      obtain ⟨z, hz⟩ := one_field (xs := ys) k1 c1 o1 (by omega) (by have := hf 1 f1 rfl; exact this)
      refine ⟨(y, z), ?_, (hat 1 (by omega)).trans hz⟩
      have := (hat 0 (by omega)).trans hy
      rwa [show (a.add (i * 2)).add 0 = a.add (i * 2) by unfold Addr.add; simp] at this
    have all : ∀ k, k ≤ len → ∃ l : List (Int × Int), l.length = k ∧ ∀ i, i < k → w.cell? (a.add (i * 2)) = some (.int .i64 (pr l i).1) ∧ w.cell? ((a.add (i * 2)).add 1) = some (.int .i64 (pr l i).2) := by
      intro k
      induction k with
      | zero => exact fun _ => ⟨[], rfl, fun i hi => absurd hi (by omega)⟩
      | succ k ih =>
        intro hk
        obtain ⟨l, ho, hops⟩ := ih (by omega)
        obtain ⟨p, e1, e2⟩ := each k (by omega)
        refine ⟨l ++ [p], by simp [ho], fun i hik => ?_⟩
        by_cases e : i = k
        · subst e
          have : pr (l ++ [p]) i = p := by rw [← ho]; simp [pr, List.getD]
          rw [this]; exact ⟨e1, e2⟩
        · have : pr (l ++ [p]) i = pr l i := by simp [pr, List.getD, List.getElem?_append_left (show i < l.length by omega)]
          rw [this]; exact hops i (by omega)
    obtain ⟨l, ho, hops⟩ := all len (Nat.le_refl _)
    refine ⟨some a, len, cap, l, hcs, by rw [tcs_len, ho], hl, hm, (fun hh => by cases hh), fun hp => ?_⟩
    obtain ⟨b, o, spot⟩ := a
    have h0 := (hops 0 (by omega)).1
    have hs : spot = none := by simpa [Addr.add] using World.cell?_spot h0
    subst hs
    refine ⟨b, o, rfl, World.block_lt_of_cell? w ⟨b, o, none⟩ (by simpa [Addr.add] using h0), fun j v hv => ?_⟩
    have hj : j < len * 2 := by have := (List.getElem?_eq_some_iff.1 hv).1; rw [tcs_len, ho] at this; exact this
    obtain ⟨g0, g1⟩ := tcs_at l (j / 2) (by omega)
    obtain ⟨h0, h1⟩ := hops (j / 2) (by omega)
    rw [add_zero_spot] at h0 h1
    rw [add_zero_spot] at h1
    rcases (by omega : j = j / 2 * 2 ∨ j = j / 2 * 2 + 1) with e | e
    · rw [e] at hv ⊢; rw [g0] at hv; rw [h0]; exact hv
    · rw [e] at hv ⊢; rw [g1] at hv; rw [← Nat.add_assoc, h1]; exact hv
end
end Go.Proofs.Ytapfdceopbkcgaa
