/- An entry loaded, built in a region that draws; small facts of lists. -/
import Derived.Test.YtkpgijmpaklfgaaEntQ
import Derived.Test.YtkpgijmpaklfgaaHeld2
import Derived.Test.YtkpgijmpaklfgaaOw
import Derived.Laws.StructEq
import Derived.Great.BuildSlice
namespace Go.Proofs.Ytkpgijmpaklfgaa
open Go.RowKit

theorem Rd.entR {w : World} {B c n : Nat} {A : Option Addr} {l : List Ent} (h : Rd w B A c 7 n (els l)) {i : Nat} (hi : i < n) : ∃ b o e, A = some ⟨b, o, none⟩ ∧ b < B ∧ l[i]? = some e ∧ e ∈ l ∧ w.rangeAt b (o + i * 7) (ecs e) := by
  obtain ⟨b, o, hA, hb, hc⟩ := h.flat hi (by omega)
  have hl := h.elen
  have he : l[i]? = some l[i] := List.getElem?_eq_getElem (by omega)
  refine ⟨b, o, l[i], hA, hb, he, List.getElem_mem _, fun j v hv => ?_⟩
  have hj : j < 7 := by have := (List.getElem?_eq_some_iff.1 hv).1; rw [ecs_length] at this; exact this
  obtain ⟨u, hu, hcell⟩ := hc j hj
  rw [els_at he hj, hv] at hu
  rw [hcell, hu]
theorem eqL_step {l m : List Ent} {i : Nat} {a b : Ent} (h1 : l[i]? = some a) (h2 : m[i]? = some b) : PEnt.eqL (l.drop i) (m.drop i) = (PEnt.eqE a b && PEnt.eqL (l.drop (i + 1)) (m.drop (i + 1))) := by
  obtain ⟨hi, he⟩ := List.getElem?_eq_some_iff.1 h1
  obtain ⟨hj, hf⟩ := List.getElem?_eq_some_iff.1 h2
  rw [List.drop_eq_getElem_cons hi, List.drop_eq_getElem_cons hj, he, hf]; rfl
theorem eqL_ne : ∀ {l m : List Ent}, l.length ≠ m.length → PEnt.eqL l m = false
  | [], [], h => absurd rfl h
  | [], _ :: _, _ => rfl
  | _ :: _, [], _ => rfl
  | a :: l, b :: m, h => by
    have : l.length ≠ m.length := fun e => h (by simp [e])
    simp [PEnt.eqL, eqL_ne this]

theorem any_take {l : List Ent} {p : Ent → Bool} {i : Nat} {e : Ent} (he : l[i]? = some e) (h : (l.take i).any p = false) (hp : p e = false) : (l.take (i + 1)).any p = false := by
  obtain ⟨hi, rfl⟩ := List.getElem?_eq_some_iff.1 he
  rw [← List.take_append_getElem hi, List.any_append, h]
  simp [hp]
theorem any_at {l : List Ent} {p : Ent → Bool} {i : Nat} {e : Ent} (he : l[i]? = some e) (hp : p e = true) : l.any p = true := by
  rw [List.any_eq_true]
  exact ⟨e, List.mem_of_getElem? he, hp⟩
theorem results_rowB {P : Program} {fn : Func} {p u : Tmp} {ty : TypeId} (h : fn.results = #[.cell p ty, .tmp u]) (tmps : Array Value) (w : World) (g : Nat) (t : TypeId) (cs : Array Value) (fr : Nat × Nat) (d : TypeDesc)
    {v : Value} (hp : tmps.getD p undef = .pointer (some ⟨g, 0, none⟩)) (hv : tmps.getD u undef = v) (hg : w.heap[g]? = some (.cells cs t fr))
    (hu : P.underlying ty = some d) (hd : (match d with | .struct _ | .array _ _ => true | _ => false) = true) (hi : (P.info? ty).map (·.size) = some cs.size) :
    (results fn tmps).run P w = .ok (.tuple #[.agg cs, v]) w := by
  rw [results_cell_tmp h, hp, hv]
  simp [asAddr, run_loadVar_row w g t ty cs fr d hg hu hd hi, Result.andThen]

theorem ecs_one (e : Ent) : ∀ u ∈ ecs e, u.oneCell' = true := by
  have := els_one [e]
  simpa [els] using this
theorem grown0 {w w' : World} {row : Option Nat} (h : w.grownBy w' row) : Below 0 w w' := ⟨h.os, h.tape, h.output, h.size, fun k hk => absurd hk (Nat.not_lt_zero k)⟩
/-- A slice is loaded out of its cell. -/
theorem run_load1 {w : World} {dst : Option Tmp} {x : Operand} {ty : TypeId} {pos : String} {after : Array Edge} {guard : Option (Nat × Bool)} {ρ : Operand → Value} {p : Addr} {A : Option Addr} {n c : Nat}
    (h : w.cell? p = some (.slice A n c)) (hx : ρ x = .pointer (some p)) : (execOp ρ { dst, op := .load 23 x, type := ty, pos, after, guard }).run Try.prog w = .ok (.value (.slice A n c)) w := by
  go_simp
/-- '[]api.Entry{e}' in a region that draws. -/
theorem wpList_buildE {w : World} {ops : Array Oper} {rest : List Oper} {o : Oper} {a : Act} {Q : Exit → Act → World → Prop} (hgd : o.guard = none) (x : Operand) (ho : o.op = .buildSlice 23 1 #[(0, x)]) (e : Ent) (hx : a.eval x = ev e)
    (h : wpList Try.prog ops Q rest (a.put o.dst (.slice (some ⟨w.heap.size, 0, none⟩) 1 1)) (w.alloc (.cells (ecs e).toArray 30))) : wpList Try.prog ops Q (o :: rest) a w := by
  obtain ⟨i, hi0, hz, hk, -⟩ := info_parts ent_info
  refine wpList_buildSlice hgd 23 30 1 _ ho (ecs e).toArray i (ev zeroE) Try.underlying23 hi0 hz (by rw [hk]; omega) (by rw [hk]; omega) ?_ h
  rw [hk]
  have hb : (Array.range (1 * 7)).map (fun x => (ev zeroE).cells[x % (ev zeroE).cells.size]!) = (ecs zeroE).toArray := by kernel_rfl
  rw [hb]
  simp [Instr.fill, ev, ecs, Value.cells, hx]

theorem take_step {es : List Ent} {i : Nat} {e : Ent} (he : es[i]? = some e) : es.take (i + 1) = es.take i ++ [e] := by
  obtain ⟨hi, rfl⟩ := List.getElem?_eq_some_iff.1 he
  exact (List.take_append_getElem hi).symm
theorem drop_step {es : List Ent} {i : Nat} {e : Ent} (he : es[i]? = some e) : es.drop i = e :: es.drop (i + 1) := by
  obtain ⟨hi, rfl⟩ := List.getElem?_eq_some_iff.1 he
  exact List.drop_eq_getElem_cons hi
theorem take_min (es : List Ent) (a : Nat) : es.take (min a es.length) = es.take a := by
  by_cases h : a ≤ es.length
  · rw [Nat.min_eq_left h]
  · rw [Nat.min_eq_right (by omega), List.take_of_length_le (Nat.le_refl _), List.take_of_length_le (by omega)]
theorem drop_min (es : List Ent) (a : Nat) : es.drop (min a es.length) = es.drop a := by
  by_cases h : a ≤ es.length
  · rw [Nat.min_eq_left h]
  · rw [Nat.min_eq_right (by omega), List.drop_of_length_le (Nat.le_refl _), List.drop_of_length_le (by omega)]

theorem run_loadI {w : World} {dst : Option Tmp} {x : Operand} {ty : TypeId} {pos : String} {after : Array Edge} {guard : Option (Nat × Bool)} {ρ : Operand → Value} {p : Addr} {k : Int}
    (h : w.cell? p = some (.int .i64 k)) (hx : ρ x = .pointer (some p)) : (execOp ρ { dst, op := .load 2 x, type := ty, pos, after, guard }).run Try.prog w = .ok (.value (.int .i64 k)) w := by
  go_simp
theorem Rd.rangeOf {w : World} {B c n b o i : Nat} {A : Option Addr} {l : List Ent} {y : Ent} (h : Rd w B A c 7 n (els l)) (hA : A = some ⟨b, o, none⟩) (hy : l[i]? = some y) : w.rangeAt b (o + i * 7) (ecs y) := by
  have hi : i < n := by have := h.elen; have := (List.getElem?_eq_some_iff.1 hy).1; omega
  obtain ⟨b', o', e, rfl, -, he, -, hr⟩ := h.entR hi
  cases hA
  obtain rfl : y = e := by have := hy.symm.trans he; exact Option.some.inj this
  exact hr
theorem range_stamp {w : World} {b o : Nat} {y : Ent} (h : w.rangeAt b o (ecs y)) : w.cell? ⟨b, o + 5, none⟩ = some (.int .i64 y.stamp) := h 5 _ rfl

theorem Rd.below2 {w w' : World} {B c k n : Nat} {A : Option Addr} {xs : List Value} (h : Rd w B A c k n xs) (hb : Below w.heap.size w w') : Rd w' w'.heap.size A c k n xs := (h.past hb).tight


section
variable {w w' : World} {S : List Nat}
theorem run_short {P : Program} {w : World} (t e : TypeId) {z : Option Value} {k bytes : Nat} (ht : P.underlying t = some (.slice e)) (hi : (P.info? e).map (fun i => (i.zero, i.size, i.bytes)) = some (z, k, bytes))
    (A : Option Addr) (n c m : Nat) (hm : m ≤ c) : (Instr.sliceAt t (.slice A n c) none (some (.int .i64 m)) none).run P w = .ok (.slice A m c) w := by
  rw [run_cut t e ht hi A n c none (some (.int .i64 m)) .i64 .i64 0 m (Or.inl ⟨rfl, rfl⟩) (Or.inr rfl) (Nat.zero_le _) hm]
  have h0 : (if c = 0 then A else A.map (·.add (0 * k))) = A := by
    split
    · rfl
    · cases A <;> simp [Addr.add]
  rw [h0]; rfl
/-- A slice that reads, behind a call that wrote other blocks. -/
theorem Rd.touch {B c k n : Nat} {A : Option Addr} {xs : List Value} (h : Rd w B A c k n xs) (ht : Touch S w w') (hs : 0 < n * k → ∀ s ∈ S, bk A ≠ some s) : Rd w' B A c k n xs :=
  ⟨h.1, h.2.1, h.2.2.1, h.2.2.2.1, fun hn => by
    obtain ⟨b, o, e, hB, hc⟩ := h.2.2.2.2 hn
    refine ⟨b, o, e, hB, fun j u hu => ?_⟩
    have hlt : b < w.heap.size := World.block_lt_of_cell? w _ (hc j u hu)
    have hb := ht.block b hlt (fun hm => hs hn b hm (by rw [e]; rfl))
    have := hc j u hu
    unfold World.cell? at this ⊢
    simp only [hb]
    exact this⟩
/-- What lies below B is apart from blocks that do not. -/
theorem Rd.apart {B c k n : Nat} {A : Option Addr} {xs : List Value} (h : Rd w B A c k n xs) (hS : ∀ s ∈ S, B ≤ s) : 0 < n * k → ∀ s ∈ S, bk A ≠ some s := by
  intro hn s hs e
  obtain ⟨b, o, hA, hb, _⟩ := h.2.2.2.2 hn
  rw [hA] at e
  have : b = s := by simpa [bk] using e
  have := hS s hs
  omega
end
end Go.Proofs.Ytkpgijmpaklfgaa
