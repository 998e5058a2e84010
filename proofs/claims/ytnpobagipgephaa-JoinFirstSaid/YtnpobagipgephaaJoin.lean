/- 'Jn': the program's join at block g, with its blocks. -/
import Derived.Test.YtnpobagipgephaaPlainJoin
import Derived.Test.YtnpobagipgephaaMrow
import Derived.Test.YtnpobagipgephaaOg
import Derived.Test.YtnpobagipgephaaHeld
import Derived.Deep.MidRow
namespace Go.Proofs.Ytnpobagipgephaa
open Go.RowKit

/-- A join's cells. -/
def jcs (me n boot pro : Int) (m : Msg) (A : Option Addr) (c : Nat) (got : Bool) : List Value :=
  [.int .i64 me, .int .i64 n, .int .i64 boot, .int .i64 pro, .int .i64 m.kind, .int .i64 m.fr, .int .i64 m.dst, .int .i64 m.boot, .int .i64 m.view, .int .i64 m.last, .int .i64 m.mem, .int .i64 m.pos, .slice A m.es.length c, .int .i64 m.com, .int .i64 m.num, .int .i64 m.clk, .bool m.yes, .bool got]
theorem jcs_mid (me n boot pro : Int) (m : Msg) (A : Option Addr) (c : Nat) (got : Bool) : jcs me n boot pro m A c got = [.int .i64 me, .int .i64 n, .int .i64 boot, .int .i64 pro] ++ (mcs m A c ++ [.bool got]) := rfl
/-- The join at block g, of such numbers, with the word that it took; F are its blocks. -/
structure Jn (w : World) (g : Nat) (F : List Nat) (me n boot pro : Int) (o : Option Msg) : Prop where
  ex : ∃ (A : Option Addr) (c : Nat), Blk w g 43 (jcs me n boot pro (o.getD zeroM) A c o.isSome) ∧ Ow w 0 47 7 A (o.getD zeroM).es.length c (els (o.getD zeroM).es) ∧ F = g :: bl A
  le : (o.getD zeroM).es.length ≤ 60

section
variable {w w' : World} {g : Nat} {F S : List Nat} {me n boot pro : Int} {o : Option Msg}
theorem Jn.kinds (h : Jn w g F me n boot pro o) : ∀ k ∈ F, ∃ t ys, Blk w k t ys ∧ (t = 43 ∨ t = 47) := by
  obtain ⟨A, c, hB, hO, rfl⟩ := h.ex
  intro k hk
  rcases List.mem_cons.1 hk with rfl | hk
  · exact ⟨_, _, hB, .inl rfl⟩
  · obtain ⟨ys, hy⟩ := hO.blk (mem_bl.1 hk)
    exact ⟨_, _, hy, .inr rfl⟩
theorem Jn.hi (h : Jn w g F me n boot pro o) : ∀ k ∈ F, k < w.heap.size := fun k hk => by
  obtain ⟨t, ys, hB, _⟩ := h.kinds k hk
  exact hB.lt
theorem Jn.self (h : Jn w g F me n boot pro o) : g ∈ F := by obtain ⟨A, c, hB, hO, rfl⟩ := h.ex; exact List.mem_cons_self ..
theorem Jn.touch (h : Jn w g F me n boot pro o) (ht : Touch S w w') (hd : ∀ k ∈ S, k ∉ F) : Jn w' g F me n boot pro o := by
  obtain ⟨A, c, hB, hO, rfl⟩ := h.ex
  exact ⟨⟨A, c, hB.touch ht (fun hm => hd g hm (List.mem_cons_self ..)), hO.touch ht (fun s hs e => hd s hs (List.mem_cons_of_mem _ (mem_bl.2 e))), rfl⟩, h.le⟩
theorem Jn.past (h : Jn w g F me n boot pro o) (hb : Below w.heap.size w w') : Jn w' g F me n boot pro o := h.touch (S := []) (.of_below hb) (by simp)
theorem Jn.drew (h : Jn w g F me n boot pro o) : Jn w.drew g F me n boot pro o := ⟨h.ex, h.le⟩
theorem Jn.alloc (h : Jn w g F me n boot pro o) (x : Obj) : Jn (w.alloc x) g F me n boot pro o := h.past ((Below.refl _ _).alloc (Nat.le_refl _) _)
theorem Jn.blk (h : Jn w g F me n boot pro o) : ∃ (m : Msg) (A : Option Addr) (c : Nat), Blk w g 43 (jcs me n boot pro m A c o.isSome) := by
  obtain ⟨A, c, hB, _, _⟩ := h.ex
  exact ⟨_, A, c, hB⟩

/-- What a call leaves that writes the join at block g, whose blocks were F. -/
structure JnW (w w' : World) (g : Nat) (F : List Nat) (me n boot pro : Int) (o : Option Msg) : Prop where
  ex : ∃ F', Jn w' g F' me n boot pro o ∧ ∀ k ∈ F', k ∈ F ∨ w.heap.size ≤ k
  touch : Touch F w w'
theorem JnW.same (h : Jn w g F me n boot pro o) (hb : Below w.heap.size w w') : JnW w w' g F me n boot pro o := ⟨⟨F, h.past hb, fun _ hk => .inl hk⟩, .of_below hb⟩
end
section
variable {w w' : World} {g : Nat} {t : TypeId} {me n boot pro : Int} {m : Msg} {A : Option Addr} {c : Nat} {got : Bool}
/-- The cells of a block that holds a join. -/
theorem Blk.join (h : Blk w g t (jcs me n boot pro m A c got)) :
    w.cell? ⟨g, 0, none⟩ = some (.int .i64 me) ∧ w.cell? ⟨g, 1, none⟩ = some (.int .i64 n) ∧ w.cell? ⟨g, 2, none⟩ = some (.int .i64 boot) ∧ w.cell? ⟨g, 3, none⟩ = some (.int .i64 pro) ∧ w.cell? ⟨g, 17, none⟩ = some (.bool got) :=
  ⟨h.cell (i := 0) rfl, h.cell (i := 1) rfl, h.cell (i := 2) rfl, h.cell (i := 3) rfl, h.cell (i := 17) rfl⟩
/-- Its word, in its midst. -/
theorem Blk.word (h : Blk w g t (jcs me n boot pro m A c got)) : w.rangeAt g 4 (mcs m A c) := fun j v hv => by
  have hj : j < 13 := (List.getElem?_eq_some_iff.1 hv).1
  refine h.cell ?_
  rw [jcs_mid, List.getElem?_append_right (by simp), List.getElem?_append_left (by simp [mcs]; omega)]
  simpa using hv
end
theorem run_loadJi {w : World} {dst : Option Tmp} {x : Operand} {ty : TypeId} {pos : String} {after : Array Edge} {guard : Option (Nat × Bool)} {ρ : Operand → Value} {p : Addr} {k : Int}
    (h : w.cell? p = some (.int .i64 k)) (hx : ρ x = .pointer (some p)) : (execOp ρ { dst, op := .load 3 x, type := ty, pos, after, guard }).run Try.prog w = .ok (.value (.int .i64 k)) w := by
  go_simp
theorem wpList_store_midL {P : Program} {ops : Array Oper} {rest : List Oper} {op : Oper} {a : Act} {w : World} {Q : Exit → Act → World → Prop} (hgd : op.guard = none) (ty : TypeId) (x y : Operand) (ho : op.op = .store ty x y)
    (b o : Nat) (cs : List Value) (hx : a.eval x = .pointer (some ⟨b, o, none⟩)) (hy : a.eval y = .agg cs.toArray)
    (ht : w.there b o cs.length) (hi : (P.info? ty).map (·.size) = some cs.length) (h1 : ∀ v ∈ cs, v.oneCell' = true)
    (h : wpList P ops Q rest (a.put op.dst undef) (w.setCells b o cs)) : wpList P ops Q (op :: rest) a w :=
  wpList_store_mid hgd ty x y ho b o cs.toArray hx hy ht hi (all_oneCell_toArray h1) h
end Go.Proofs.Ytnpobagipgephaa
