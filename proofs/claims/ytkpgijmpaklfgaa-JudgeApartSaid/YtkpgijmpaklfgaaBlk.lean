/- A block of the call's own cells (a local struct or array whose address is taken). No program is named here. -/
import Derived.Test.YtkpgijmpaklfgaaKit
import Derived.Laws.Rows
import Derived.Laws.Tables
import Derived.Deep.MidRow
namespace Go.Proofs.Ytkpgijmpaklfgaa
open Go.RowKit

/-- Block g holds the cells xs, none of them shared with a string. -/
def Blk (w : World) (g : Nat) (e : TypeId) (xs : List Value) : Prop := w.heap[g]? = some (.cells xs.toArray e (0, 0))

section
variable {w w' : World} {g : Nat} {e : TypeId} {xs : List Value}
theorem Blk.lt (h : Blk w g e xs) : g < w.heap.size := (Array.getElem?_eq_some_iff.1 h).1
theorem Blk.cell (h : Blk w g e xs) {i : Nat} {u : Value} (hu : xs[i]? = some u) : w.cell? ⟨g, i, none⟩ = some u := by
  rw [cell_of_row _ _ i xs.toArray e (0, 0) h]; simpa using hu
theorem Blk.free (h : Blk w g e xs) (i : Nat) : w.frozen? ⟨g, i, none⟩ = false := frozen_of_row w g i _ e h
theorem Blk.set (h : Blk w g e xs) (i : Nat) (u : Value) : Blk (w.setCell ⟨g, i, none⟩ u) g e (xs.set i u) := by
  have := heap_setCell_same w g i _ e u h
  simpa [Blk] using this
theorem Blk.new (w : World) (a : Array Value) (e : TypeId) : Blk (w.alloc (.cells a e)) w.heap.size e a.toList := by
  simpa [Blk] using heap_alloc_new w (.cells a e)
theorem Blk.below {B : Nat} (h : Blk w g e xs) (hb : Below B w w') (hg : g < B) : Blk w' g e xs := (hb.block g hg).trans h
theorem Blk.past (h : Blk w g e xs) (hb : Below w.heap.size w w') : Blk w' g e xs := h.below hb h.lt
theorem Blk.drew (h : Blk w g e xs) : Blk w.drew g e xs := h
theorem Blk.alloc (h : Blk w g e xs) (o : Obj) : Blk (w.alloc o) g e xs := h.past ((Below.refl _ _).alloc (Nat.le_refl _) _)
/-- Behind a call that wrote another block. -/
theorem Blk.far {k : Nat} (h : Blk w g e xs) (hb : w.grownBy w' (some k)) (hk : g ≠ k) : Blk w' g e xs := (hb.block g h.lt (by simpa using hk)).trans h
theorem grown_set (w : World) (g i : Nat) (v : Value) : w.grownBy (w.setCell ⟨g, i, none⟩ v) (some g) :=
  ⟨rfl, rfl, rfl, by simp [World.setCell], fun k _ hk => Below.heap_setCell _ _ _ _ (by simpa using hk)⟩
/-- Behind the store of a whole value. -/
theorem Blk.row (h : Blk w g e xs) (cs : Array Value) : Blk (w.setRow g cs) g e cs.toList := by
  have := setRow_heap w g xs.toArray cs e (0, 0) h
  simpa [Blk] using this
theorem grown_row (w : World) (g : Nat) (cs : Array Value) : w.grownBy (w.setRow g cs) (some g) :=
  ⟨rfl, rfl, rfl, by simp, fun k _ hk => setRow_other w g k cs (by simpa using hk)⟩
theorem grown_below {B : Nat} (hg : w.grownBy w' (some g)) (hB : B ≤ g) (hs : B ≤ w.heap.size) : Below B w w' := (Below.refl B w).grown hg hs (fun k hk => by cases hk; exact hB)
theorem grown_of_below (hb : Below w.heap.size w w') (row : Option Nat) : w.grownBy w' row := ⟨hb.os, hb.tape, hb.output, hb.size, fun k hk _ => hb.block k hk⟩
end
end Go.Proofs.Ytkpgijmpaklfgaa
