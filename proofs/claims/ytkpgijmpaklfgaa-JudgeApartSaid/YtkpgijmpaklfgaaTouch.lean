/- What a call leaves: 'Touch S w w'': of the old blocks those of the list S alone may hold other cells. No program is named here. -/
import Derived.Test.YtkpgijmpaklfgaaBlk
namespace Go.Proofs.Ytkpgijmpaklfgaa
open Go.RowKit

structure Touch (S : List Nat) (w w' : World) : Prop where
  os : w'.os = w.os
  tape : w'.tape = w.tape
  output : w'.output = w.output
  size : w.heap.size ≤ w'.heap.size
  block : ∀ k, k < w.heap.size → k ∉ S → w'.heap[k]? = w.heap[k]?

section
variable {S S' : List Nat} {a b c w w' : World} {g : Nat} {e : TypeId} {xs : List Value}
theorem Touch.refl (S : List Nat) (w : World) : Touch S w w := ⟨rfl, rfl, rfl, Nat.le_refl _, fun _ _ _ => rfl⟩
theorem Touch.trans (h : Touch S a b) (k : Touch S b c) : Touch S a c :=
  ⟨k.os.trans h.os, k.tape.trans h.tape, k.output.trans h.output, Nat.le_trans h.size k.size, fun i hi hs => (k.block i (Nat.lt_of_lt_of_le hi h.size) hs).trans (h.block i hi hs)⟩
theorem Touch.wide (h : Touch S a b) (hs : ∀ k ∈ S, k ∈ S') : Touch S' a b := ⟨h.os, h.tape, h.output, h.size, fun k hk hn => h.block k hk fun hm => hn (hs k hm)⟩
theorem Touch.of_grown (h : w.grownBy w' (some g)) : Touch [g] w w' := ⟨h.os, h.tape, h.output, h.size, fun k hk hn => h.block k hk (by simpa using hn)⟩
theorem Touch.of_below (h : Below w.heap.size w w') : Touch S w w' := ⟨h.os, h.tape, h.output, h.size, fun k hk _ => h.block k hk⟩
theorem Touch.of_grown_none {row : Option Nat} (h : w.grownBy w' row) (hr : ∀ k, row = some k → k ∈ S) : Touch S w w' := ⟨h.os, h.tape, h.output, h.size, fun k hk hn => h.block k hk fun hr' => hn (hr k hr'.symm)⟩
theorem Touch.drew (h : Touch S a w) : Touch S a w.drew := ⟨h.os, h.tape, h.output, h.size, h.block⟩
theorem Touch.alloc (h : Touch S a w) (o : Obj) : Touch S a (w.alloc o) := h.trans (.of_below ((Below.refl _ _).alloc (Nat.le_refl _) _))
theorem Touch.cell (h : Touch S a w) (hg : g ∈ S) (i : Nat) (v : Value) : Touch S a (w.setCell ⟨g, i, none⟩ v) := h.trans ((Touch.of_grown (grown_set w g i v)).wide (by simpa using hg))
theorem Touch.below {B : Nat} (h : Touch S w w') (hs : ∀ k ∈ S, B ≤ k) (hB : B ≤ w.heap.size) : Below B w w' :=
  ⟨h.os, h.tape, h.output, h.size, fun k hk => h.block k (by omega) fun hm => by have := hs k hm; omega⟩
theorem Blk.touch (h : Blk w g e xs) (ht : Touch S w w') (hg : g ∉ S) : Blk w' g e xs := (ht.block g h.lt hg).trans h
/-- Blocks of two types are two. -/
theorem Blk.ne {g' : Nat} {e' : TypeId} {xs' : List Value} (h : Blk w g e xs) (h' : Blk w g' e' xs') (he : e ≠ e') : g ≠ g' := by
  rintro rfl
  have := h.symm.trans h'
  simp at this
  exact he this.2
theorem Blk.same {e' : TypeId} {xs' : List Value} (h : Blk w g e xs) (h' : Blk w g e' xs') : xs = xs' := by
  have := h.symm.trans h'
  simp at this
  exact this.1
/-- What is owned, behind a call that wrote blocks of other types. -/
theorem own_touch {base k n : Nat} {v : Value} (h : w.ownsRow base e k v n xs) (ht : Touch S w w') (hs : ∀ g ∈ S, ∀ ys, ¬ Blk w g e ys) : w'.ownsRow base e k v n xs := by
  obtain ⟨h1, h2⟩ := h
  refine ⟨h1, ?_⟩
  rcases h2 with h2 | ⟨g, cap, cur, hv, hg, hh, r⟩
  · exact .inl h2
  · refine .inr ⟨g, cap, cur, hv, hg, ?_, r⟩
    rw [ht.block g (Array.getElem?_eq_some_iff.1 hh).1 fun hm => hs g hm cur.toList (by simpa [Blk] using hh)]
    exact hh
theorem own_base {base base' k n : Nat} {v : Value} (h : w.ownsRow base e k v n xs) (hb : base' ≤ base) : w.ownsRow base' e k v n xs := by
  obtain ⟨h1, h2⟩ := h
  refine ⟨h1, ?_⟩
  rcases h2 with h2 | ⟨g, cap, cur, hv, hg, r⟩
  · exact .inl h2
  · exact .inr ⟨g, cap, cur, hv, by omega, r⟩
end
end Go.Proofs.Ytkpgijmpaklfgaa
