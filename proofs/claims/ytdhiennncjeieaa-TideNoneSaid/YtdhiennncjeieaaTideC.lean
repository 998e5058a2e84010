/- A clock of a law's own: what a call leaves of it. begun. -/
import Derived.Test.YtdhiennncjeieaaTideB
namespace Go.Proofs.Ytdhiennncjeieaa
open Go.RowKit

/-- The clock at g is the law's own. -/
structure Cs (w0 w : World) (g : Nat) (now lag : Int) : Prop where
  bel : Below w0.heap.size w0 w
  own : w0.heap.size ≤ g
  td : Td w g now lag
  ok : PTide.Ok now lag
section
variable {w0 w w' : World} {g : Nat} {now lag : Int}
theorem bel_touch {B : Nat} {S : List Nat} (h : Below B w0 w) (t : Touch S w w') (hS : ∀ k ∈ S, B ≤ k) (hB : B ≤ w.heap.size) : Below B w0 w' := h.trans (t.below hS hB)
theorem Cs.mk' (h : Below w0.heap.size w0 w) (b : Below w.heap.size w w') (hd : Td w' w.heap.size now lag) (hk : PTide.Ok now lag) : Cs w0 w' w.heap.size now lag := ⟨h.trans (b.mono h.size), h.size, hd, hk⟩
theorem Cs.past (h : Cs w0 w g now lag) (b : Below w.heap.size w w') : Cs w0 w' g now lag := ⟨h.bel.trans (b.mono h.bel.size), h.own, Blk.past h.td b, h.ok⟩
theorem Cs.alloc (h : Cs w0 w g now lag) (o : Obj) : Cs w0 (w.alloc o) g now lag := h.past ((Below.refl _ _).alloc (Nat.le_refl _) _)
theorem Cs.go (h : Cs w0 w g now lag) {n : Int} (hd : Td w' g (PTide.goN now lag n) (PTide.goL lag n)) (t : Touch [g] w w') : Cs w0 w' g (PTide.goN now lag n) (PTide.goL lag n) :=
  ⟨bel_touch h.bel t (by simpa using h.own) h.bel.size, h.own, hd, (PTide.go_ok h.ok n).1⟩
theorem Cs.right (h : Cs w0 w g now lag) {lo hi : Int} (hd : Td w' g (PTide.riN now lo hi) (PTide.riL now lag lo hi)) (t : Touch [g] w w') : Cs w0 w' g (PTide.riN now lo hi) (PTide.riL now lag lo hi) :=
  ⟨bel_touch h.bel t (by simpa using h.own) h.bel.size, h.own, hd, (PTide.ri_ok h.ok lo hi).1⟩
end

theorem begun_c (w : World) :
    Calls Try.prog 8 #[] w fun e w' => e = .returned (.bool true) ∧ Below w.heap.size w w' := by
  go_enter Try.func8, Try.ntmps8
  go_wp2_with fail
  refine (new_c w 10).mono ?_
  rintro e w1 ⟨rfl, d1, b1⟩
  have C1 := Cs.mk' (Below.refl _ w) b1 d1 (PTide.new_ok 10)
  rw [show PTide.newN 10 = 10 by decide] at C1
  clear d1 b1
  generalize w.heap.size = g at C1
  go_wp2_with fail
  refine (go_c _ g 10 0 C1.td C1.ok 5).mono ?_
  rintro e w2 ⟨rfl, d2, t2⟩
  have C2 := C1.go d2 t2
  rw [show PTide.goN 10 0 5 = 15 by decide, show PTide.goL 0 5 = 0 by decide] at C2
  rw [show PTide.goN 10 0 5 = 15 by decide]
  clear d2 t2 C1
  go_wp2_with fail
  refine (right_c _ g 15 0 C2.td C2.ok 5 11).mono ?_
  rintro e w3 ⟨rfl, d3, t3⟩
  have C3 := C2.right d3 t3
  rw [show PTide.riN 15 5 11 = 15 by decide, show PTide.riL 15 0 5 11 = 4 by decide] at C3
  rw [show PTide.riN 15 5 11 = 15 by decide]
  clear d3 t3 C2
  go_wp2_with fail
  refine (go_c _ g 15 4 C3.td C3.ok 4).mono ?_
  rintro e w4 ⟨rfl, d4, t4⟩
  have C4 := C3.go d4 t4
  rw [show PTide.goN 15 4 4 = 17 by decide, show PTide.goL 4 4 = 2 by decide] at C4
  rw [show PTide.goN 15 4 4 = 17 by decide]
  clear d4 t4 C3
  go_wp2_with fail
  refine (right_c _ g 17 2 C4.td C4.ok 20 30).mono ?_
  rintro e w5 ⟨rfl, d5, t5⟩
  have C5 := C4.right d5 t5
  rw [show PTide.riN 17 20 30 = 20 by decide, show PTide.riL 17 2 20 30 = 0 by decide] at C5
  rw [show PTide.riN 17 20 30 = 20 by decide]
  clear d5 t5 C4
  go_wp2_with fail
  refine (now_c _ g 20 0 C5.td).mono ?_
  rintro e w6 ⟨rfl, rfl⟩
  go_wp2_with fail
  refine (lag_c _ g 20 0 C5.td).mono ?_
  rintro e w6 ⟨rfl, rfl⟩
  go_wp2_with fail
  go_ret
  exact ⟨rfl, C5.bel⟩
end Go.Proofs.Ytdhiennncjeieaa
