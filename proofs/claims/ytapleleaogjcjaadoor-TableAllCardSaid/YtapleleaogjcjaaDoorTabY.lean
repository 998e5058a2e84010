/- The program's table beside the document's. -/
import Derived.Test.YtapleleaogjcjaaDoorTabX
import Derived.Test.YtapleleaogjcjaaDoorTabV
import Derived.Test.YtapleleaogjcjaaDoorTabU
namespace Go.Proofs.YtapleleaogjcjaaDoor
open Go.RowKit PTab

theorem doo_len (L : List Pr) (e : Ent) : (doo L e).length ≤ L.length + 1 := by
  unfold doo
  split
  · split
    · next p _ _ => exact Nat.le_trans (ins_len p.1 p.2 L _) (by split <;> omega)
    · omega
  · omega
/-- Both tables: apart; made behind the law's beginning. -/
structure Ta (w0 w : World) (g : Nat) (F : List Nat) (c : Nat) (L : List Pr) (g2 : Nat) (F2 : List Nat) (M : List Pr) : Prop where
  tx : Tx w0 w g F c L
  rt : Rt w g2 F2 M
  low : ∀ k ∈ F2, w0.heap.size ≤ k
  sep : ∀ k ∈ F, k ∉ F2
section
variable {w0 w w' : World} {g g2 c : Nat} {F F2 : List Nat} {L M : List Pr}
theorem Ta.past (h : Ta w0 w g F c L g2 F2 M) (hb : Below w.heap.size w w') : Ta w0 w' g F c L g2 F2 M := ⟨h.tx.past hb, h.rt.past hb, h.low, h.sep⟩
theorem Ta.drew (h : Ta w0 w g F c L g2 F2 M) : Ta w0 w.drew g F c L g2 F2 M := ⟨h.tx.drew, h.rt.drew, h.low, h.sep⟩
theorem Ta.go1 (h : Ta w0 w g F c L g2 F2 M) (e : Ent) (hd : e.data.size ≤ 1000000) (hc : c < 1000000) :
    Calls Tryd.prog 11 #[.pointer (some ⟨g, 0, none⟩), ev e] w fun x w' => ∃ F', x = .returned (.bool (did e)) ∧ Ta w0 w' g F' (c + 1) (doo L e) g2 F2 M ∧ (∀ k ∈ F', k ∈ F ∨ w.heap.size ≤ k) ∧ Touch F w w' := by
  refine (h.tx.go e hd hc).mono ?_
  rintro x w' ⟨F', rfl, h1, h2, h3⟩
  refine ⟨F', rfl, ⟨h1, h.rt.touch h3 h.sep, h.low, fun k hk hm => ?_⟩, h2, h3⟩
  rcases h2 k hk with q | q
  · exact h.sep k q hm
  · have := h.rt.hi k hm; omega
theorem Ta.go2 (h : Ta w0 w g F c L g2 F2 M) (e : Ent) (hd : e.data.size ≤ 1000000) (hM : M.length ≤ 1000000) :
    Calls Tryd.prog 12 #[.pointer (some ⟨g2, 0, none⟩), ev e] w fun x w' => ∃ F', x = .returned (.bool (did e)) ∧ Ta w0 w' g F c L g2 F' (doo M e) ∧ (∀ k ∈ F', k ∈ F2 ∨ w.heap.size ≤ k) ∧ Touch F2 w w' := by
  refine (rDo_c w g2 F2 M h.rt hM e hd).mono ?_
  rintro x w' ⟨rfl, ⟨F', h1, h2⟩, h3⟩
  have hs : ∀ k ∈ F2, k ∉ F := fun k hk hm => h.sep k hm hk
  refine ⟨F', rfl, ⟨h.tx.touch h3 (fun k hk => ⟨hs k hk, h.low k hk⟩), h1, fun k hk => ?_, fun k hk hm => ?_⟩, h2, h3⟩
  · rcases h2 k hk with q | q
    · exact h.low k q
    · exact Nat.le_trans h.tx.bel.size q
  · rcases h2 k hm with q | q
    · exact h.sep k hk q
    · have := h.tx.tb.hi k hk; omega
/-- A block of another type is none of theirs. -/
theorem Rt.ne {k : Nat} {e : TypeId} {xs : List Value} (h : Rt w g F2 M) (hB : Blk w k e xs) (h1 : e ≠ 29) (h2 : e ≠ 42) : k ∉ F2 := by
  obtain ⟨A, c, hg, hO, rfl⟩ := h.ex
  intro hk
  rcases List.mem_cons.1 hk with hk | hk
  · exact hB.ne hg h1 hk
  · exact hO.ne hB (Ne.symm h2) (mem_bl.1 hk)
end
end Go.Proofs.YtapleleaogjcjaaDoor
