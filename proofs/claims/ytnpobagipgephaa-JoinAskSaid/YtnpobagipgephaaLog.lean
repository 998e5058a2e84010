/- 'Lg': the program's log at block g, with the blocks that are its own; 'Went': what a call that writes it leaves. -/
import Derived.Test.YtnpobagipgephaaEntZ
import Derived.Test.YtnpobagipgephaaPlainLog
import Derived.Test.YtnpobagipgephaaOw
import Derived.Test.YtnpobagipgephaaEntR
import Derived.Test.YtnpobagipgephaaEntC
namespace Go.Proofs.Ytnpobagipgephaa
open Go.RowKit

/-- The log at block g holds L; F are its blocks. -/
structure Lg (w : World) (g : Nat) (F : List Nat) (L : List Ent) : Prop where
  ex : ∃ A c, Blk w g 56 [.slice A L.length c] ∧ Ow w 0 47 7 A L.length c (els L) ∧ F = g :: bl A
  le : L.length ≤ 60

section
variable {w w' : World} {g : Nat} {F S : List Nat} {L : List Ent}
theorem Lg.hi (h : Lg w g F L) : ∀ k ∈ F, k < w.heap.size := by
  obtain ⟨A, c, hB, hO, rfl⟩ := h.ex
  intro k hk
  rcases List.mem_cons.1 hk with rfl | hk
  · exact hB.lt
  · exact hO.hi k (mem_bl.1 hk)
theorem Lg.touch (h : Lg w g F L) (ht : Touch S w w') (hd : ∀ k ∈ S, k ∉ F) : Lg w' g F L := by
  obtain ⟨A, c, hB, hO, rfl⟩ := h.ex
  exact ⟨⟨A, c, hB.touch ht (fun hm => hd g hm (List.mem_cons_self ..)), hO.touch ht (fun s hs e => hd s hs (List.mem_cons_of_mem _ (mem_bl.2 e))), rfl⟩, h.le⟩
theorem Lg.past (h : Lg w g F L) (hb : Below w.heap.size w w') : Lg w' g F L := h.touch (S := []) (.of_below hb) (by simp)
theorem Lg.drew (h : Lg w g F L) : Lg w.drew g F L := ⟨h.ex, h.le⟩
theorem Lg.alloc (h : Lg w g F L) (o : Obj) : Lg (w.alloc o) g F L := h.past ((Below.refl _ _).alloc (Nat.le_refl _) _)
theorem Lg.self (h : Lg w g F L) : g ∈ F := by obtain ⟨A, c, hB, hO, rfl⟩ := h.ex; exact List.mem_cons_self ..
/-- Its cell, its slice. -/
theorem Lg.open (h : Lg w g F L) : ∃ A c, w.cell? ⟨g, 0, none⟩ = some (.slice A L.length c) ∧ Rd w w.heap.size A c 7 L.length (els L) ∧ (∀ k, bk A = some k → k ∈ F) := by
  obtain ⟨A, c, hB, hO, rfl⟩ := h.ex
  exact ⟨A, c, hB.cell (i := 0) rfl, hO.rd, fun k hk => List.mem_cons_of_mem _ (mem_bl.2 hk)⟩

/-- What a call leaves that writes the log at block g, whose blocks were F. -/
structure Went (w w' : World) (g : Nat) (F : List Nat) (L : List Ent) : Prop where
  ex : ∃ F', Lg w' g F' L ∧ ∀ k ∈ F', k ∈ F ∨ w.heap.size ≤ k
  touch : Touch F w w'
theorem Went.same (h : Lg w g F L) (hb : Below w.heap.size w w') : Went w w' g F L := ⟨⟨F, h.past hb, fun _ hk => .inl hk⟩, .of_below hb⟩
/-- Behind a call that made memory of its own alone. -/
theorem Went.behind {w0 : World} (h : Went w w' g F L) (hb : Below w0.heap.size w0 w) : Went w0 w' g F L := by
  obtain ⟨⟨F', h1, h2⟩, h3⟩ := h
  exact ⟨⟨F', h1, fun k hk => (h2 k hk).imp id (fun h => Nat.le_trans hb.size h)⟩, (Touch.of_below hb).trans h3⟩
theorem Went.ahead {w2 : World} (h : Went w w' g F L) (hb : Below w'.heap.size w' w2) : Went w w2 g F L := by
  obtain ⟨⟨F', h1, h2⟩, h3⟩ := h
  exact ⟨⟨F', h1.past hb, h2⟩, h3.trans (.of_below hb)⟩
/-- Two such calls. -/
theorem Went.trans {w1 w2 : World} {F' : List Nat} {L' : List Ent} (hF : ∀ k ∈ F', k ∈ F ∨ w.heap.size ≤ k) (ht : Touch F w w1) (k : Went w1 w2 g F' L') : Went w w2 g F L' := by
  obtain ⟨⟨F2, h1, h2⟩, h3⟩ := k
  refine ⟨⟨F2, h1, fun k hk => ?_⟩, ⟨h3.os.trans ht.os, h3.tape.trans ht.tape, h3.output.trans ht.output, Nat.le_trans ht.size h3.size, fun k hk hn => ?_⟩⟩
  · rcases h2 k hk with q | q
    · exact hF k q
    · exact .inr (Nat.le_trans ht.size q)
  · refine (h3.block k (Nat.lt_of_lt_of_le hk ht.size) (fun hm => ?_)).trans (ht.block k hk hn)
    rcases hF k hm with q | q
    · exact hn q
    · omega
/-- Behind an append to its slice, stored. -/
theorem Lg.app {A A2 : Option Addr} {c c2 : Nat} {e : Ent} {w2 : World} (hB : Blk w g 56 [.slice A L.length c]) (hO : Ow w 0 47 7 A L.length c (els L)) (hl : L.length < 60)
    (hg : w.grownBy w2 (bk A)) (hA : ∀ k, bk A2 = some k → bk A = some k ∨ w.heap.size ≤ k) (hO2 : Ow w2 0 47 7 A2 (L.length + 1) c2 (els L ++ ecs e)) :
    Went w (w2.setRow g #[.slice A2 (L.length + 1) c2]) g (g :: bl A) (L ++ [e]) := by
  have hne : bk A ≠ some g := hO.ne hB (by decide)
  have hT : Touch (g :: bl A) w w2 := (Touch.of_bk hg).wide (fun k hk => List.mem_cons_of_mem _ hk)
  have hB2 : Blk w2 g 56 [.slice A L.length c] := hB.touch (Touch.of_bk hg) (fun hm => hne (mem_bl.1 hm))
  have hne2 : bk A2 ≠ some g := hO2.ne hB2 (by decide)
  have hs := Touch.of_grown (grown_row w2 g #[.slice A2 (L.length + 1) c2])
  refine ⟨⟨g :: bl A2, ⟨⟨A2, c2, ?_, ?_, rfl⟩, by simp; omega⟩, fun k hk => ?_⟩, hT.trans (hs.wide (by simp))⟩
  · have := hB2.row #[.slice A2 (L.length + 1) c2]
    simpa using this
  · have := hO2.touch hs (by simpa using hne2)
    have e1 : els (L ++ [e]) = els L ++ ecs e := by rw [els_append]; simp [els]
    rw [e1]; simpa using this
  · rcases List.mem_cons.1 hk with rfl | hk
    · exact .inl (List.mem_cons_self ..)
    · rcases hA k (mem_bl.1 hk) with q | q
      · exact .inl (List.mem_cons_of_mem _ (mem_bl.2 q))
      · exact .inr q
/-- Its slice is cut short, stored. -/
theorem Lg.short (h : Lg w g F L) {m : Nat} (hm : m ≤ L.length) : ∃ A c, w.cell? ⟨g, 0, none⟩ = some (.slice A L.length c) ∧ w.frozen? ⟨g, 0, none⟩ = false ∧ m ≤ c ∧ L.length ≤ c ∧
    Lg (w.setCell ⟨g, 0, none⟩ (.slice A m c)) g F (L.take m) ∧ Touch F w (w.setCell ⟨g, 0, none⟩ (.slice A m c)) := by
  obtain ⟨A, c, hB, hO, rfl⟩ := h.ex
  have hle := hO.le
  have hne : bk A ≠ some g := hO.ne hB (by decide)
  have hlm : (L.take m).length = m := by rw [List.length_take]; omega
  have hs := Touch.of_grown (grown_set w g 0 (.slice A m c))
  refine ⟨A, c, hB.cell (i := 0) rfl, hB.free 0, by omega, hle, ⟨⟨A, c, ?_, ?_, rfl⟩, by rw [hlm]; have := h.le; omega⟩, hs.wide (by simp)⟩
  · have := hB.set 0 (.slice A m c)
    rw [hlm]; simpa using this
  · have h2 := hO.touch hs (by simpa using hne)
    rw [hlm, ← els_take]
    have hl := h2.1
    refine ⟨by rw [List.length_take]; omega, ?_⟩
    rcases h2.2 with ⟨q1, q2, q3⟩ | ⟨g', Z, q1, q2, q3, q4, q5, q6⟩
    · exact .inl ⟨q1, by omega, q3⟩
    · refine .inr ⟨g', (els L).drop (m * 7) ++ Z, q1, q2, ?_, by omega, q5, ?_⟩
      · rw [← List.append_assoc, List.take_append_drop]; exact q3
      · rw [← List.append_assoc, List.take_append_drop]; exact q6
end
end Go.Proofs.Ytnpobagipgephaa
