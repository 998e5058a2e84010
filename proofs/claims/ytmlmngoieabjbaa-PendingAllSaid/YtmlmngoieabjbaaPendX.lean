/- The law's pending, the document's own and the list of what was added, side by side. -/
import Derived.Test.YtmlmngoieabjbaaPendK
namespace Go.Proofs.Ytmlmngoieabjbaa
open Go.RowKit PPend

structure Ax (w0 w : World) (g g2 : Nat) (fr boot s : Int) (L : List Ent) (F : List Nat) (AA : Option Addr) (na ca : Nat) (AL : List Ent) : Prop where
  p : Lp w0 w g fr boot s L
  r : Rn w g2 F fr boot s L
  f : ∀ k ∈ F, w0.heap.size ≤ k
  a : Ow w w0.heap.size 35 7 AA na ca (els AL)
  d : ∀ k ∈ bl AA, k ∉ F
section
variable {w0 w w' w1 w2 : World} {g g2 na ca ca' k : Nat} {fr boot s s' : Int} {L L' AL : List Ent} {F : List Nat} {AA AA' : Option Addr} {e : Ent} {t : TypeId} {ys : List Value}
theorem Ax.past (h : Ax w0 w g g2 fr boot s L F AA na ca AL) (b : Below w.heap.size w w') : Ax w0 w' g g2 fr boot s L F AA na ca AL := ⟨h.p.past b, h.r.past b, h.f, h.a.past b, h.d⟩
theorem Ax.drew (h : Ax w0 w g g2 fr boot s L F AA na ca AL) : Ax w0 w.drew g g2 fr boot s L F AA na ca AL := h.past (Below.refl _ _).drew
theorem Ax.alloc (h : Ax w0 w g g2 fr boot s L F AA na ca AL) (o : Obj) : Ax w0 (w.alloc o) g g2 fr boot s L F AA na ca AL := h.past ((Below.refl _ _).alloc (Nat.le_refl _) _)
theorem Ax.gF (h : Ax w0 w g g2 fr boot s L F AA na ca AL) : g ∉ F := by
  obtain ⟨ys, hb⟩ := h.p.p.blk
  exact h.r.not hb (by decide) (by decide)
theorem Ax.gA (h : Ax w0 w g g2 fr boot s L F AA na ca AL) : bk AA ≠ some g := by
  obtain ⟨ys, hb⟩ := h.p.p.blk
  exact h.a.ne hb (by decide)
theorem Ax.alen (h : Ax w0 w g g2 fr boot s L F AA na ca AL) : AL.length = na := h.a.rd.elen
/-- Behind a write of another block of the law's own. -/
theorem Ax.aside (h : Ax w0 w g g2 fr boot s L F AA na ca AL) (ht : Touch [k] w w') (hB : Blk w k t ys) (h1 : t ≠ 49) (h2 : t ≠ 29) (h3 : t ≠ 35) (hk : w0.heap.size ≤ k) : Ax w0 w' g g2 fr boot s L F AA na ca AL := by
  obtain ⟨zs, hb⟩ := h.p.p.blk
  refine ⟨h.p.far ht (by simpa using hk) (by rw [List.mem_singleton]; exact (hB.ne hb h1).symm), h.r.touch ht (fun q hq => by rw [List.mem_singleton] at hq; subst hq; exact h.r.not hB h2 h3), h.f, h.a.touch ht (fun q hq => by rw [List.mem_singleton] at hq; subst hq; exact h.a.ne hB h3.symm), h.d⟩
/-- Behind a call of the program's pending: the document's own. -/
theorem Ax.ref (h : Ax w0 w g g2 fr boot s L F AA na ca AL) (t1 : Touch [g] w w1) : Rn w1 g2 F fr boot s L := h.r.touch t1 (fun q hq => by rw [List.mem_singleton] at hq; subst hq; exact h.gF)
/-- Behind a call of either. -/
theorem Ax.both (h : Ax w0 w g g2 fr boot s L F AA na ca AL) (p1 : Lp w0 w1 g fr boot s' L') (t1 : Touch [g] w w1) (r2 : RnW w1 w2 g2 F fr boot s' L') : ∃ F', Ax w0 w2 g g2 fr boot s' L' F' AA na ca AL := by
  obtain ⟨⟨F', hr, hF⟩, tF⟩ := r2
  refine ⟨F', p1.far tF h.f h.gF, hr, fun k hk => ?_, ?_, fun k hk hm => ?_⟩
  · rcases hF k hk with q | q
    · exact h.f k q
    · exact Nat.le_trans p1.bel.size q
  · exact (h.a.touch t1 (fun q hq => by rw [List.mem_singleton] at hq; subst hq; exact h.gA)).touch tF (fun q hq hk => h.d q (mem_bl.2 hk) hq)
  · rcases hF k hm with q | q
    · exact h.d k hk q
    · have := h.a.hi k (mem_bl.1 hk)
      have := t1.size
      omega
/-- Behind an append to the list of what was added. -/
theorem Ax.push (h : Ax w0 w g g2 fr boot s L F AA na ca AL) (O : Ow w' w0.heap.size 35 7 AA' (na + 1) ca' (els AL ++ ecs e)) (gb : w.grownBy w' (bk AA)) (hA : ∀ k, bk AA' = some k → bk AA = some k ∨ w.heap.size ≤ k) :
    Ax w0 w' g g2 fr boot s L F AA' (na + 1) ca' (AL ++ [e]) := by
  have tA := Touch.of_bk gb
  refine ⟨h.p.far tA (fun q hq => h.a.low q (mem_bl.1 hq)) (fun hm => h.gA (mem_bl.1 hm)), h.r.touch tA h.d, h.f, ?_, fun k hk hm => ?_⟩
  · rw [els_append]; exact O
  · rcases hA k (mem_bl.1 hk) with q | q
    · exact h.d k (mem_bl.2 q) hm
    · have := h.r.hi k hm
      omega
end
section
variable {w : World} {g2 : Nat} {fr boot s : Int} {L : List Ent} {F : List Nat}
theorem Rn.form (h : Rn w g2 F fr boot s L) (h0 : 0 ≤ s) (h1 : s ≤ 1099511627776) (ord lev : Int) (d : ByteArray) (e : Ent) (he : nxt fr boot s ord lev d = e) (hm : PEnt.may e = false) :
    Calls Try.prog 10 #[.pointer (some ⟨g2, 0, none⟩), .int .i64 ord, .int .i64 lev, .string d] w fun x w' => x = .returned (.tuple #[ev zeroE, .int .i64 1]) ∧ Below w.heap.size w w' :=
  (rnadd_c w g2 F fr boot s L h ord lev d h0 h1 e he).mono fun _ _ hp => by
    rcases hp with ⟨_, h1, h2⟩ | ⟨h1, _⟩ | ⟨h1, _⟩
    · exact ⟨h1, h2⟩
    · rw [hm] at h1; cases h1
    · rw [hm] at h1; cases h1
theorem Rn.busy (h : Rn w g2 F fr boot s L) (h0 : 0 ≤ s) (h1 : s ≤ 1099511627776) (ord lev : Int) (d : ByteArray) (e : Ent) (he : nxt fr boot s ord lev d = e) (hm : PEnt.may e = true) (hl : 4 ≤ L.length) :
    Calls Try.prog 10 #[.pointer (some ⟨g2, 0, none⟩), .int .i64 ord, .int .i64 lev, .string d] w fun x w' => x = .returned (.tuple #[ev zeroE, .int .i64 9]) ∧ Below w.heap.size w w' :=
  (rnadd_c w g2 F fr boot s L h ord lev d h0 h1 e he).mono fun _ _ hp => by
    rcases hp with ⟨h1, _⟩ | ⟨_, _, h1, h2⟩ | ⟨_, h1, _⟩
    · rw [hm] at h1; cases h1
    · exact ⟨h1, h2⟩
    · omega
theorem Rn.add (h : Rn w g2 F fr boot s L) (h0 : 0 ≤ s) (h1 : s ≤ 1099511627776) (ord lev : Int) (d : ByteArray) (e : Ent) (he : nxt fr boot s ord lev d = e) (hm : PEnt.may e = true) (hl : L.length < 4) :
    Calls Try.prog 10 #[.pointer (some ⟨g2, 0, none⟩), .int .i64 ord, .int .i64 lev, .string d] w fun x w' => x = .returned (.tuple #[ev e, .int .i64 0]) ∧ RnW w w' g2 F fr boot (s + 1) (L ++ [e]) :=
  (rnadd_c w g2 F fr boot s L h ord lev d h0 h1 e he).mono fun _ _ hp => by
    rcases hp with ⟨h1, _⟩ | ⟨_, h1, _⟩ | ⟨_, _, h1, h2⟩
    · rw [hm] at h1; cases h1
    · omega
    · exact ⟨h1, h2⟩
end
end Go.Proofs.Ytmlmngoieabjbaa
