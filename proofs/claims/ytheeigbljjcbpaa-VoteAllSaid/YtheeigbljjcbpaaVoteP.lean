/- 'Ov': a row of votes of the law's own, with their entries; a vote is built, loaded, appended. -/
import Derived.Test.YtheeigbljjcbpaaVoteB
namespace Go.Proofs.Ytheeigbljjcbpaa
open Go.RowKit PVote

theorem vote_info : (Try.prog.info? 32).map (fun i => (i.zero, i.size, i.bytes)) = some (some (vv zero none 0), 4, 48) := by kernel_rfl
/-- '[]Vote{x}'. -/
theorem wpList_buildV {w : World} {ops : Array Oper} {rest : List Oper} {o : Oper} {a : Act} {Q : Exit → Act → World → Prop} (hgd : o.guard = none) (t e : TypeId) (ht : Try.prog.underlying t = some (.slice e)) (hi : (Try.prog.info? e).map (fun i => (i.zero, i.size, i.bytes)) = some (some (vv zero none 0), 4, 48))
    (x : Operand) (ho : o.op = .buildSlice t 1 #[(0, x)]) (fr last com : Int) (A : Option Addr) (n c : Nat) (hx : a.eval x = .agg #[.int .i64 fr, .int .i64 last, .slice A n c, .int .i64 com])
    (h : wpList Try.prog ops Q rest (a.put o.dst (.slice (some ⟨w.heap.size, 0, none⟩) 1 1)) (w.alloc (.cells #[.int .i64 fr, .int .i64 last, .slice A n c, .int .i64 com] e))) : wpList Try.prog ops Q (o :: rest) a w := by
  obtain ⟨i, hi0, hz, hk, -⟩ := info_parts hi
  refine wpList_buildSlice hgd t e 1 _ ho #[.int .i64 fr, .int .i64 last, .slice A n c, .int .i64 com] i (vv zero none 0) ht hi0 hz (by rw [hk]; omega) (by rw [hk]; omega) ?_ h
  rw [hk]
  have hb : (Array.range (1 * 4)).map (fun x => (vv zero none 0).cells[x % (vv zero none 0).cells.size]!) = #[.int .i64 0, .int .i64 0, .slice none 0 0, .int .i64 0] := by kernel_rfl
  rw [hb]
  simp [Instr.fill, Value.cells, hx]

/-- A row of votes of the law's own (above base). -/
structure Ov (w : World) (base : Nat) (A : Option Addr) (c : Nat) (O : List Vp) : Prop where
  row : Ow w base 32 4 A O.length c (vrs O)
  ents : ∀ p ∈ O, Ow w 0 52 7 p.A p.m.es.length p.c (els p.m.es)
section
variable {w w' : World} {base c g : Nat} {A : Option Addr} {O : List Vp} {S : List Nat}
theorem Ov.nil (w : World) (base : Nat) : Ov w base none 0 [] := ⟨Ow.nil _ _ _ _, by simp⟩
theorem Ov.touch (h : Ov w base A c O) (ht : Touch S w w') (h1 : ∀ s ∈ S, ∃ t ys, Blk w s t ys ∧ t ≠ 32) (h2 : ∀ s ∈ S, ∃ t ys, Blk w s t ys ∧ t ≠ 52) : Ov w' base A c O :=
  ⟨h.row.other ht h1, fun q hq => (h.ents q hq).other ht h2⟩
theorem Ov.past (h : Ov w base A c O) (hb : Below w.heap.size w w') : Ov w' base A c O := h.touch (S := []) (.of_below hb) (by simp) (by simp)
theorem Ov.alloc (h : Ov w base A c O) (o : Obj) : Ov (w.alloc o) base A c O := h.past ((Below.refl _ _).alloc (Nat.le_refl _) _)
/-- Behind a write of a block of another type. -/
theorem Ov.far {x : Nat} {e : TypeId} {ys : List Value} (h : Ov w base A c O) (K : Blk w x e ys) (ht : Touch [x] w w') (h1 : e ≠ 32) (h2 : e ≠ 52) : Ov w' base A c O :=
  h.touch ht (fun s hs => by rw [List.mem_singleton.1 hs]; exact ⟨e, ys, K, h1⟩) (fun s hs => by rw [List.mem_singleton.1 hs]; exact ⟨e, ys, K, h2⟩)
/-- The one at place i. -/
theorem Ov.at_ (h : Ov w base A c O) {i : Nat} (hi : i < O.length) : ∃ b q, A = some ⟨b, 0, none⟩ ∧ O[i]? = some q ∧ q ∈ O ∧ w.rangeAt b (i * 4) [.int .i64 q.m.fr, .int .i64 q.m.last, .slice q.A q.m.es.length q.c, .int .i64 q.m.com] ∧ Rd w w.heap.size q.A q.c 7 q.m.es.length (els q.m.es) := by
  obtain ⟨b, hA, -, -⟩ := h.row.some (by omega)
  have he : O[i]? = some O[i] := List.getElem?_eq_getElem hi
  refine ⟨b, O[i], hA, he, List.getElem_mem _, fun j v hv => ?_, (h.ents _ (List.getElem_mem _)).rd⟩
  have hj : j < 4 := (List.getElem?_eq_some_iff.1 hv).1
  exact (h.row.cell hA (by rw [vrs_at he hj]; exact hv)).1
/-- One more. -/
theorem Ov.push {A2 : Option Addr} {c2 : Nat} {w2 : World} (h : Ov w base A c O) (p : Vp) (hp : Ow w 0 52 7 p.A p.m.es.length p.c (els p.m.es)) (hg : w.grownBy w2 (bk A)) (hO : Ow w2 base 32 4 A2 (O.length + 1) c2 (vrs O ++ vcs p)) : Ov w2 base A2 c2 (O ++ [p]) := by
  have ht : Touch (bl A) w w2 := Touch.of_bk hg
  have hn : ∀ s ∈ bl A, ∃ t ys, Blk w s t ys ∧ t ≠ 52 := fun s hs => by
    obtain ⟨ys, hy⟩ := h.row.blk (mem_bl.1 hs)
    exact ⟨_, _, hy, by decide⟩
  refine ⟨?_, fun q hq => ?_⟩
  · rw [List.length_append, vrs_append, vrs_one]; exact hO
  · rcases List.mem_append.1 hq with hq | hq
    · exact (h.ents q hq).other ht hn
    · rw [List.mem_singleton.1 hq]; exact hp.other ht hn
end
/-- Its blocks are the votes' own, and entries'. -/
theorem Vs.kinds {w : World} {g : Nat} {F : List Nat} {view n : Int} {S : List (Option Vt)} (h : Vs w g F view n S) : ∀ k ∈ F, k = g ∨ ∃ ys, Blk w k 52 ys := by
  obtain ⟨P, _, hB, hO, rfl⟩ := h.ex
  intro k hk
  rcases List.mem_cons.1 hk with rfl | hk
  · exact .inl rfl
  · obtain ⟨p, hp, hk⟩ := List.mem_flatMap.1 hk
    exact .inr ((hO p hp).blk (mem_bl.1 hk))
/-- A block of another type is none of them. -/
theorem Vs.apart {w : World} {g x : Nat} {F : List Nat} {view n : Int} {S : List (Option Vt)} {e : TypeId} {xs : List Value} (h : Vs w g F view n S) (K : Blk w x e xs) (h1 : x ≠ g) (h2 : e ≠ 52) : x ∉ F := fun hx => by
  rcases h.kinds x hx with q | ⟨ys, q⟩
  · exact h1 q
  · exact K.ne q h2 rfl
end Go.Proofs.Ytheeigbljjcbpaa
