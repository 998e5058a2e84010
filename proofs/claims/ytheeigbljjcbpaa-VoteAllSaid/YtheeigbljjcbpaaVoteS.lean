/- The document's Add of votes: small laws, what is appended. -/
import Derived.Test.YtheeigbljjcbpaaVoteR
import Derived.Test.YtheeigbljjcbpaaLogM
namespace Go.Proofs.Ytheeigbljjcbpaa
open Go.RowKit PVote

/-- A vote is loaded in a region that draws. -/
theorem run_loadRV {w : World} {dst : Option Tmp} {x : Operand} {ty : TypeId} {pos : String} {after : Array Edge} {guard : Option (Nat × Bool)} {ρ : Operand → Value} {b o : Nat} {fr last com : Int} {A : Option Addr} {n c : Nat}
    (hr : w.rangeAt b o [.int .i64 fr, .int .i64 last, .slice A n c, .int .i64 com]) (hx : ρ x = .pointer (some ⟨b, o, none⟩)) :
    (execOp ρ { dst, op := .load 36 x, type := ty, pos, after, guard }).run Try.prog w = .ok (.value (.agg #[.int .i64 fr, .int .i64 last, .slice A n c, .int .i64 com])) w := by
  have := run_loadAt_mid (P := Try.prog) w b o 36 [.int .i64 fr, .int .i64 last, .slice A n c, .int .i64 com] _ hr Try.underlying36 rfl (by kernel_rfl)
  unfold execOp
  simp only [hx, Sem.run_bind, this, Result.andThen_ok, Sem.run_pure]
theorem run_loadRS {w : World} {dst : Option Tmp} {x : Operand} {ty : TypeId} {pos : String} {after : Array Edge} {guard : Option (Nat × Bool)} {ρ : Operand → Value} {p : Addr} {A : Option Addr} {n c : Nat}
    (h : w.cell? p = some (.slice A n c)) (hx : ρ x = .pointer (some p)) : (execOp ρ { dst, op := .load 27 x, type := ty, pos, after, guard }).run Try.prog w = .ok (.value (.slice A n c)) w := by
  go_simp
theorem run_storeRS {w : World} {dst : Option Tmp} {x y : Operand} {ty : TypeId} {pos : String} {after : Array Edge} {guard : Option (Nat × Bool)} {ρ : Operand → Value} {g i : Nat} {A A' : Option Addr} {n c n' c' : Nat}
    (h : w.cell? ⟨g, i, none⟩ = some (.slice A' n' c')) (hf : w.frozen? ⟨g, i, none⟩ = false) (hx : ρ x = .pointer (some ⟨g, i, none⟩)) (hy : ρ y = .slice A n c) :
    (execOp ρ { dst, op := .store 27 x y, type := ty, pos, after, guard }).run Try.prog w = .ok .skip (w.setCell ⟨g, i, none⟩ (.slice A n c)) := by
  go_simp

/-- What a call leaves that writes the document's votes at block g, whose blocks were F. -/
structure RsW (w w' : World) (g : Nat) (F : List Nat) (view n : Int) (L : List Vt) : Prop where
  ex : ∃ F', Rs w' g F' view n L ∧ ∀ k ∈ F', k ∈ F ∨ w.heap.size ≤ k
  touch : Touch F w w'
theorem RsW.same {w w' : World} {g : Nat} {F : List Nat} {view n : Int} {L : List Vt} (h : Rs w g F view n L) (hb : Below w.heap.size w w') : RsW w w' g F view n L := ⟨⟨F, h.past hb, fun _ hk => .inl hk⟩, .of_below hb⟩
theorem Rs.app {w w0 w2 : World} {g : Nat} {view n : Int} {A A2 : Option Addr} {c c2 : Nat} {P : List Vp} {p : Vp} (hb : Below w0.heap.size w0 w) (hB : Blk w g 29 [.int .i64 view, .int .i64 n, .slice A P.length c]) (hO : Ow w 0 36 4 A P.length c (vrs P))
    (hE : ∀ q ∈ P, Ow w 0 52 7 q.A q.m.es.length q.c (els q.m.es)) (hp : Ow w 0 52 7 p.A p.m.es.length p.c (els p.m.es))
    (hg : w.grownBy w2 (bk A)) (hA : ∀ k, bk A2 = some k → bk A = some k ∨ w.heap.size ≤ k) (hO2 : Ow w2 0 36 4 A2 (P.length + 1) c2 (vrs P ++ vcs p)) :
    RsW w0 (w2.setCell ⟨g, 2, none⟩ (.slice A2 (P.length + 1 : Nat) c2)) g (g :: bl A) view n (P.map Vp.m ++ [p.m]) := by
  have hne : bk A ≠ some g := hO.ne hB (by decide)
  have hTA : Touch (bl A) w w2 := Touch.of_bk hg
  have hB2 : Blk w2 g 29 [.int .i64 view, .int .i64 n, .slice A P.length c] := hB.touch hTA (fun hm => hne (mem_bl.1 hm))
  have hs := Touch.of_grown (grown_set w2 g 2 (.slice A2 (P.length + 1 : Nat) c2))
  have hp1 : ∀ s ∈ bl A, ∃ t ys, Blk w s t ys ∧ t ≠ 52 := fun s hs => by
    obtain ⟨ys, hy⟩ := hO.blk (mem_bl.1 hs)
    exact ⟨_, _, hy, by decide⟩
  have keep : ∀ {q : Vp}, Ow w 0 52 7 q.A q.m.es.length q.c (els q.m.es) → Ow (w2.setCell ⟨g, 2, none⟩ (.slice A2 (P.length + 1 : Nat) c2)) 0 52 7 q.A q.m.es.length q.c (els q.m.es) := fun h =>
    (h.other hTA hp1).other hs (fun s hm => by rw [List.mem_singleton.1 hm]; exact ⟨_, _, hB2, by decide⟩)
  refine ⟨⟨g :: bl A2, ⟨A2, c2, P ++ [p], by simp, ?_, ?_, fun q hq => ?_, rfl⟩, fun k hk => ?_⟩, ((Touch.of_below hb).trans (hTA.wide (fun k hk => List.mem_cons_of_mem _ hk))).trans (hs.wide (by simp))⟩
  · have := hB2.set 2 (.slice A2 (P.length + 1 : Nat) c2)
    rw [show (P ++ [p]).length = P.length + 1 by simp]; exact this
  · rw [show (P ++ [p]).length = P.length + 1 by simp, vrs_append, vrs_one]
    exact hO2.other hs (fun s hm => by rw [List.mem_singleton.1 hm]; exact ⟨_, _, hB2, by decide⟩)
  · rcases List.mem_append.1 hq with hq | hq
    · exact keep (hE q hq)
    · rw [List.mem_singleton.1 hq]; exact keep hp
  · rcases List.mem_cons.1 hk with rfl | hk
    · exact .inl (List.mem_cons_self ..)
    · rcases hA k (mem_bl.1 hk) with q | q
      · exact .inl (List.mem_cons_of_mem _ (mem_bl.2 q))
      · exact .inr (Nat.le_trans hb.size q)
end Go.Proofs.Ytheeigbljjcbpaa
