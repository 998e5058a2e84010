/- The document's own proof: 'Rp'; contracts of its Ask, Get, Left, Drop. -/
import Derived.Test.YtfppngeldlpjiaaPrf
import Derived.Test.YtfppngeldlpjiaaHeldT
import Derived.Test.YtfppngeldlpjiaaRowK
import Derived.Great.BuildSlice
import Derived.BigRegion
import Derived.Deep.CutRange
import Derived.Tactics2
namespace Go.Proofs.Ytfppngeldlpjiaa
open Go.RowKit PProof

/-- Pairs of int64s, as cells. -/
def prs (l : List (Int × Int)) : List Value := l.flatMap fun q => [.int .i64 q.1, .int .i64 q.2]
theorem prs_len (l : List (Int × Int)) : (prs l).length = l.length * 2 := rows_len (k := 2) (fun _ => rfl) l
theorem prs_app (l m : List (Int × Int)) : prs (l ++ m) = prs l ++ prs m := List.flatMap_append
theorem prs_drop (l : List (Int × Int)) : (prs l).drop 2 = prs (l.drop 1) := rows_drop (k := 2) (fun _ => rfl) l 1
theorem prs_at {l : List (Int × Int)} {i : Nat} {q : Int × Int} (h : l[i]? = some q) : (prs l)[i * 2]? = some (.int .i64 q.1) ∧ (prs l)[i * 2 + 1]? = some (.int .i64 q.2) :=
  ⟨rows_at (k := 2) (fun _ => rfl) h (j := 0) (by omega), rows_at (k := 2) (fun _ => rfl) h (j := 1) (by omega)⟩
theorem prs_one (q : Int × Int) : ∀ u ∈ prs [q], u.oneCell' = true := by
  intro u hu
  have : u = .int .i64 q.1 ∨ u = .int .i64 q.2 := by simpa [prs] using hu
  rcases this with rfl | rfl <;> rfl

/-- The document's proof at g, with its list; all of it lies from base on. -/
structure Ro (w : World) (base g : Nat) (Aq : Option Addr) (c : Nat) (last : Int) (m : Nat) (A : List Int) (num rk rc : Int) : Prop where
  hb : base ≤ g
  bk : Blk w g 29 [.slice Aq m c, .int .i64 last, .int .i64 num, .int .i64 rk, .int .i64 rc]
  og : Og w base 47 2 Aq m c (prs (Lk last m A))
def Rp (w : World) (base g : Nat) (last : Int) (m : Nat) (A : List Int) (num rk rc : Int) : Prop := ∃ Aq c, Ro w base g Aq c last m A num rk rc
section
variable {w w' : World} {base g g2 m c : Nat} {last num rk rc cl ck cm : Int} {A : List Int} {p : Bool} {Aq : Option Addr}
/-- Its blocks. -/
theorem Ro.blks (h : Ro w base g Aq c last m A num rk rc) : ∀ s ∈ g :: bl Aq, base ≤ s ∧ ∃ t ys, Blk w s t ys ∧ (t = 29 ∨ t = 47) := fun s hs => by
  rcases List.mem_cons.1 hs with rfl | hs
  · exact ⟨h.hb, _, _, h.bk, .inl rfl⟩
  · obtain ⟨h1, ys, h2⟩ := h.og.blk (mem_bl.1 hs)
    exact ⟨h1, _, ys, h2, .inr rfl⟩
/-- A block of another type is none of its. -/
theorem Ro.out (h : Ro w base g Aq c last m A num rk rc) {k : Nat} {t : TypeId} {xs : List Value} (hk : Blk w k t xs) (h1 : t ≠ 29) (h2 : t ≠ 47) : k ∉ g :: bl Aq := fun hm => by
  obtain ⟨_, u, ys, hB, hu⟩ := h.blks k hm
  exact hB.ne hk (by rcases hu with rfl | rfl; exact h1.symm; exact h2.symm) rfl
theorem Ro.touch {S : List Nat} (h : Ro w base g Aq c last m A num rk rc) (ht : Touch S w w') (hs : ∀ s ∈ S, s ∉ g :: bl Aq) : Ro w' base g Aq c last m A num rk rc :=
  ⟨h.hb, h.bk.touch ht (fun hm => hs g hm (List.mem_cons_self ..)), h.og.touch ht (fun s hm hk => hs s hm (List.mem_cons_of_mem _ (mem_bl.2 hk)))⟩
theorem Ro.past (h : Ro w base g Aq c last m A num rk rc) (hb : Below w.heap.size w w') : Ro w' base g Aq c last m A num rk rc := h.touch (S := []) (.of_below hb) (by simp)
end
theorem q_info : (Try.prog.info? 47).map (fun i => (i.zero, i.size, i.bytes)) = some (some (.agg #[.int .i64 0, .int .i64 0]), 2, 16) := by kernel_rfl
theorem run_loadQ {w : World} {dst : Option Tmp} {x : Operand} {ty : TypeId} {pos : String} {after : Array Edge} {guard : Option (Nat × Bool)} {ρ : Operand → Value} {p : Addr} {A : Option Addr} {n c : Nat}
    (h : w.cell? p = some (.slice A n c)) (hx : ρ x = .pointer (some p)) : (execOp ρ { dst, op := .load 27 x, type := ty, pos, after, guard }).run Try.prog w = .ok (.value (.slice A n c)) w := by
  go_simp
theorem run_loadN1 {w : World} {dst : Option Tmp} {x : Operand} {ty : TypeId} {pos : String} {after : Array Edge} {guard : Option (Nat × Bool)} {ρ : Operand → Value} {p : Addr} {k : Int}
    (h : w.cell? p = some (.int .i64 k)) (hx : ρ x = .pointer (some p)) : (execOp ρ { dst, op := .load 2 x, type := ty, pos, after, guard }).run Try.prog w = .ok (.value (.int .i64 k)) w := by
  go_simp
theorem run_storeQ {w : World} {dst : Option Tmp} {x y : Operand} {ty : TypeId} {pos : String} {after : Array Edge} {guard : Option (Nat × Bool)} {ρ : Operand → Value} {g i : Nat} {A A' : Option Addr} {n c n' c' : Nat}
    (h : w.cell? ⟨g, i, none⟩ = some (.slice A' n' c')) (hf : w.frozen? ⟨g, i, none⟩ = false) (hx : ρ x = .pointer (some ⟨g, i, none⟩)) (hy : ρ y = .slice A n c) :
    (execOp ρ { dst, op := .store 27 x y, type := ty, pos, after, guard }).run Try.prog w = .ok .skip (w.setCell ⟨g, i, none⟩ (.slice A n c)) := by
  go_simp
theorem run_buildQ {w : World} {dst : Option Tmp} {x y : Operand} {ty : TypeId} {pos : String} {after : Array Edge} {guard : Option (Nat × Bool)} {ρ : Operand → Value} {a b : Int}
    (hx : ρ x = .int .i64 a) (hy : ρ y = .int .i64 b) : (execOp ρ { dst, op := .build 47 #[(0, x), (1, y)], type := ty, pos, after, guard }).run Try.prog w = .ok (.value (.agg #[.int .i64 a, .int .i64 b])) w := by
  go_simp
theorem wpList_buildQ {w : World} {ops : Array Oper} {rest : List Oper} {o : Oper} {a : Act} {Q : Exit → Act → World → Prop} (hgd : o.guard = none) (x : Operand) (ho : o.op = .buildSlice 27 1 #[(0, x)]) (u v : Int) (hx : a.eval x = .agg #[.int .i64 u, .int .i64 v])
    (h : wpList Try.prog ops Q rest (a.put o.dst (.slice (some ⟨w.heap.size, 0, none⟩) 1 1)) (w.alloc (.cells (prs [(u, v)]).toArray 47))) : wpList Try.prog ops Q (o :: rest) a w := by
  obtain ⟨i, hi0, hz, hk, -⟩ := info_parts q_info
  refine wpList_buildSlice hgd 27 47 1 _ ho (prs [(u, v)]).toArray i (.agg #[.int .i64 0, .int .i64 0]) Try.underlying27 hi0 hz (by rw [hk]; omega) (by rw [hk]; omega) ?_ h
  rw [hk]
  have hb : (Array.range (1 * 2)).map (fun x => (Value.agg #[.int .i64 0, .int .i64 0]).cells[x % (Value.agg #[.int .i64 0, .int .i64 0]).cells.size]!) = #[.int .i64 0, .int .i64 0] := by kernel_rfl
  rw [hb]
  simp [Instr.fill, prs, Value.cells, hx]

/-- 'l[1:]'. -/
theorem wpList_tail {P : Program} {w : World} {ops : Array Oper} {rest : List Oper} {o : Oper} {a : Act} {Q : Exit → Act → World → Prop} (hgd : o.guard = none) (t : TypeId) (x lo : Operand) (ho : o.op = .slice t x (some lo) none none)
    (e : TypeId) (z : Option Value) (k bytes : Nat) (ht : P.underlying t = some (.slice e)) (hi : (P.info? e).map (fun i => (i.zero, i.size, i.bytes)) = some (z, k, bytes))
    {base : Nat} (A : Option Addr) (n c : Nat) (xs : List Value) (hx : a.eval x = .slice A n c) (hr : Og w base e k A n c xs) (hn : 1 < n) (hlo : a.eval lo = .int .i64 1) (n' c' : Nat) (hn' : n - 1 = n') (hc' : c - 1 = c')
    (h : ∀ A', Hid (Og w base e k A' n' c' (xs.drop k)) → wpList P ops Q rest (a.put o.dst (.slice A' n' c')) w) : wpList P ops Q (o :: rest) a w := by
  subst hn' hc'
  refine wpList_plain hgd fun K hK => ?_
  have hle := hr.rd.le
  have hrun := run_cut (P := P) (w := w) t e ht hi A n c (some (.int .i64 1)) none .i64 .i64 1 n (.inr rfl) (.inl ⟨rfl, rfl⟩) (by omega) (by omega)
  rw [if_neg (by omega), Nat.one_mul] at hrun
  unfold Oper.wp execOp
  simp only [ho, hx, hlo, Option.map_some, Option.map_none, Sem.run_bind, hrun, Result.andThen_ok, Sem.run_pure]
  exact hK _ _ (h _ (Lib.hid (hr.tail hn)))

section
variable (w : World) (base g : Nat) (last : Int) (m : Nat) (A : List Int) (num rk rc : Int)
set_option maxHeartbeats 4000000 in
set_option maxRecDepth 100000 in
theorem rpask_c {Aq : Option Addr} {c : Nat} (h : Ro w base g Aq c last m A num rk rc) (hm6 : m ≤ 64) (hml : (m : Int) ≤ last) (hA : A.length = 64) (hl : last < 2199023255552) (x : Int) :
    Calls Try.prog 12 #[.pointer (some ⟨g, 0, none⟩), .int .i64 x] w fun e w' => e = .returned (.int .i64 (last + 1)) ∧ Rp w' base g (last + 1) (nx m) (askA A last x) num rk rc ∧ Touch (g :: bl Aq) w w' := by
  obtain ⟨hbg, hB, hO⟩ := h
  have c1 := hB.cell (i := 1) rfl
  have f1 := hB.free 1
  have hl0 : 0 ≤ last := by omega
  have M6 := Lib.hid hm6
  have HL64 := Lib.hid hml
  have WB := Lib.hid (show base ≤ w.heap.size from Nat.le_trans hbg (Nat.le_of_lt hB.lt))
  have BG := Lib.hid hbg
  have ne := hO.ne hB (by decide)
  have B0 := Lib.hid hB
  have OO := Lib.hid hO
  have T1 := Lib.hid (show Touch [g] w (w.setCell ⟨g, 1, none⟩ (.int .i64 (last + 1))) from (Touch.refl [g] w).cell (List.mem_singleton.2 rfl) _ _)
  have B1 := Lib.hid (show Blk (w.setCell ⟨g, 1, none⟩ (.int .i64 (last + 1))) g 29 [.slice Aq m c, .int .i64 (last + 1), .int .i64 num, .int .i64 rk, .int .i64 rc] from hB.set 1 _)
  have O1 := Lib.hid (hO.touch T1.out (fun s hs => by rw [List.mem_singleton.1 hs]; exact ne))
  have LA := Lib.hid (fun h => Lk_ask (last := last) (x := x) (m := m) hA hml h)
  have LF := Lib.hid (fun h => Lk_full (last := last) (x := x) hA h)
  clear hbg hB hO ne hA hm6 hml
  go_enter Try.func12, Try.ntmps12
  go_wp2_with fail
  clear c1 f1
  have WB := Lib.hid (Nat.le_trans WB.out T1.out.size)
  generalize w.setCell ⟨g, 1, none⟩ (.int .i64 (last + 1)) = w1 at *
  have B1 := Lib.hid (show Blk w1.drew g _ _ from B1.out)
  have O1 := Lib.hid (show Og w1.drew base _ 2 Aq m c _ from O1.out.past (Below.refl _ _).drew)
  have BA := Lib.hid (show Below w1.drew.heap.size w1.drew (w1.drew.alloc (.cells (prs [(last + 1, x)]).toArray 47)) from (Below.refl _ _).alloc (Nat.le_refl _) _)
  have BA2 := Lib.hid (B1.out.past BA.out)
  have OA := Lib.hid (O1.out.past BA.out)
  have WB := Lib.hid (show base ≤ (w1.drew.alloc (.cells (prs [(last + 1, x)]).toArray 47)).heap.size from Nat.le_trans WB.out BA.out.size)
  have HN := Lib.hid (Rd.new w1.drew (prs [(last + 1, x)]).toArray 47 2 1 rfl (by unfold maxLen; omega))
  have HG := Lib.hid (show bk Aq ≠ some g from O1.out.ne B1.out (by decide))
  have FA := Lib.hid (show ∀ w', Touch (g :: bl Aq) w1.drew w' → Touch (g :: bl Aq) w w' from fun w' t => (T1.out.wide (by simp)).trans (Touch.trans (.of_below (Below.refl _ _).drew) t))
  obtain ⟨N, hN⟩ : ∃ N, m + 1 = N := ⟨_, rfl⟩
  have HNN := Lib.hid hN
  clear hN
  go_upto_region 2 with fail
  go_cut [] from 12 to 26 (fun wx => ∃ (A2 : Option Addr) (c2 : Nat), Hid (Blk wx g 29 [.slice A2 N c2, .int .i64 (last + 1), .int .i64 num, .int .i64 rk, .int .i64 rc]) ∧ Hid (Og wx base 47 2 A2 N c2 (prs (Lk last m A) ++ prs [(last + 1, x)])) ∧ Hid (Touch (g :: bl Aq) w wx))
  case first =>
    refine Hs.begin (g :: bl Aq) ?_
    refine Hs.take (v := .pointer (some ⟨g, 0, none⟩)) 0 12 rfl ?_ (fun _ _ => rfl)
    refine Hs.take (v := .pointer (some ⟨g, 0, none⟩)) 1 13 rfl ?_ (fun _ _ => rfl)
    refine Hs.take (v := .pointer (some ⟨g, 0, none⟩)) 2 14 rfl ?_ (fun _ _ => rfl)
    refine Hs.take (v := .pointer (some ⟨g, 0, none⟩)) 3 15 rfl ?_ (fun w' hw' => by go_simp)
    refine Hs.take (v := .pointer (some ⟨g, 0, none⟩)) 5 17 rfl ?_ (fun _ _ => rfl)
    refine Hs.take (v := .pointer (some ⟨g, 0, none⟩)) 6 18 rfl ?_ (fun _ _ => rfl)
    refine Hs.take (v := .pointer (some ⟨g, 1, none⟩)) 7 19 rfl ?_ (fun w' hw' => by go_simp)
    refine Hs.take (v := .int .i64 x) 9 21 rfl ?_ (fun _ _ => rfl)
    refine Hs.two 4 8 ?_ ?_
    · refine Hs.pick 4 (some 16) rfl ?_
      refine wpList_runTo' rfl (.slice Aq m c) _ (run_loadQ (B1.out.cell (i := 0) rfl) rfl) ?_
      refine Hs.next (Touch.refl _ _) ?_
      refine Hs.only 8 (some 20) rfl ?_
      refine wpList_runTo' rfl (.int .i64 (last + 1)) _ (run_loadN1 (B1.out.cell (i := 1) rfl) rfl) ?_
      refine Hs.next (Touch.refl _ _) ?_
      refine Hs.take (v := .agg #[.int .i64 (last + 1), .int .i64 x]) 10 22 rfl ?_ (fun w' hw' => run_buildQ rfl rfl)
      refine Hs.only 11 (some 23) rfl ?_
      refine wpList_buildQ rfl (.tmp 22) rfl (last + 1) x rfl ?_
      refine Hs.next (.of_below BA.out) ?_ (by simp only [Act.put, List.setIfInBounds_toArray, List.set_cons_succ, List.set_cons_zero]; rfl)
      refine Hs.only 12 (some 24) rfl ?_
      refine wpList_appO rfl (.tmp 16) (.tmp 23) 27 rfl base 47 _ 2 16 Try.underlying27 q_info rfl (by omega) Aq m c (prs (Lk last m A)) rfl OA.out _ _ 1 1 (prs [(last + 1, x)]) rfl HN.out (Nat.succ_pos 0) (prs_one _) (by have := M6.out; unfold maxLen; omega) (by have := M6.out; omega) WB.out ?_
      rw [HNN.out]
      intro A2 c2 w5 O5 t5
      refine Hs.next (t5.wide (fun k hk => List.mem_cons_of_mem _ hk)) ?_ (by simp only [Act.put, List.setIfInBounds_toArray, List.set_cons_succ, List.set_cons_zero]; rfl)
      have K5 : Blk w5 g 29 [.slice Aq m c, .int .i64 (last + 1), .int .i64 num, .int .i64 rk, .int .i64 rc] := BA2.out.touch t5 (fun hm => HG.out (mem_bl.1 hm))
      refine Hs.take (v := .pointer (some ⟨g, 0, none⟩)) 13 25 rfl ?_ (fun _ _ => rfl)
      refine Hs.take (v := .pointer (some ⟨g, 0, none⟩)) 14 26 rfl ?_ (fun w' hw' => by go_simp)
      refine Hs.only 15 none rfl ?_
      refine wpList_skipTo rfl rfl _ (run_storeQ (K5.cell (i := 0) rfl) (K5.free 0) rfl rfl) ?_
      refine Hs.next ((Touch.of_grown (grown_set w5 g 0 _)).wide (by simp)) ?_ rfl
      refine Hs.done ?_
      have O6 := Lib.hid (O5.touch (Touch.of_grown (grown_set w5 g 0 (.slice A2 N c2))) (fun s hs => by rw [List.mem_singleton.1 hs]; exact O5.ne K5 (by decide)))
      have K6 := Lib.hid (show Blk (w5.setCell ⟨g, 0, none⟩ (.slice A2 N c2)) g 29 [.slice A2 N c2, .int .i64 (last + 1), .int .i64 num, .int .i64 rk, .int .i64 rc] from K5.set 0 _)
      have T6 := Lib.hid (show Touch (g :: bl Aq) w1.drew (w5.setCell ⟨g, 0, none⟩ (.slice A2 N c2)) from ((Touch.of_below BA.out).trans (t5.wide (fun k hk => List.mem_cons_of_mem _ hk))).trans ((Touch.of_grown (grown_set w5 g 0 _)).wide (by simp)))
      clear O5 t5 K5
      generalize w5.setCell ⟨g, 0, none⟩ (.slice A2 N c2) = w6 at *
      go_wp2_with fail
      go_meet
      case rel => exact ⟨A2, c2, K6, O6, Lib.hid (FA.out _ T6.out)⟩
    · refine Hs.pick 8 (some 20) rfl ?_
      refine wpList_runTo' rfl (.int .i64 (last + 1)) _ (run_loadN1 (B1.out.cell (i := 1) rfl) rfl) ?_
      refine Hs.next (Touch.refl _ _) ?_
      refine Hs.take (v := .agg #[.int .i64 (last + 1), .int .i64 x]) 10 22 rfl ?_ (fun w' hw' => run_buildQ rfl rfl)
      refine Hs.two 4 11 ?_ ?_
      · refine Hs.pick 4 (some 16) rfl ?_
        refine wpList_runTo' rfl (.slice Aq m c) _ (run_loadQ (B1.out.cell (i := 0) rfl) rfl) ?_
        refine Hs.next (Touch.refl _ _) ?_
        refine Hs.only 11 (some 23) rfl ?_
        refine wpList_buildQ rfl (.tmp 22) rfl (last + 1) x rfl ?_
        refine Hs.next (.of_below BA.out) ?_ (by simp only [Act.put, List.setIfInBounds_toArray, List.set_cons_succ, List.set_cons_zero]; rfl)
        refine Hs.only 12 (some 24) rfl ?_
        refine wpList_appO rfl (.tmp 16) (.tmp 23) 27 rfl base 47 _ 2 16 Try.underlying27 q_info rfl (by omega) Aq m c (prs (Lk last m A)) rfl OA.out _ _ 1 1 (prs [(last + 1, x)]) rfl HN.out (Nat.succ_pos 0) (prs_one _) (by have := M6.out; unfold maxLen; omega) (by have := M6.out; omega) WB.out ?_
        rw [HNN.out]
        intro A2 c2 w5 O5 t5
        refine Hs.next (t5.wide (fun k hk => List.mem_cons_of_mem _ hk)) ?_ (by simp only [Act.put, List.setIfInBounds_toArray, List.set_cons_succ, List.set_cons_zero]; rfl)
        have K5 : Blk w5 g 29 [.slice Aq m c, .int .i64 (last + 1), .int .i64 num, .int .i64 rk, .int .i64 rc] := BA2.out.touch t5 (fun hm => HG.out (mem_bl.1 hm))
        refine Hs.take (v := .pointer (some ⟨g, 0, none⟩)) 13 25 rfl ?_ (fun _ _ => rfl)
        refine Hs.take (v := .pointer (some ⟨g, 0, none⟩)) 14 26 rfl ?_ (fun w' hw' => by go_simp)
        refine Hs.only 15 none rfl ?_
        refine wpList_skipTo rfl rfl _ (run_storeQ (K5.cell (i := 0) rfl) (K5.free 0) rfl rfl) ?_
        refine Hs.next ((Touch.of_grown (grown_set w5 g 0 _)).wide (by simp)) ?_ rfl
        refine Hs.done ?_
        have O6 := Lib.hid (O5.touch (Touch.of_grown (grown_set w5 g 0 (.slice A2 N c2))) (fun s hs => by rw [List.mem_singleton.1 hs]; exact O5.ne K5 (by decide)))
        have K6 := Lib.hid (show Blk (w5.setCell ⟨g, 0, none⟩ (.slice A2 N c2)) g 29 [.slice A2 N c2, .int .i64 (last + 1), .int .i64 num, .int .i64 rk, .int .i64 rc] from K5.set 0 _)
        have T6 := Lib.hid (show Touch (g :: bl Aq) w1.drew (w5.setCell ⟨g, 0, none⟩ (.slice A2 N c2)) from ((Touch.of_below BA.out).trans (t5.wide (fun k hk => List.mem_cons_of_mem _ hk))).trans ((Touch.of_grown (grown_set w5 g 0 _)).wide (by simp)))
        clear O5 t5 K5
        generalize w5.setCell ⟨g, 0, none⟩ (.slice A2 N c2) = w6 at *
        go_wp2_with fail
        go_meet
        case rel => exact ⟨A2, c2, K6, O6, Lib.hid (FA.out _ T6.out)⟩
      · refine Hs.pick 11 (some 23) rfl ?_
        refine wpList_buildQ rfl (.tmp 22) rfl (last + 1) x rfl ?_
        refine Hs.next (.of_below BA.out) ?_ (by simp only [Act.put, List.setIfInBounds_toArray, List.set_cons_succ, List.set_cons_zero]; rfl)
        refine Hs.only 4 (some 16) rfl ?_
        refine wpList_runTo' rfl (.slice Aq m c) _ (run_loadQ (BA2.out.cell (i := 0) rfl) rfl) ?_
        refine Hs.next (Touch.refl _ _) ?_
        refine Hs.only 12 (some 24) rfl ?_
        refine wpList_appO rfl (.tmp 16) (.tmp 23) 27 rfl base 47 _ 2 16 Try.underlying27 q_info rfl (by omega) Aq m c (prs (Lk last m A)) rfl OA.out _ _ 1 1 (prs [(last + 1, x)]) rfl HN.out (Nat.succ_pos 0) (prs_one _) (by have := M6.out; unfold maxLen; omega) (by have := M6.out; omega) WB.out ?_
        rw [HNN.out]
        intro A2 c2 w5 O5 t5
        refine Hs.next (t5.wide (fun k hk => List.mem_cons_of_mem _ hk)) ?_ (by simp only [Act.put, List.setIfInBounds_toArray, List.set_cons_succ, List.set_cons_zero]; rfl)
        have K5 : Blk w5 g 29 [.slice Aq m c, .int .i64 (last + 1), .int .i64 num, .int .i64 rk, .int .i64 rc] := BA2.out.touch t5 (fun hm => HG.out (mem_bl.1 hm))
        refine Hs.take (v := .pointer (some ⟨g, 0, none⟩)) 13 25 rfl ?_ (fun _ _ => rfl)
        refine Hs.take (v := .pointer (some ⟨g, 0, none⟩)) 14 26 rfl ?_ (fun w' hw' => by go_simp)
        refine Hs.only 15 none rfl ?_
        refine wpList_skipTo rfl rfl _ (run_storeQ (K5.cell (i := 0) rfl) (K5.free 0) rfl rfl) ?_
        refine Hs.next ((Touch.of_grown (grown_set w5 g 0 _)).wide (by simp)) ?_ rfl
        refine Hs.done ?_
        have O6 := Lib.hid (O5.touch (Touch.of_grown (grown_set w5 g 0 (.slice A2 N c2))) (fun s hs => by rw [List.mem_singleton.1 hs]; exact O5.ne K5 (by decide)))
        have K6 := Lib.hid (show Blk (w5.setCell ⟨g, 0, none⟩ (.slice A2 N c2)) g 29 [.slice A2 N c2, .int .i64 (last + 1), .int .i64 num, .int .i64 rk, .int .i64 rc] from K5.set 0 _)
        have T6 := Lib.hid (show Touch (g :: bl Aq) w1.drew (w5.setCell ⟨g, 0, none⟩ (.slice A2 N c2)) from ((Touch.of_below BA.out).trans (t5.wide (fun k hk => List.mem_cons_of_mem _ hk))).trans ((Touch.of_grown (grown_set w5 g 0 _)).wide (by simp)))
        clear O5 t5 K5
        generalize w5.setCell ⟨g, 0, none⟩ (.slice A2 N c2) = w6 at *
        go_wp2_with fail
        go_meet
        case rel => exact ⟨A2, c2, K6, O6, Lib.hid (FA.out _ T6.out)⟩
  case rest =>
    clear B1 O1 BA BA2 OA HN HG FA
    obtain ⟨A2, c2, K, O, T⟩ := hcut
    have c0 := K.out.cell (i := 0) rfl
    have c1 := K.out.cell (i := 1) rfl
    have f0 := K.out.free 0
    by_cases hm : m < 64
    · have H1 := Lib.hid (show nx m = N by unfold nx; rw [if_neg (by omega)]; exact HNN.out)
      have hN : ¬ 64 < N := by have := HNN.out; omega
      have HM := Lib.hid hm
      clear hm
      go_wp2_with fail
      go_ret
      refine ⟨rfl, ?_, T.out⟩
      rw [H1.out]
      refine ⟨A2, c2, BG.out, K.out, ?_⟩
      have := O.out
      rw [← prs_app, LA.out HM.out, HNN.out] at this
      exact this
    · have H1 := Lib.hid (show nx m = N - 1 by unfold nx; have := HNN.out; have := M6.out; rw [if_pos (by omega)]; omega)
      have hN : 64 < N := by have := HNN.out; omega
      have HM := Lib.hid (show m = 64 by have := M6.out; omega)
      have HN1 := Lib.hid (show 1 < N by omega)
      clear hm
      obtain ⟨c3, hc3⟩ : ∃ c3, c2 - 1 = c3 := ⟨_, rfl⟩
      obtain ⟨N3, hN3⟩ : ∃ N3, N - 1 = N3 := ⟨_, rfl⟩
      have HC3 := Lib.hid hc3
      have HN3 := Lib.hid hN3
      rw [hN3] at H1
      clear hc3 hN3
      go_wp2_with ((with_reducible show wpList _ _ _ ((⟨some 38, Op.slice _ _ _ _ _, _, _, _, _⟩ : Oper) :: _) _ _); go_must (refine wpList_tail rfl 27 (.tmp 37) _ rfl 47 _ 2 16 Try.underlying27 q_info A2 N c2 _ rfl O.out HN1.out rfl N3 c3 HN3.out HC3.out ?_); intro A3 P3)
      go_ret
      have ne3 := P3.out.ne K.out (by decide)
      refine ⟨rfl, ?_, ?_⟩
      · rw [H1.out]
        refine ⟨A3, c3, BG.out, K.out.set 0 _, ?_⟩
        have := P3.out.touch (Touch.of_grown (grown_set wc g 0 (.slice A3 N3 c3))) (fun s hs => by rw [List.mem_singleton.1 hs]; exact ne3)
        have e3 : N3 = 64 := by rw [← H1.out, HM.out]; rfl
        have e := HM.out
        subst e
        rw [← prs_app, prs_drop, LF.out (by have := HL64.out; omega), e3] at this
        rw [e3]
        exact this
      · exact T.out.trans ((Touch.of_grown (grown_set wc g 0 _)).wide (by simp))

/-- The question at place i of its list. -/
theorem Rp.q_at {Aq : Option Addr} {c : Nat} (hO : Og w base 47 2 Aq m c (prs (Lk last m A))) {i : Nat} (hi : i < m) :
    ∃ b o, Aq = some ⟨b, o, none⟩ ∧ w.cell? ⟨b, o + i * 2, none⟩ = some (.int .i64 (last - m + 1 + (i : Nat))) ∧ w.cell? ⟨b, o + i * 2 + 1, none⟩ = some (.int .i64 (tm A (last - m + 1 + (i : Nat)))) := by
  obtain ⟨b, o, hA, _, hc⟩ := hO.rd.2.2.2.2 (by omega)
  obtain ⟨t1, t2⟩ := prs_at (Lk_at last A hi)
  exact ⟨b, o, hA, hc _ _ t1, by have := hc _ _ t2; rwa [← Nat.add_assoc] at this⟩

set_option maxRecDepth 100000 in
theorem rpget_no {Aq : Option Addr} {cc : Nat} (h : Ro w base g Aq cc last m A num rk rc) (hm6 : m ≤ 64) (x co : Int) (ho : rop last m num x = false) :
    Calls Try.prog 14 #[.pointer (some ⟨g, 0, none⟩), .int .i64 x, .int .i64 co] w fun e w' => e = .returned (.bool false) ∧ w = w' := by
  obtain ⟨hbg, hB, hO⟩ := h
  have c0 := hB.cell (i := 0) rfl
  have c2 := hB.cell (i := 2) rfl
  have HQ := Lib.hid (fun i hi => Rp.q_at w base last m A hO (i := i) hi)
  have HO := Lib.hid (of_decide_eq_false ho)
  clear hbg hB hO ho
  go_enter Try.func14, Try.ntmps14
  go_wp2_with fail
  go_loopw [7] (fun s7 wr => ∃ i : Nat, i ≤ m ∧ s7 = .int .i64 i ∧ wr = w) (fun s7 _ => m - (intOf s7).toNat)
  case atStart => exact ⟨0, by omega, rfl, rfl⟩
  case round =>
    obtain ⟨i, hi, rfl, rfl⟩ := hrel
    by_cases him : i < m
    · obtain ⟨b, o, rfl, h1, -⟩ := HQ.out i him
      obtain ⟨v, hv⟩ : ∃ v, last - m + 1 + (i : Int) = v := ⟨_, rfl⟩
      rw [hv] at h1
      by_cases hvx : v = x
      · subst hvx
        have hn : v ≤ num := by have := HO.out; omega
        clear hv
        go_wp2_with fail
        go_roundw
        case rel => exact ⟨i + 1, by omega, by go_num, trivial⟩
        case measure => simp [intOf]; omega
      · have e1 : (v == x) = false := by simpa using hvx
        clear hv hvx
        go_wp2_with fail
        go_roundw
        case rel => exact ⟨i + 1, by omega, by go_num, trivial⟩
        case measure => simp [intOf]; omega
    · obtain rfl : i = m := by omega
      go_wp2_with fail
      go_ret
      exact ⟨rfl, rfl⟩
set_option maxRecDepth 100000 in
theorem rpget_yes {Aq : Option Addr} {cc : Nat} (h : Ro w base g Aq cc last m A num rk rc) (hm6 : m ≤ 64) (x co : Int) (ho : rop last m num x = true) :
    Calls Try.prog 14 #[.pointer (some ⟨g, 0, none⟩), .int .i64 x, .int .i64 co] w fun e w' => e = .returned (.bool true) ∧ Rp w' base g last m A x (tm A x) co ∧ Touch (g :: bl Aq) w w' := by
  obtain ⟨hbg, hB, hO⟩ := h
  have c0 := hB.cell (i := 0) rfl
  have c2 := hB.cell (i := 2) rfl
  have c3 := hB.cell (i := 3) rfl
  have c4 := hB.cell (i := 4) rfl
  have f2 := hB.free 2
  have f3 := hB.free 3
  have f4 := hB.free 4
  have HQ := Lib.hid (fun i hi => Rp.q_at w base last m A hO (i := i) hi)
  have ho := of_decide_eq_true ho
  obtain ⟨i0, hi0⟩ : ∃ i0 : Nat, last - m + 1 + (i0 : Int) = x := ⟨(x - (last - m + 1)).toNat, by omega⟩
  have hi0m : i0 < m := by omega
  have hnx : num < x := by omega
  have HX := Lib.hid hi0
  have HB := Lib.hid hB
  have HOo := Lib.hid hO
  have BG := Lib.hid hbg
  have NE := Lib.hid (hO.ne hB (by decide))
  obtain ⟨v, hv⟩ : ∃ v, tm A x = v := ⟨_, rfl⟩
  have HV := Lib.hid hv
  rw [hv]
  clear hbg hB hO ho hi0 hv
  go_enter Try.func14, Try.ntmps14
  go_wp2_with fail
  go_loopw [7] (fun s7 wr => ∃ i : Nat, i ≤ i0 ∧ s7 = .int .i64 i ∧ wr = w) (fun s7 _ => m - (intOf s7).toNat)
  case atStart => exact ⟨0, by omega, rfl, rfl⟩
  case round =>
    obtain ⟨i, hi, rfl, rfl⟩ := hrel
    by_cases hii : i < i0
    · obtain ⟨b, o, rfl, h1, -⟩ := HQ.out i (by omega)
      obtain ⟨u, hu⟩ : ∃ u, last - m + 1 + (i : Int) = u := ⟨_, rfl⟩
      rw [hu] at h1
      have e1 : (u == x) = false := by have := HX.out; simp; omega
      have him : i < m := by omega
      clear hu
      go_wp2_with fail
      go_roundw
      case rel => exact ⟨i + 1, by omega, by go_num, trivial⟩
      case measure => simp [intOf]; omega
    · obtain rfl : i = i0 := by omega
      obtain ⟨b, o, rfl, h1, h2⟩ := HQ.out i hi0m
      rw [HX.out] at h1 h2
      rw [HV.out] at h2
      clear hii
      go_wp2_with fail
      go_ret
      have T := ((Touch.refl [g] wr).cell (List.mem_singleton.2 rfl) 2 (.int .i64 x)).cell (List.mem_singleton.2 rfl) 3 (.int .i64 v) |>.cell (List.mem_singleton.2 rfl) 4 (.int .i64 co)
      refine ⟨rfl, ⟨_, cc, BG.out, ((HB.out.set 2 (.int .i64 x)).set 3 (.int .i64 v)).set 4 (.int .i64 co), HOo.out.touch T (fun s hs => by rw [List.mem_singleton.1 hs]; exact NE.out)⟩, ?_⟩
      exact T.wide (by simp)
theorem rpleft_c {Aq : Option Addr} {cc : Nat} (h : Ro w base g Aq cc last m A num rk rc) (hrk : 0 ≤ rk ∧ rk ≤ 2199023255552) (t c : Int) (ht : 0 ≤ t ∧ t ≤ 2199023255552) :
    Calls Try.prog 18 #[.pointer (some ⟨g, 0, none⟩), .int .i64 t, .int .i64 c] w fun e w' => e = .returned (.int .i64 (left (decide (num ≠ 0)) rk rc t c)) ∧ w = w' := by
  obtain ⟨hbg, hB, hO⟩ := h
  have c2 := hB.cell (i := 2) rfl
  have c3 := hB.cell (i := 3) rfl
  have c4 := hB.cell (i := 4) rfl
  clear hbg hB hO
  by_cases hn : num = 0
  · subst hn
    have H := Lib.hid (show left (decide ((0 : Int) ≠ 0)) rk rc t c = 0 from left_no (by simp))
    go_enter Try.func18, Try.ntmps18
    go_wp2_with fail
    go_ret
    exact ⟨by rw [H.out]; rfl, rfl⟩
  · have hd : decide (num ≠ 0) = true := decide_eq_true hn
    rw [hd]
    have e1 : (num == 0) = false := by simpa using hn
    clear hd hn
    rcases (by omega : c < rc ∨ (rc ≤ c ∧ t < rk) ∨ (rk ≤ t ∧ rc ≤ c ∧ 12 ≤ t - rk) ∨ (rk ≤ t ∧ rc ≤ c ∧ t - rk < 12)) with k | ⟨k, k2⟩ | ⟨k, k2, k3⟩ | ⟨k, k2, k3⟩
    · have H := Lib.hid (show left true rk rc t c = 0 from left_no (by omega))
      go_enter Try.func18, Try.ntmps18
      go_wp2_with fail
      go_ret
      exact ⟨by rw [H.out]; rfl, rfl⟩
    · have H := Lib.hid (show left true rk rc t c = 0 from left_no (by omega))
      go_enter Try.func18, Try.ntmps18
      go_wp2_with fail
      go_ret
      exact ⟨by rw [H.out]; rfl, rfl⟩
    · have H := Lib.hid (show left true rk rc t c = 0 from left_no (by omega))
      go_enter Try.func18, Try.ntmps18
      go_wp2_with fail
      go_ret
      exact ⟨by rw [H.out]; rfl, rfl⟩
    · have H := Lib.hid (show left true rk rc t c = 12 - (t - rk) from left_yes ⟨rfl, k, k2, k3⟩)
      go_enter Try.func18, Try.ntmps18
      go_wp2_with fail
      go_ret
      exact ⟨by rw [H.out]; rfl, rfl⟩
theorem rpdrop_c {Aq : Option Addr} {cc : Nat} (h : Ro w base g Aq cc last m A num rk rc) : Calls Try.prog 16 #[.pointer (some ⟨g, 0, none⟩)] w fun e w' => e = .returned (.tuple #[]) ∧ Rp w' base g last 0 A 0 0 0 ∧ Touch (g :: bl Aq) w w' := by
  obtain ⟨hbg, hB, hO⟩ := h
  have c0 := hB.cell (i := 0) rfl
  have c2 := hB.cell (i := 2) rfl
  have c3 := hB.cell (i := 3) rfl
  have c4 := hB.cell (i := 4) rfl
  have f0 := hB.free 0
  have f2 := hB.free 2
  have f3 := hB.free 3
  have f4 := hB.free 4
  have HB := Lib.hid hB
  have HO := Lib.hid hO
  have BG := Lib.hid hbg
  clear hbg hB hO
  go_enter Try.func16, Try.ntmps16
  go_wp2_with fail
  go_end0
  have T := ((Touch.refl [g] w).cell (List.mem_singleton.2 rfl) 0 (.slice none 0 0)).cell (List.mem_singleton.2 rfl) 2 (.int .i64 0) |>.cell (List.mem_singleton.2 rfl) 3 (.int .i64 0) |>.cell (List.mem_singleton.2 rfl) 4 (.int .i64 0)
  exact ⟨rfl, ⟨none, 0, BG.out, (((HB.out.set 0 (.slice none 0 0)).set 2 (.int .i64 0)).set 3 (.int .i64 0)).set 4 (.int .i64 0), Og.nil _ _ _ _⟩, T.wide (by simp)⟩
end
end Go.Proofs.Ytfppngeldlpjiaa
