/- Contracts of isIn, bit, numbersOf, msgOf, mayEntries. -/
import Derived.Test.YtgcpofiecbpfbaaDoorSeg2
import Derived.Test.YtgcpofiecbpfbaaDoorSeg1
import Derived.Laws.StructEq
import Derived.Great.BuildSlice
import Derived.Test.YtgcpofiecbpfbaaDoorRows
import Derived.Shelf.Abstract
import Derived.Laws.BitsAllLaws
import Derived.Laws.Bits128
import Derived.BigQuiet
import Derived.Deep.QuietTactic
namespace Go.Proofs.YtgcpofiecbpfbaaDoor
open Go.RowKit

theorem wIsIn_c (w : World) (n lo hi : Int) :
    Calls Tryd.prog 21 #[.int .i64 n, .int .i64 lo, .int .i64 hi] w fun e w' => e = .returned (.bool (decide (lo ≤ n ∧ n ≤ hi))) ∧ w = w' := by
  obtain ⟨r, HR⟩ : ∃ r, decide (lo ≤ n ∧ n ≤ hi) = r := ⟨_, rfl⟩
  rw [HR]
  by_cases h1 : lo ≤ n
  · by_cases h2 : n ≤ hi
    · have H := Lib.hid (HR.symm.trans (decide_eq_true (And.intro h1 h2)))
      clear HR
      go_enter Tryd.func21, Tryd.ntmps21
      go_wp2
      go_ret
      exact ⟨by rw [H.out]; rfl, rfl⟩
    · have H := Lib.hid (HR.symm.trans (decide_eq_false (fun h : lo ≤ n ∧ n ≤ hi => h2 h.2)))
      clear HR
      go_enter Tryd.func21, Tryd.ntmps21
      go_wp2
      go_ret
      exact ⟨by rw [H.out]; rfl, rfl⟩
  · have H := Lib.hid (HR.symm.trans (decide_eq_false (fun h : lo ≤ n ∧ n ≤ hi => h1 h.1)))
    clear HR
    go_enter Tryd.func21, Tryd.ntmps21
    go_wp2
    go_ret
    exact ⟨by rw [H.out]; rfl, rfl⟩

theorem bit_c (w : World) (b : Bool) : Calls Tryd.prog 44 #[.bool b] w fun e w' => e = .returned (.int .i64 (PMsg.bit b)) ∧ w = w' := by
  cases b
  all_goals
    go_enter Tryd.func44, Tryd.ntmps44
    go_wp2
    go_ret
    exact ⟨rfl, rfl⟩

set_option maxHeartbeats 4000000 in
set_option maxRecDepth 100000 in
theorem wNums_c (w : World) (m : Msg) (A : Option Addr) (c : Nat) : Calls Tryd.prog 26 #[mv m A c] w fun x w' => x = .returned (nv13 (PMsg.ns m)) ∧ Below w.heap.size w w' := by
  obtain ⟨kind, fr, dst, boot, view, last, mem, pos, es, com, num, clk, yes⟩ := m
  have W1 := Lib.hid ((Below.refl w.heap.size w).alloc (Nat.le_refl _) (.cells #[.int .i64 kind, .int .i64 fr, .int .i64 dst, .int .i64 boot, .int .i64 view, .int .i64 last, .int .i64 mem, .int .i64 pos, .slice A es.length c, .int .i64 com, .int .i64 num, .int .i64 clk, .bool yes] 24))
  have K0 := Blk.new w #[.int .i64 kind, .int .i64 fr, .int .i64 dst, .int .i64 boot, .int .i64 view, .int .i64 last, .int .i64 mem, .int .i64 pos, .slice A es.length c, .int .i64 com, .int .i64 num, .int .i64 clk, .bool yes] 24
  show Calls _ _ #[.agg #[.int .i64 kind, .int .i64 fr, .int .i64 dst, .int .i64 boot, .int .i64 view, .int .i64 last, .int .i64 mem, .int .i64 pos, .slice A es.length c, .int .i64 com, .int .i64 num, .int .i64 clk, .bool yes]] _ _
  go_enter Tryd.func26, Tryd.ntmps26
  go_wp2_with fail
  have hs : (w.alloc (.cells #[.int .i64 kind, .int .i64 fr, .int .i64 dst, .int .i64 boot, .int .i64 view, .int .i64 last, .int .i64 mem, .int .i64 pos, .slice A es.length c, .int .i64 com, .int .i64 num, .int .i64 clk, .bool yes] 24)).heap.size = w.heap.size + 1 := by simp
  generalize w.alloc (.cells #[.int .i64 kind, .int .i64 fr, .int .i64 dst, .int .i64 boot, .int .i64 view, .int .i64 last, .int .i64 mem, .int .i64 pos, .slice A es.length c, .int .i64 com, .int .i64 num, .int .i64 clk, .bool yes] 24) = w1 at *
  have W2 := Lib.hid (W1.out.trans (((Below.refl w1.heap.size w1).alloc (Nat.le_refl _) (.cells #[.int .i64 0, .int .i64 0, .int .i64 0, .int .i64 0, .int .i64 0, .int .i64 0, .int .i64 0, .int .i64 0, .int .i64 0, .int .i64 0, .int .i64 0, .int .i64 0, .int .i64 0] 50)).mono W1.out.size))
  have K1 := K0.alloc (.cells #[.int .i64 0, .int .i64 0, .int .i64 0, .int .i64 0, .int .i64 0, .int .i64 0, .int .i64 0, .int .i64 0, .int .i64 0, .int .i64 0, .int .i64 0, .int .i64 0, .int .i64 0] 50)
  have K2 := Blk.new w1 #[.int .i64 0, .int .i64 0, .int .i64 0, .int .i64 0, .int .i64 0, .int .i64 0, .int .i64 0, .int .i64 0, .int .i64 0, .int .i64 0, .int .i64 0, .int .i64 0, .int .i64 0] 50
  rw [hs] at K2
  have S2 : (w1.alloc (.cells #[.int .i64 0, .int .i64 0, .int .i64 0, .int .i64 0, .int .i64 0, .int .i64 0, .int .i64 0, .int .i64 0, .int .i64 0, .int .i64 0, .int .i64 0, .int .i64 0, .int .i64 0] 50)).heap.size = w.heap.size + 2 := by simp [hs]
  generalize w1.alloc (.cells #[.int .i64 0, .int .i64 0, .int .i64 0, .int .i64 0, .int .i64 0, .int .i64 0, .int .i64 0, .int .i64 0, .int .i64 0, .int .i64 0, .int .i64 0, .int .i64 0, .int .i64 0] 50) = w2 at *
  clear K0
  have KM := Lib.hid K1
  have KN := Lib.hid K2
  clear K1 K2 hs
-- REGION curfew/wire.numbersOf 1 wnums1 2
  refine Hb.beginB (B := w.heap.size + 1) ?_
  refine Hb.take 0 3 rfl ?_ (fun w' hw' => by go_simp; first | done | rfl)
  refine Hb.take (v := .int .i64 kind) 1 4 rfl ?_ (fun w' hw' => by have hc := (KM.out.drew.below hw' (Nat.lt_succ_self _)).cell (i := 0) rfl; go_simp)
  refine Hb.take 2 5 rfl ?_ (fun w' hw' => by go_simp; first | done | rfl)
  refine Hb.take (v := .int .i64 fr) 3 6 rfl ?_ (fun w' hw' => by have hc := (KM.out.drew.below hw' (Nat.lt_succ_self _)).cell (i := 1) rfl; go_simp)
  refine Hb.take 4 7 rfl ?_ (fun w' hw' => by go_simp; first | done | rfl)
  refine Hb.take (v := .int .i64 dst) 5 8 rfl ?_ (fun w' hw' => by have hc := (KM.out.drew.below hw' (Nat.lt_succ_self _)).cell (i := 2) rfl; go_simp)
  refine Hb.take 6 9 rfl ?_ (fun w' hw' => by go_simp; first | done | rfl)
  refine Hb.take (v := .int .i64 boot) 7 10 rfl ?_ (fun w' hw' => by have hc := (KM.out.drew.below hw' (Nat.lt_succ_self _)).cell (i := 3) rfl; go_simp)
  refine Hb.take 8 11 rfl ?_ (fun w' hw' => by go_simp; first | done | rfl)
  refine Hb.take (v := .int .i64 view) 9 12 rfl ?_ (fun w' hw' => by have hc := (KM.out.drew.below hw' (Nat.lt_succ_self _)).cell (i := 4) rfl; go_simp)
  refine Hb.take 10 13 rfl ?_ (fun w' hw' => by go_simp; first | done | rfl)
  refine Hb.take (v := .int .i64 last) 11 14 rfl ?_ (fun w' hw' => by have hc := (KM.out.drew.below hw' (Nat.lt_succ_self _)).cell (i := 5) rfl; go_simp)
  refine Hb.take 12 15 rfl ?_ (fun w' hw' => by go_simp; first | done | rfl)
  refine Hb.take (v := .int .i64 mem) 13 16 rfl ?_ (fun w' hw' => by have hc := (KM.out.drew.below hw' (Nat.lt_succ_self _)).cell (i := 6) rfl; go_simp)
  refine Hb.take 14 17 rfl ?_ (fun w' hw' => by go_simp; first | done | rfl)
  refine Hb.take (v := .int .i64 pos) 15 18 rfl ?_ (fun w' hw' => by have hc := (KM.out.drew.below hw' (Nat.lt_succ_self _)).cell (i := 7) rfl; go_simp)
  refine Hb.take 16 19 rfl ?_ (fun w' hw' => by go_simp; first | done | rfl)
  refine Hb.take (v := .int .i64 com) 17 20 rfl ?_ (fun w' hw' => by have hc := (KM.out.drew.below hw' (Nat.lt_succ_self _)).cell (i := 9) rfl; go_simp)
  refine Hb.take 18 21 rfl ?_ (fun w' hw' => by go_simp; first | done | rfl)
  refine Hb.take (v := .int .i64 num) 19 22 rfl ?_ (fun w' hw' => by have hc := (KM.out.drew.below hw' (Nat.lt_succ_self _)).cell (i := 10) rfl; go_simp)
  refine Hb.take 20 23 rfl ?_ (fun w' hw' => by go_simp; first | done | rfl)
  refine Hb.take (v := .int .i64 clk) 21 24 rfl ?_ (fun w' hw' => by have hc := (KM.out.drew.below hw' (Nat.lt_succ_self _)).cell (i := 11) rfl; go_simp)
  refine Hb.take 22 25 rfl ?_ (fun w' hw' => by go_simp; first | done | rfl)
  refine Hb.take (v := .bool yes) 23 26 rfl ?_ (fun w' hw' => by have hc := (KM.out.drew.below hw' (Nat.lt_succ_self _)).cell (i := 12) rfl; go_simp)
  refine Hb.take 25 28 rfl ?_ (fun w' hw' => by go_simp; first | done | rfl)
  refine Hb.take (v := .slice A es.length c) 26 29 rfl ?_ (fun w' hw' => by have hc := (KM.out.drew.below hw' (Nat.lt_succ_self _)).cell (i := 8) rfl; go_simp)
  refine Hb.take (v := .int .i64 (es.length : Int)) 27 30 rfl ?_ (fun w' hw' => by go_simp; first | done | rfl | omega | exact wrap_in (by omega) (by omega) | exact Int.tmod_eq_emod_of_nonneg (by omega) | exact Int.tdiv_eq_ediv_of_nonneg (by omega) | (simp; omega))
  refine Hb.call (f := 44) (args := #[.bool yes]) 24 27 rfl ?_ (run_callf Tryd.func44 (by kernel_rfl) (by kernel_rfl) (by simp only [List.map_toArray, List.map_cons, List.map_nil]; rfl))
  refine (bit_c _ yes).mono ?_
  rintro x w3 ⟨rfl, rfl⟩
  refine Hb.back (Below.refl _ _) (Nat.le_refl _) ?_
  refine Hb.take (v := .agg #[.int .i64 kind, .int .i64 fr, .int .i64 dst, .int .i64 boot, .int .i64 view, .int .i64 last, .int .i64 mem, .int .i64 pos, .int .i64 com, .int .i64 num, .int .i64 clk, .int .i64 (PMsg.bit yes), .int .i64 (es.length : Int)]) 28 31 rfl ?_ (fun w' hw' => by go_simp; first | done | rfl | omega | exact wrap_in (by omega) (by omega) | exact Int.tmod_eq_emod_of_nonneg (by omega) | exact Int.tdiv_eq_ediv_of_nonneg (by omega) | (simp; omega))
  refine Hb.only 29 none rfl ?_
  refine wpList_store_row rfl 50 _ _ rfl (w.heap.size + 1) _ rfl rfl _ _ KN.out (by kernel_rfl) (by rfl) (by kernel_rfl) ?_
  have KN2 := Lib.hid (KN.out.drew.row #[.int .i64 kind, .int .i64 fr, .int .i64 dst, .int .i64 boot, .int .i64 view, .int .i64 last, .int .i64 mem, .int .i64 pos, .int .i64 com, .int .i64 num, .int .i64 clk, .int .i64 (PMsg.bit yes), .int .i64 (es.length : Int)])
  have GB := Lib.hid (((Below.refl (w.heap.size + 1) w2.drew).grown (grown_row w2.drew (w.heap.size + 1) #[.int .i64 kind, .int .i64 fr, .int .i64 dst, .int .i64 boot, .int .i64 view, .int .i64 last, .int .i64 mem, .int .i64 pos, .int .i64 com, .int .i64 num, .int .i64 clk, .int .i64 (PMsg.bit yes), .int .i64 (es.length : Int)]) (by show _ ≤ w2.heap.size; omega) (fun k hk => by cases hk; exact Nat.le_refl _)))
  refine Hb.next GB.out (Nat.le_refl _) ?_ rfl
  refine Hb.done ?_
-- END
  go_wp2_with fail
  refine bodyPost_ret (v := nv13 (PMsg.ns ⟨kind, fr, dst, boot, view, last, mem, pos, es, com, num, clk, yes⟩)) (results_cell_row rfl _ _ (w.heap.size + 1) _ _ _ _ rfl KN2.out Tryd.underlying50 rfl (by kernel_rfl)) rfl ⟨rfl, ?_⟩
  exact W2.out.drew.trans (GB.out.mono (Nat.le_succ _))

set_option maxHeartbeats 4000000 in
set_option maxRecDepth 100000 in
theorem wOf_c (w : World) (x0 x1 x2 x3 x4 x5 x6 x7 x8 x9 x10 x11 x12 : Int) (l : List Ent) (A : Option Addr) (c : Nat) :
    Calls Tryd.prog 39 #[.agg #[.int .i64 x0, .int .i64 x1, .int .i64 x2, .int .i64 x3, .int .i64 x4, .int .i64 x5, .int .i64 x6, .int .i64 x7, .int .i64 x8, .int .i64 x9, .int .i64 x10, .int .i64 x11, .int .i64 x12], .slice A l.length c] w fun x w' => x = .returned (mv (PMsg.ofN [x0, x1, x2, x3, x4, x5, x6, x7, x8, x9, x10, x11, x12] l) A c) ∧ Below w.heap.size w w' := by
  go_enter Tryd.func39, Tryd.ntmps39
  go_wp2_with fail
  have K := Blk.new (w.alloc (.cells #[.int .i64 x0, .int .i64 x1, .int .i64 x2, .int .i64 x3, .int .i64 x4, .int .i64 x5, .int .i64 x6, .int .i64 x7, .int .i64 x8, .int .i64 x9, .int .i64 x10, .int .i64 x11, .int .i64 x12] 50)) #[.int .i64 x0, .int .i64 x1, .int .i64 x2, .int .i64 x3, .int .i64 x4, .int .i64 x5, .int .i64 x6, .int .i64 x7, .slice A l.length c, .int .i64 x8, .int .i64 x9, .int .i64 x10, .bool (x11 == 1)] 24
  rw [show (w.alloc (.cells #[.int .i64 x0, .int .i64 x1, .int .i64 x2, .int .i64 x3, .int .i64 x4, .int .i64 x5, .int .i64 x6, .int .i64 x7, .int .i64 x8, .int .i64 x9, .int .i64 x10, .int .i64 x11, .int .i64 x12] 50)).heap.size = w.heap.size + 1 by simp] at K
  refine bodyPost_ret (v := mv (PMsg.ofN [x0, x1, x2, x3, x4, x5, x6, x7, x8, x9, x10, x11, x12] l) A c) (results_cell_row rfl _ _ (w.heap.size + 1) _ _ _ _ rfl K Tryd.underlying24 rfl (by kernel_rfl)) rfl ⟨rfl, ((Below.refl _ _).alloc (Nat.le_refl _) _).alloc (by simp) _⟩
end Go.Proofs.YtgcpofiecbpfbaaDoor

/- An entry loaded, built in a region that draws; small facts of lists. -/
namespace Go.Proofs.YtgcpofiecbpfbaaDoor
open Go.RowKit

theorem Rd.entR {w : World} {B c n : Nat} {A : Option Addr} {l : List Ent} (h : Rd w B A c 7 n (els l)) {i : Nat} (hi : i < n) : ∃ b o e, A = some ⟨b, o, none⟩ ∧ b < B ∧ l[i]? = some e ∧ e ∈ l ∧ w.rangeAt b (o + i * 7) (ecs e) := by
  obtain ⟨b, o, hA, hb, hc⟩ := h.flat hi (by omega)
  have hl := h.elen
  have he : l[i]? = some l[i] := List.getElem?_eq_getElem (by omega)
  refine ⟨b, o, l[i], hA, hb, he, List.getElem_mem _, fun j v hv => ?_⟩
  have hj : j < 7 := by have := (List.getElem?_eq_some_iff.1 hv).1; rw [ecs_length] at this; exact this
  obtain ⟨u, hu, hcell⟩ := hc j hj
  rw [els_at he hj, hv] at hu
  rw [hcell, hu]
theorem eqL_step {l m : List Ent} {i : Nat} {a b : Ent} (h1 : l[i]? = some a) (h2 : m[i]? = some b) : PEnt.eqL (l.drop i) (m.drop i) = (PEnt.eqE a b && PEnt.eqL (l.drop (i + 1)) (m.drop (i + 1))) := by
  obtain ⟨hi, he⟩ := List.getElem?_eq_some_iff.1 h1
  obtain ⟨hj, hf⟩ := List.getElem?_eq_some_iff.1 h2
  rw [List.drop_eq_getElem_cons hi, List.drop_eq_getElem_cons hj, he, hf]; rfl
theorem eqL_ne : ∀ {l m : List Ent}, l.length ≠ m.length → PEnt.eqL l m = false
  | [], [], h => absurd rfl h
  | [], _ :: _, _ => rfl
  | _ :: _, [], _ => rfl
  | a :: l, b :: m, h => by
    have : l.length ≠ m.length := fun e => h (by simp [e])
    simp [PEnt.eqL, eqL_ne this]

theorem any_take {l : List Ent} {p : Ent → Bool} {i : Nat} {e : Ent} (he : l[i]? = some e) (h : (l.take i).any p = false) (hp : p e = false) : (l.take (i + 1)).any p = false := by
  obtain ⟨hi, rfl⟩ := List.getElem?_eq_some_iff.1 he
  rw [← List.take_append_getElem hi, List.any_append, h]
  simp [hp]
theorem any_at {l : List Ent} {p : Ent → Bool} {i : Nat} {e : Ent} (he : l[i]? = some e) (hp : p e = true) : l.any p = true := by
  rw [List.any_eq_true]
  exact ⟨e, List.mem_of_getElem? he, hp⟩
theorem results_rowB {P : Program} {fn : Func} {p u : Tmp} {ty : TypeId} (h : fn.results = #[.cell p ty, .tmp u]) (tmps : Array Value) (w : World) (g : Nat) (t : TypeId) (cs : Array Value) (fr : Nat × Nat) (d : TypeDesc)
    {v : Value} (hp : tmps.getD p undef = .pointer (some ⟨g, 0, none⟩)) (hv : tmps.getD u undef = v) (hg : w.heap[g]? = some (.cells cs t fr))
    (hu : P.underlying ty = some d) (hd : (match d with | .struct _ | .array _ _ => true | _ => false) = true) (hi : (P.info? ty).map (·.size) = some cs.size) :
    (results fn tmps).run P w = .ok (.tuple #[.agg cs, v]) w := by
  rw [results_cell_tmp h, hp, hv]
  simp [asAddr, run_loadVar_row w g t ty cs fr d hg hu hd hi, Result.andThen]

theorem ecs_one (e : Ent) : ∀ u ∈ ecs e, u.oneCell' = true := by
  have := els_one [e]
  simpa [els] using this
theorem grown0 {w w' : World} {row : Option Nat} (h : w.grownBy w' row) : Below 0 w w' := ⟨h.os, h.tape, h.output, h.size, fun k hk => absurd hk (Nat.not_lt_zero k)⟩
/-- A slice is loaded out of its cell. -/
theorem run_load1 {w : World} {dst : Option Tmp} {x : Operand} {ty : TypeId} {pos : String} {after : Array Edge} {guard : Option (Nat × Bool)} {ρ : Operand → Value} {p : Addr} {A : Option Addr} {n c : Nat}
    (h : w.cell? p = some (.slice A n c)) (hx : ρ x = .pointer (some p)) : (execOp ρ { dst, op := .load 22 x, type := ty, pos, after, guard }).run Tryd.prog w = .ok (.value (.slice A n c)) w := by
  go_simp
/-- '[]api.Entry{e}' in a region that draws. -/
theorem wpList_buildE {w : World} {ops : Array Oper} {rest : List Oper} {o : Oper} {a : Act} {Q : Exit → Act → World → Prop} (hgd : o.guard = none) (x : Operand) (ho : o.op = .buildSlice 22 1 #[(0, x)]) (e : Ent) (hx : a.eval x = ev e)
    (h : wpList Tryd.prog ops Q rest (a.put o.dst (.slice (some ⟨w.heap.size, 0, none⟩) 1 1)) (w.alloc (.cells (ecs e).toArray 38))) : wpList Tryd.prog ops Q (o :: rest) a w := by
  obtain ⟨i, hi0, hz, hk, -⟩ := info_parts ent_info
  refine wpList_buildSlice hgd 22 38 1 _ ho (ecs e).toArray i (ev zeroE) Tryd.underlying22 hi0 hz (by rw [hk]; omega) (by rw [hk]; omega) ?_ h
  rw [hk]
  have hb : (Array.range (1 * 7)).map (fun x => (ev zeroE).cells[x % (ev zeroE).cells.size]!) = (ecs zeroE).toArray := by kernel_rfl
  rw [hb]
  simp [Instr.fill, ev, ecs, Value.cells, hx]

theorem take_step {es : List Ent} {i : Nat} {e : Ent} (he : es[i]? = some e) : es.take (i + 1) = es.take i ++ [e] := by
  obtain ⟨hi, rfl⟩ := List.getElem?_eq_some_iff.1 he
  exact (List.take_append_getElem hi).symm
theorem drop_step {es : List Ent} {i : Nat} {e : Ent} (he : es[i]? = some e) : es.drop i = e :: es.drop (i + 1) := by
  obtain ⟨hi, rfl⟩ := List.getElem?_eq_some_iff.1 he
  exact List.drop_eq_getElem_cons hi
theorem take_min (es : List Ent) (a : Nat) : es.take (min a es.length) = es.take a := by
  by_cases h : a ≤ es.length
  · rw [Nat.min_eq_left h]
  · rw [Nat.min_eq_right (by omega), List.take_of_length_le (Nat.le_refl _), List.take_of_length_le (by omega)]
theorem drop_min (es : List Ent) (a : Nat) : es.drop (min a es.length) = es.drop a := by
  by_cases h : a ≤ es.length
  · rw [Nat.min_eq_left h]
  · rw [Nat.min_eq_right (by omega), List.drop_of_length_le (Nat.le_refl _), List.drop_of_length_le (by omega)]

theorem run_loadI {w : World} {dst : Option Tmp} {x : Operand} {ty : TypeId} {pos : String} {after : Array Edge} {guard : Option (Nat × Bool)} {ρ : Operand → Value} {p : Addr} {k : Int}
    (h : w.cell? p = some (.int .i64 k)) (hx : ρ x = .pointer (some p)) : (execOp ρ { dst, op := .load 2 x, type := ty, pos, after, guard }).run Tryd.prog w = .ok (.value (.int .i64 k)) w := by
  go_simp
theorem Rd.rangeOf {w : World} {B c n b o i : Nat} {A : Option Addr} {l : List Ent} {y : Ent} (h : Rd w B A c 7 n (els l)) (hA : A = some ⟨b, o, none⟩) (hy : l[i]? = some y) : w.rangeAt b (o + i * 7) (ecs y) := by
  have hi : i < n := by have := h.elen; have := (List.getElem?_eq_some_iff.1 hy).1; omega
  obtain ⟨b', o', e, rfl, -, he, -, hr⟩ := h.entR hi
  cases hA
  obtain rfl : y = e := by have := hy.symm.trans he; exact Option.some.inj this
  exact hr
theorem range_stamp {w : World} {b o : Nat} {y : Ent} (h : w.rangeAt b o (ecs y)) : w.cell? ⟨b, o + 5, none⟩ = some (.int .i64 y.stamp) := h 5 _ rfl

theorem Rd.below2 {w w' : World} {B c k n : Nat} {A : Option Addr} {xs : List Value} (h : Rd w B A c k n xs) (hb : Below w.heap.size w w') : Rd w' w'.heap.size A c k n xs := (h.past hb).tight


section
variable {w w' : World} {S : List Nat}
theorem run_short {P : Program} {w : World} (t e : TypeId) {z : Option Value} {k bytes : Nat} (ht : P.underlying t = some (.slice e)) (hi : (P.info? e).map (fun i => (i.zero, i.size, i.bytes)) = some (z, k, bytes))
    (A : Option Addr) (n c m : Nat) (hm : m ≤ c) : (Instr.sliceAt t (.slice A n c) none (some (.int .i64 m)) none).run P w = .ok (.slice A m c) w := by
  rw [run_cut t e ht hi A n c none (some (.int .i64 m)) .i64 .i64 0 m (Or.inl ⟨rfl, rfl⟩) (Or.inr rfl) (Nat.zero_le _) hm]
  have h0 : (if c = 0 then A else A.map (·.add (0 * k))) = A := by
    split
    · rfl
    · cases A <;> simp [Addr.add]
  rw [h0]; rfl
/-- A slice that reads, behind a call that wrote other blocks. -/
theorem Rd.touch {B c k n : Nat} {A : Option Addr} {xs : List Value} (h : Rd w B A c k n xs) (ht : Touch S w w') (hs : 0 < n * k → ∀ s ∈ S, bk A ≠ some s) : Rd w' B A c k n xs :=
  ⟨h.1, h.2.1, h.2.2.1, h.2.2.2.1, fun hn => by
    obtain ⟨b, o, e, hB, hc⟩ := h.2.2.2.2 hn
    refine ⟨b, o, e, hB, fun j u hu => ?_⟩
    have hlt : b < w.heap.size := World.block_lt_of_cell? w _ (hc j u hu)
    have hb := ht.block b hlt (fun hm => hs hn b hm (by rw [e]; rfl))
    have := hc j u hu
    unfold World.cell? at this ⊢
    simp only [hb]
    exact this⟩
/-- What lies below B is apart from blocks that do not. -/
theorem Rd.apart {B c k n : Nat} {A : Option Addr} {xs : List Value} (h : Rd w B A c k n xs) (hS : ∀ s ∈ S, B ≤ s) : 0 < n * k → ∀ s ∈ S, bk A ≠ some s := by
  intro hn s hs e
  obtain ⟨b, o, hA, hb, _⟩ := h.2.2.2.2 hn
  rw [hA] at e
  have : b = s := by simpa [bk] using e
  have := hS s hs
  omega
end
end Go.Proofs.YtgcpofiecbpfbaaDoor

/- Contracts of the document's Same and Eq. -/
namespace Go.Proofs.YtgcpofiecbpfbaaDoor
open Go.RowKit

set_option maxRecDepth 100000 in
theorem rSame_c (w : World) (a b : Ent) : Calls Tryd.prog 58 #[ev a, ev b] w fun x w' => x = .returned (.bool (PEnt.same a b)) ∧ Below w.heap.size w w' := by
  obtain ⟨fr0, boot0, seq0, ord0, lev0, stamp0, data0⟩ := a
  obtain ⟨fr1, boot1, seq1, ord1, lev1, stamp1, data1⟩ := b
  have HS := Lib.hid (show PEnt.same ⟨fr0, boot0, seq0, ord0, lev0, stamp0, data0⟩ ⟨fr1, boot1, seq1, ord1, lev1, stamp1, data1⟩ = (fr0 == fr1 && boot0 == boot1 && seq0 == seq1) from rfl)
  cases q0 : (fr0 == fr1)
  · show Calls _ _ #[.agg #[.int .i64 fr0, .int .i64 boot0, .int .i64 seq0, .int .i64 ord0, .int .i64 lev0, .int .i64 stamp0, .string data0], .agg #[.int .i64 fr1, .int .i64 boot1, .int .i64 seq1, .int .i64 ord1, .int .i64 lev1, .int .i64 stamp1, .string data1]] _ _
    go_enter Tryd.func58, Tryd.ntmps58
    go_wp2_with fail
    go_ret
    exact ⟨by rw [HS.out]; simp [q0], ((Below.refl _ _).alloc (Nat.le_refl _) _).alloc (by simp) _⟩
  cases q1 : (boot0 == boot1)
  · show Calls _ _ #[.agg #[.int .i64 fr0, .int .i64 boot0, .int .i64 seq0, .int .i64 ord0, .int .i64 lev0, .int .i64 stamp0, .string data0], .agg #[.int .i64 fr1, .int .i64 boot1, .int .i64 seq1, .int .i64 ord1, .int .i64 lev1, .int .i64 stamp1, .string data1]] _ _
    go_enter Tryd.func58, Tryd.ntmps58
    go_wp2_with fail
    go_ret
    exact ⟨by rw [HS.out]; simp [q0, q1], ((Below.refl _ _).alloc (Nat.le_refl _) _).alloc (by simp) _⟩
  cases q2 : (seq0 == seq1)
  · show Calls _ _ #[.agg #[.int .i64 fr0, .int .i64 boot0, .int .i64 seq0, .int .i64 ord0, .int .i64 lev0, .int .i64 stamp0, .string data0], .agg #[.int .i64 fr1, .int .i64 boot1, .int .i64 seq1, .int .i64 ord1, .int .i64 lev1, .int .i64 stamp1, .string data1]] _ _
    go_enter Tryd.func58, Tryd.ntmps58
    go_wp2_with fail
    go_ret
    exact ⟨by rw [HS.out]; simp [q0, q1, q2], ((Below.refl _ _).alloc (Nat.le_refl _) _).alloc (by simp) _⟩
  show Calls _ _ #[.agg #[.int .i64 fr0, .int .i64 boot0, .int .i64 seq0, .int .i64 ord0, .int .i64 lev0, .int .i64 stamp0, .string data0], .agg #[.int .i64 fr1, .int .i64 boot1, .int .i64 seq1, .int .i64 ord1, .int .i64 lev1, .int .i64 stamp1, .string data1]] _ _
  go_enter Tryd.func58, Tryd.ntmps58
  go_wp2_with fail
  go_ret
  exact ⟨by rw [HS.out]; simp [q0, q1, q2], ((Below.refl _ _).alloc (Nat.le_refl _) _).alloc (by simp) _⟩

set_option maxRecDepth 100000 in
theorem rEq_c (w : World) (a b : Ent) : Calls Tryd.prog 45 #[ev a, ev b] w fun x w' => x = .returned (.bool (PEnt.eqE a b)) ∧ Below w.heap.size w w' := by
  have KS := Lib.hid (fun w => rSame_c w a b)
  obtain ⟨fr0, boot0, seq0, ord0, lev0, stamp0, data0⟩ := a
  obtain ⟨fr1, boot1, seq1, ord1, lev1, stamp1, data1⟩ := b
  have HS := Lib.hid (show PEnt.eqE ⟨fr0, boot0, seq0, ord0, lev0, stamp0, data0⟩ ⟨fr1, boot1, seq1, ord1, lev1, stamp1, data1⟩ = (fr0 == fr1 && boot0 == boot1 && seq0 == seq1 && ord0 == ord1 && lev0 == lev1 && stamp0 == stamp1 && data0.toList == data1.toList) from rfl)
  have HP := Lib.hid (show PEnt.same ⟨fr0, boot0, seq0, ord0, lev0, stamp0, data0⟩ ⟨fr1, boot1, seq1, ord1, lev1, stamp1, data1⟩ = (fr0 == fr1 && boot0 == boot1 && seq0 == seq1) from rfl)
  cases q0 : (fr0 == fr1 && boot0 == boot1 && seq0 == seq1)
  · rw [q0] at HS HP
    show Calls _ _ #[.agg #[.int .i64 fr0, .int .i64 boot0, .int .i64 seq0, .int .i64 ord0, .int .i64 lev0, .int .i64 stamp0, .string data0], .agg #[.int .i64 fr1, .int .i64 boot1, .int .i64 seq1, .int .i64 ord1, .int .i64 lev1, .int .i64 stamp1, .string data1]] _ _
    go_enter Tryd.func45, Tryd.ntmps45
    go_wp2_with fail
    have b0 := ((Below.refl w.heap.size w).alloc (Nat.le_refl _) (.cells #[.int .i64 fr0, .int .i64 boot0, .int .i64 seq0, .int .i64 ord0, .int .i64 lev0, .int .i64 stamp0, .string data0] 38)).alloc (by simp) (.cells #[.int .i64 fr1, .int .i64 boot1, .int .i64 seq1, .int .i64 ord1, .int .i64 lev1, .int .i64 stamp1, .string data1] 38)
    refine (KS.out _).mono ?_
    rw [HP.out]
    rintro e w1 ⟨rfl, b1⟩
    have k0 := (Blk.newEnt w 38 ⟨fr0, boot0, seq0, ord0, lev0, stamp0, data0⟩).alloc (.cells #[.int .i64 fr1, .int .i64 boot1, .int .i64 seq1, .int .i64 ord1, .int .i64 lev1, .int .i64 stamp1, .string data1] 38)
    have k1 := Blk.newEnt (w.alloc (.cells #[.int .i64 fr0, .int .i64 boot0, .int .i64 seq0, .int .i64 ord0, .int .i64 lev0, .int .i64 stamp0, .string data0] 38)) 38 ⟨fr1, boot1, seq1, ord1, lev1, stamp1, data1⟩
    rw [show (w.alloc (.cells #[.int .i64 fr0, .int .i64 boot0, .int .i64 seq0, .int .i64 ord0, .int .i64 lev0, .int .i64 stamp0, .string data0] 38)).heap.size = w.heap.size + 1 by simp] at k1
    obtain ⟨-, -, -, c03, c04, c05, c06⟩ := (k0.past b1).ent
    obtain ⟨-, -, -, c13, c14, c15, c16⟩ := (k1.past b1).ent
    have b2 := b0.trans (b1.mono b0.size)
    clear k0 k1 b0 b1
    go_wp2_with fail
    go_ret
    exact ⟨by rw [HS.out]; simp [], b2⟩
  rw [q0] at HS HP
  cases q1 : (ord0 == ord1)
  · show Calls _ _ #[.agg #[.int .i64 fr0, .int .i64 boot0, .int .i64 seq0, .int .i64 ord0, .int .i64 lev0, .int .i64 stamp0, .string data0], .agg #[.int .i64 fr1, .int .i64 boot1, .int .i64 seq1, .int .i64 ord1, .int .i64 lev1, .int .i64 stamp1, .string data1]] _ _
    go_enter Tryd.func45, Tryd.ntmps45
    go_wp2_with fail
    have b0 := ((Below.refl w.heap.size w).alloc (Nat.le_refl _) (.cells #[.int .i64 fr0, .int .i64 boot0, .int .i64 seq0, .int .i64 ord0, .int .i64 lev0, .int .i64 stamp0, .string data0] 38)).alloc (by simp) (.cells #[.int .i64 fr1, .int .i64 boot1, .int .i64 seq1, .int .i64 ord1, .int .i64 lev1, .int .i64 stamp1, .string data1] 38)
    refine (KS.out _).mono ?_
    rw [HP.out]
    rintro e w1 ⟨rfl, b1⟩
    have k0 := (Blk.newEnt w 38 ⟨fr0, boot0, seq0, ord0, lev0, stamp0, data0⟩).alloc (.cells #[.int .i64 fr1, .int .i64 boot1, .int .i64 seq1, .int .i64 ord1, .int .i64 lev1, .int .i64 stamp1, .string data1] 38)
    have k1 := Blk.newEnt (w.alloc (.cells #[.int .i64 fr0, .int .i64 boot0, .int .i64 seq0, .int .i64 ord0, .int .i64 lev0, .int .i64 stamp0, .string data0] 38)) 38 ⟨fr1, boot1, seq1, ord1, lev1, stamp1, data1⟩
    rw [show (w.alloc (.cells #[.int .i64 fr0, .int .i64 boot0, .int .i64 seq0, .int .i64 ord0, .int .i64 lev0, .int .i64 stamp0, .string data0] 38)).heap.size = w.heap.size + 1 by simp] at k1
    obtain ⟨-, -, -, c03, c04, c05, c06⟩ := (k0.past b1).ent
    obtain ⟨-, -, -, c13, c14, c15, c16⟩ := (k1.past b1).ent
    have b2 := b0.trans (b1.mono b0.size)
    clear k0 k1 b0 b1
    go_wp2_with fail
    go_ret
    exact ⟨by rw [HS.out]; simp [q1], b2⟩
  cases q2 : (lev0 == lev1)
  · show Calls _ _ #[.agg #[.int .i64 fr0, .int .i64 boot0, .int .i64 seq0, .int .i64 ord0, .int .i64 lev0, .int .i64 stamp0, .string data0], .agg #[.int .i64 fr1, .int .i64 boot1, .int .i64 seq1, .int .i64 ord1, .int .i64 lev1, .int .i64 stamp1, .string data1]] _ _
    go_enter Tryd.func45, Tryd.ntmps45
    go_wp2_with fail
    have b0 := ((Below.refl w.heap.size w).alloc (Nat.le_refl _) (.cells #[.int .i64 fr0, .int .i64 boot0, .int .i64 seq0, .int .i64 ord0, .int .i64 lev0, .int .i64 stamp0, .string data0] 38)).alloc (by simp) (.cells #[.int .i64 fr1, .int .i64 boot1, .int .i64 seq1, .int .i64 ord1, .int .i64 lev1, .int .i64 stamp1, .string data1] 38)
    refine (KS.out _).mono ?_
    rw [HP.out]
    rintro e w1 ⟨rfl, b1⟩
    have k0 := (Blk.newEnt w 38 ⟨fr0, boot0, seq0, ord0, lev0, stamp0, data0⟩).alloc (.cells #[.int .i64 fr1, .int .i64 boot1, .int .i64 seq1, .int .i64 ord1, .int .i64 lev1, .int .i64 stamp1, .string data1] 38)
    have k1 := Blk.newEnt (w.alloc (.cells #[.int .i64 fr0, .int .i64 boot0, .int .i64 seq0, .int .i64 ord0, .int .i64 lev0, .int .i64 stamp0, .string data0] 38)) 38 ⟨fr1, boot1, seq1, ord1, lev1, stamp1, data1⟩
    rw [show (w.alloc (.cells #[.int .i64 fr0, .int .i64 boot0, .int .i64 seq0, .int .i64 ord0, .int .i64 lev0, .int .i64 stamp0, .string data0] 38)).heap.size = w.heap.size + 1 by simp] at k1
    obtain ⟨-, -, -, c03, c04, c05, c06⟩ := (k0.past b1).ent
    obtain ⟨-, -, -, c13, c14, c15, c16⟩ := (k1.past b1).ent
    have b2 := b0.trans (b1.mono b0.size)
    clear k0 k1 b0 b1
    go_wp2_with fail
    go_ret
    exact ⟨by rw [HS.out]; simp [q1, q2], b2⟩
  cases q3 : (stamp0 == stamp1)
  · show Calls _ _ #[.agg #[.int .i64 fr0, .int .i64 boot0, .int .i64 seq0, .int .i64 ord0, .int .i64 lev0, .int .i64 stamp0, .string data0], .agg #[.int .i64 fr1, .int .i64 boot1, .int .i64 seq1, .int .i64 ord1, .int .i64 lev1, .int .i64 stamp1, .string data1]] _ _
    go_enter Tryd.func45, Tryd.ntmps45
    go_wp2_with fail
    have b0 := ((Below.refl w.heap.size w).alloc (Nat.le_refl _) (.cells #[.int .i64 fr0, .int .i64 boot0, .int .i64 seq0, .int .i64 ord0, .int .i64 lev0, .int .i64 stamp0, .string data0] 38)).alloc (by simp) (.cells #[.int .i64 fr1, .int .i64 boot1, .int .i64 seq1, .int .i64 ord1, .int .i64 lev1, .int .i64 stamp1, .string data1] 38)
    refine (KS.out _).mono ?_
    rw [HP.out]
    rintro e w1 ⟨rfl, b1⟩
    have k0 := (Blk.newEnt w 38 ⟨fr0, boot0, seq0, ord0, lev0, stamp0, data0⟩).alloc (.cells #[.int .i64 fr1, .int .i64 boot1, .int .i64 seq1, .int .i64 ord1, .int .i64 lev1, .int .i64 stamp1, .string data1] 38)
    have k1 := Blk.newEnt (w.alloc (.cells #[.int .i64 fr0, .int .i64 boot0, .int .i64 seq0, .int .i64 ord0, .int .i64 lev0, .int .i64 stamp0, .string data0] 38)) 38 ⟨fr1, boot1, seq1, ord1, lev1, stamp1, data1⟩
    rw [show (w.alloc (.cells #[.int .i64 fr0, .int .i64 boot0, .int .i64 seq0, .int .i64 ord0, .int .i64 lev0, .int .i64 stamp0, .string data0] 38)).heap.size = w.heap.size + 1 by simp] at k1
    obtain ⟨-, -, -, c03, c04, c05, c06⟩ := (k0.past b1).ent
    obtain ⟨-, -, -, c13, c14, c15, c16⟩ := (k1.past b1).ent
    have b2 := b0.trans (b1.mono b0.size)
    clear k0 k1 b0 b1
    go_wp2_with fail
    go_ret
    exact ⟨by rw [HS.out]; simp [q1, q2, q3], b2⟩
  cases q4 : (data0.toList == data1.toList)
  · show Calls _ _ #[.agg #[.int .i64 fr0, .int .i64 boot0, .int .i64 seq0, .int .i64 ord0, .int .i64 lev0, .int .i64 stamp0, .string data0], .agg #[.int .i64 fr1, .int .i64 boot1, .int .i64 seq1, .int .i64 ord1, .int .i64 lev1, .int .i64 stamp1, .string data1]] _ _
    go_enter Tryd.func45, Tryd.ntmps45
    go_wp2_with fail
    have b0 := ((Below.refl w.heap.size w).alloc (Nat.le_refl _) (.cells #[.int .i64 fr0, .int .i64 boot0, .int .i64 seq0, .int .i64 ord0, .int .i64 lev0, .int .i64 stamp0, .string data0] 38)).alloc (by simp) (.cells #[.int .i64 fr1, .int .i64 boot1, .int .i64 seq1, .int .i64 ord1, .int .i64 lev1, .int .i64 stamp1, .string data1] 38)
    refine (KS.out _).mono ?_
    rw [HP.out]
    rintro e w1 ⟨rfl, b1⟩
    have k0 := (Blk.newEnt w 38 ⟨fr0, boot0, seq0, ord0, lev0, stamp0, data0⟩).alloc (.cells #[.int .i64 fr1, .int .i64 boot1, .int .i64 seq1, .int .i64 ord1, .int .i64 lev1, .int .i64 stamp1, .string data1] 38)
    have k1 := Blk.newEnt (w.alloc (.cells #[.int .i64 fr0, .int .i64 boot0, .int .i64 seq0, .int .i64 ord0, .int .i64 lev0, .int .i64 stamp0, .string data0] 38)) 38 ⟨fr1, boot1, seq1, ord1, lev1, stamp1, data1⟩
    rw [show (w.alloc (.cells #[.int .i64 fr0, .int .i64 boot0, .int .i64 seq0, .int .i64 ord0, .int .i64 lev0, .int .i64 stamp0, .string data0] 38)).heap.size = w.heap.size + 1 by simp] at k1
    obtain ⟨-, -, -, c03, c04, c05, c06⟩ := (k0.past b1).ent
    obtain ⟨-, -, -, c13, c14, c15, c16⟩ := (k1.past b1).ent
    have b2 := b0.trans (b1.mono b0.size)
    clear k0 k1 b0 b1
    go_wp2_with fail
    go_ret
    exact ⟨by rw [HS.out]; simp [q1, q2, q3, q4], b2⟩
  show Calls _ _ #[.agg #[.int .i64 fr0, .int .i64 boot0, .int .i64 seq0, .int .i64 ord0, .int .i64 lev0, .int .i64 stamp0, .string data0], .agg #[.int .i64 fr1, .int .i64 boot1, .int .i64 seq1, .int .i64 ord1, .int .i64 lev1, .int .i64 stamp1, .string data1]] _ _
  go_enter Tryd.func45, Tryd.ntmps45
  go_wp2_with fail
  have b0 := ((Below.refl w.heap.size w).alloc (Nat.le_refl _) (.cells #[.int .i64 fr0, .int .i64 boot0, .int .i64 seq0, .int .i64 ord0, .int .i64 lev0, .int .i64 stamp0, .string data0] 38)).alloc (by simp) (.cells #[.int .i64 fr1, .int .i64 boot1, .int .i64 seq1, .int .i64 ord1, .int .i64 lev1, .int .i64 stamp1, .string data1] 38)
  refine (KS.out _).mono ?_
  rw [HP.out]
  rintro e w1 ⟨rfl, b1⟩
  have k0 := (Blk.newEnt w 38 ⟨fr0, boot0, seq0, ord0, lev0, stamp0, data0⟩).alloc (.cells #[.int .i64 fr1, .int .i64 boot1, .int .i64 seq1, .int .i64 ord1, .int .i64 lev1, .int .i64 stamp1, .string data1] 38)
  have k1 := Blk.newEnt (w.alloc (.cells #[.int .i64 fr0, .int .i64 boot0, .int .i64 seq0, .int .i64 ord0, .int .i64 lev0, .int .i64 stamp0, .string data0] 38)) 38 ⟨fr1, boot1, seq1, ord1, lev1, stamp1, data1⟩
  rw [show (w.alloc (.cells #[.int .i64 fr0, .int .i64 boot0, .int .i64 seq0, .int .i64 ord0, .int .i64 lev0, .int .i64 stamp0, .string data0] 38)).heap.size = w.heap.size + 1 by simp] at k1
  obtain ⟨-, -, -, c03, c04, c05, c06⟩ := (k0.past b1).ent
  obtain ⟨-, -, -, c13, c14, c15, c16⟩ := (k1.past b1).ent
  have b2 := b0.trans (b1.mono b0.size)
  clear k0 k1 b0 b1
  go_wp2_with fail
  go_ret
  exact ⟨by rw [HS.out]; simp [q1, q2, q3, q4], b2⟩

end Go.Proofs.YtgcpofiecbpfbaaDoor

/- Contract of entry.Eq. -/
namespace Go.Proofs.YtgcpofiecbpfbaaDoor
open Go.RowKit

set_option maxRecDepth 100000 in
theorem Eq_c (w : World) (a b : Ent) : Calls Tryd.prog 28 #[ev a, ev b] w fun x w' => x = .returned (.bool (PEnt.eqE a b)) ∧ Below w.heap.size w w' := by
  obtain ⟨fr0, boot0, seq0, ord0, lev0, stamp0, data0⟩ := a
  obtain ⟨fr1, boot1, seq1, ord1, lev1, stamp1, data1⟩ := b
  have HS := Lib.hid (show PEnt.eqE ⟨fr0, boot0, seq0, ord0, lev0, stamp0, data0⟩ ⟨fr1, boot1, seq1, ord1, lev1, stamp1, data1⟩ = (fr0 == fr1 && boot0 == boot1 && seq0 == seq1 && ord0 == ord1 && lev0 == lev1 && stamp0 == stamp1 && data0.toList == data1.toList) from rfl)
  cases q0 : (fr0 == fr1)
  · show Calls _ _ #[.agg #[.int .i64 fr0, .int .i64 boot0, .int .i64 seq0, .int .i64 ord0, .int .i64 lev0, .int .i64 stamp0, .string data0], .agg #[.int .i64 fr1, .int .i64 boot1, .int .i64 seq1, .int .i64 ord1, .int .i64 lev1, .int .i64 stamp1, .string data1]] _ _
    go_enter Tryd.func28, Tryd.ntmps28
    go_wp2_with fail
    go_ret
    exact ⟨by rw [HS.out]; simp [q0], ((Below.refl _ _).alloc (Nat.le_refl _) _).alloc (by simp) _⟩
  cases q1 : (boot0 == boot1)
  · show Calls _ _ #[.agg #[.int .i64 fr0, .int .i64 boot0, .int .i64 seq0, .int .i64 ord0, .int .i64 lev0, .int .i64 stamp0, .string data0], .agg #[.int .i64 fr1, .int .i64 boot1, .int .i64 seq1, .int .i64 ord1, .int .i64 lev1, .int .i64 stamp1, .string data1]] _ _
    go_enter Tryd.func28, Tryd.ntmps28
    go_wp2_with fail
    go_ret
    exact ⟨by rw [HS.out]; simp [q0, q1], ((Below.refl _ _).alloc (Nat.le_refl _) _).alloc (by simp) _⟩
  cases q2 : (seq0 == seq1)
  · show Calls _ _ #[.agg #[.int .i64 fr0, .int .i64 boot0, .int .i64 seq0, .int .i64 ord0, .int .i64 lev0, .int .i64 stamp0, .string data0], .agg #[.int .i64 fr1, .int .i64 boot1, .int .i64 seq1, .int .i64 ord1, .int .i64 lev1, .int .i64 stamp1, .string data1]] _ _
    go_enter Tryd.func28, Tryd.ntmps28
    go_wp2_with fail
    go_ret
    exact ⟨by rw [HS.out]; simp [q0, q1, q2], ((Below.refl _ _).alloc (Nat.le_refl _) _).alloc (by simp) _⟩
  cases q3 : (ord0 == ord1)
  · show Calls _ _ #[.agg #[.int .i64 fr0, .int .i64 boot0, .int .i64 seq0, .int .i64 ord0, .int .i64 lev0, .int .i64 stamp0, .string data0], .agg #[.int .i64 fr1, .int .i64 boot1, .int .i64 seq1, .int .i64 ord1, .int .i64 lev1, .int .i64 stamp1, .string data1]] _ _
    go_enter Tryd.func28, Tryd.ntmps28
    go_wp2_with fail
    go_ret
    exact ⟨by rw [HS.out]; simp [q0, q1, q2, q3], ((Below.refl _ _).alloc (Nat.le_refl _) _).alloc (by simp) _⟩
  cases q4 : (lev0 == lev1)
  · show Calls _ _ #[.agg #[.int .i64 fr0, .int .i64 boot0, .int .i64 seq0, .int .i64 ord0, .int .i64 lev0, .int .i64 stamp0, .string data0], .agg #[.int .i64 fr1, .int .i64 boot1, .int .i64 seq1, .int .i64 ord1, .int .i64 lev1, .int .i64 stamp1, .string data1]] _ _
    go_enter Tryd.func28, Tryd.ntmps28
    go_wp2_with fail
    go_ret
    exact ⟨by rw [HS.out]; simp [q0, q1, q2, q3, q4], ((Below.refl _ _).alloc (Nat.le_refl _) _).alloc (by simp) _⟩
  cases q5 : (stamp0 == stamp1)
  · show Calls _ _ #[.agg #[.int .i64 fr0, .int .i64 boot0, .int .i64 seq0, .int .i64 ord0, .int .i64 lev0, .int .i64 stamp0, .string data0], .agg #[.int .i64 fr1, .int .i64 boot1, .int .i64 seq1, .int .i64 ord1, .int .i64 lev1, .int .i64 stamp1, .string data1]] _ _
    go_enter Tryd.func28, Tryd.ntmps28
    go_wp2_with fail
    go_ret
    exact ⟨by rw [HS.out]; simp [q0, q1, q2, q3, q4, q5], ((Below.refl _ _).alloc (Nat.le_refl _) _).alloc (by simp) _⟩
  cases q6 : (data0.toList == data1.toList)
  · show Calls _ _ #[.agg #[.int .i64 fr0, .int .i64 boot0, .int .i64 seq0, .int .i64 ord0, .int .i64 lev0, .int .i64 stamp0, .string data0], .agg #[.int .i64 fr1, .int .i64 boot1, .int .i64 seq1, .int .i64 ord1, .int .i64 lev1, .int .i64 stamp1, .string data1]] _ _
    go_enter Tryd.func28, Tryd.ntmps28
    go_wp2_with fail
    go_ret
    exact ⟨by rw [HS.out]; simp [q0, q1, q2, q3, q4, q5, q6], ((Below.refl _ _).alloc (Nat.le_refl _) _).alloc (by simp) _⟩
  show Calls _ _ #[.agg #[.int .i64 fr0, .int .i64 boot0, .int .i64 seq0, .int .i64 ord0, .int .i64 lev0, .int .i64 stamp0, .string data0], .agg #[.int .i64 fr1, .int .i64 boot1, .int .i64 seq1, .int .i64 ord1, .int .i64 lev1, .int .i64 stamp1, .string data1]] _ _
  go_enter Tryd.func28, Tryd.ntmps28
  go_wp2_with fail
  go_ret
  exact ⟨by rw [HS.out]; simp [q0, q1, q2, q3, q4, q5, q6], ((Below.refl _ _).alloc (Nat.le_refl _) _).alloc (by simp) _⟩

end Go.Proofs.YtgcpofiecbpfbaaDoor

/- Contract of the library's EqualFunc at entries, by entry.Eq. -/
namespace Go.Proofs.YtgcpofiecbpfbaaDoor
open Go.RowKit

theorem eqL_drop {l m : List Ent} {i : Nat} {a b : Ent} (h1 : l[i]? = some a) (h2 : m[i]? = some b) : PEnt.eqL (l.drop i) (m.drop i) = (PEnt.eqE a b && PEnt.eqL (l.drop (i + 1)) (m.drop (i + 1))) := eqL_step h1 h2

set_option maxHeartbeats 4000000 in
set_option maxRecDepth 100000 in
/-- EqualFunc, by the program's Eq. -/
theorem equalE_c (w : World) (B1 B2 : Nat) (A A2 : Option Addr) (c n c2 n2 : Nat) (l l2 : List Ent) (h : Rd w B1 A c 7 n (els l)) (h2 : Rd w B2 A2 c2 7 n2 (els l2)) :
    Calls Tryd.prog 27 #[.slice A n c, .slice A2 n2 c2, .func (.func 28) #[] #[]] w fun x w' => x = .returned (.bool (PEnt.eqL l l2)) ∧ Below w.heap.size w w' := by
  have HL1 := Lib.hid h.elen
  have HL2 := Lib.hid h2.elen
  have hcap := h.cap
  have hle := h.le
  have hn : n ≤ 9223372036854775807 := by unfold maxLen at hcap; omega
  have hcap2 := h2.cap
  have hle2 := h2.le
  have hn2 : n2 ≤ 9223372036854775807 := by unfold maxLen at hcap2; omega
  have R1 := Lib.hid h.tight
  have R2 := Lib.hid h2.tight
  have eg : ∀ args w, (callFunc 28 args).run Tryd.prog w = .ok (.enter 28 args) w := enters_of Tryd.func28 (by kernel_rfl) rfl
  clear h h2 hcap hle hcap2 hle2
  by_cases hne : n = n2
  · subst hne
    go_enter Tryd.func27, Tryd.ntmps27
    go_wp2_with fail
    go_loopw [17] (fun s17 wr => ∃ i : Nat, i ≤ n ∧ s17 = .int .i64 i ∧ Hid (PEnt.eqL l l2 = PEnt.eqL (l.drop i) (l2.drop i)) ∧ Hid (Below w.heap.size w wr)) (fun s17 _ => n - (intOf s17).toNat)
    case atStart => exact ⟨0, by omega, rfl, Lib.hid rfl, Lib.hid (Below.refl _ _)⟩
    case round =>
      obtain ⟨i, hi, rfl, HQ, BL⟩ := hrel
      by_cases hlt : i < n
      · obtain ⟨b1, o1, e1, rfl, hb1, he1, -, d0, d1, d2, d3, d4, d5, d6⟩ := (R1.out.below BL.out).ent hlt
        obtain ⟨b2, o2, e2, rfl, hb2, he2, -, g0, g1, g2, g3, g4, g5, g6⟩ := (R2.out.below BL.out).ent hlt
        have HS := Lib.hid (eqL_step he1 he2)
        clear he1 he2
        have sz := BL.out.size
        have a1 := (Below.refl wr.heap.size wr).alloc (Nat.le_refl _) (.cells #[.int .i64 e1.fr, .int .i64 e1.boot, .int .i64 e1.seq, .int .i64 e1.ord, .int .i64 e1.lev, .int .i64 e1.stamp, .string e1.data] 38)
        have a2 := (a1.alloc (by simp) (.cells #[.int .i64 e2.fr, .int .i64 e2.boot, .int .i64 e2.seq, .int .i64 e2.ord, .int .i64 e2.lev, .int .i64 e2.stamp, .string e2.data] 38))
        have c0 := (a1.cell (p := ⟨b2, o2 + i * 7, none⟩) (by show b2 < _; omega)).trans g0
        have c1 := (a1.cell (p := ⟨b2, o2 + i * 7 + 1, none⟩) (by show b2 < _; omega)).trans g1
        have c2' := (a1.cell (p := ⟨b2, o2 + i * 7 + 2, none⟩) (by show b2 < _; omega)).trans g2
        have c3 := (a1.cell (p := ⟨b2, o2 + i * 7 + 3, none⟩) (by show b2 < _; omega)).trans g3
        have c4 := (a1.cell (p := ⟨b2, o2 + i * 7 + 4, none⟩) (by show b2 < _; omega)).trans g4
        have c5 := (a1.cell (p := ⟨b2, o2 + i * 7 + 5, none⟩) (by show b2 < _; omega)).trans g5
        have c6 := (a1.cell (p := ⟨b2, o2 + i * 7 + 6, none⟩) (by show b2 < _; omega)).trans g6
        clear g0 g1 g2 g3 g4 g5 g6 hb1 hb2
        have BA := Lib.hid (BL.out.trans (a2.mono sz))
        clear a1 a2
        go_wp2_with fail
        clear d0 d1 d2 d3 d4 d5 d6 c0 c1 c2' c3 c4 c5 c6
        generalize ((wr.alloc (.cells #[.int .i64 e1.fr, .int .i64 e1.boot, .int .i64 e1.seq, .int .i64 e1.ord, .int .i64 e1.lev, .int .i64 e1.stamp, .string e1.data] 38)).alloc (.cells #[.int .i64 e2.fr, .int .i64 e2.boot, .int .i64 e2.seq, .int .i64 e2.ord, .int .i64 e2.lev, .int .i64 e2.stamp, .string e2.data] 38)) = w2 at *
        refine (Eq_c w2 e1 e2).mono ?_
        cases hq : PEnt.eqE e1 e2
        · have HE := Lib.hid (HQ.out.trans (HS.out.trans (by rw [hq])))
          clear hq
          rintro x w3 ⟨rfl, b3⟩
          go_wp2_with fail
          go_ret
          exact ⟨by rw [HE.out]; rfl, BA.out.trans (b3.mono BA.out.size)⟩
        · have HE := Lib.hid (HQ.out.trans (HS.out.trans (by rw [hq])))
          clear hq
          rintro x w3 ⟨rfl, b3⟩
          go_wp2_with fail
          go_roundw
          case rel => exact ⟨i + 1, by omega, by go_num, HE, Lib.hid (BA.out.trans (b3.mono BA.out.size))⟩
          case measure => simp [intOf]; omega
      · obtain rfl : i = n := by omega
        have HE := Lib.hid (HQ.out.trans (by rw [List.drop_of_length_le (by rw [HL1.out]; omega), List.drop_of_length_le (by rw [HL2.out]; omega)]))
        go_wp2_with fail
        go_ret
        exact ⟨by rw [HE.out]; rfl, BL.out⟩
  · have HE := Lib.hid (eqL_ne (l := l) (m := l2) (by rw [HL1.out, HL2.out]; exact hne))
    go_enter Tryd.func27, Tryd.ntmps27
    go_wp2_with fail
    go_ret
    exact ⟨by rw [HE.out]; rfl, Below.refl _ _⟩

end Go.Proofs.YtgcpofiecbpfbaaDoor

/- Contract of Eq. -/
namespace Go.Proofs.YtgcpofiecbpfbaaDoor
open Go.RowKit

set_option maxHeartbeats 4000000 in
set_option maxRecDepth 100000 in
theorem wEq_c (w : World) (a b : Msg) (A A2 : Option Addr) (c c2 : Nat) (h : Rd w w.heap.size A c 7 a.es.length (els a.es)) (h2 : Rd w w.heap.size A2 c2 7 b.es.length (els b.es)) :
    Calls Tryd.prog 13 #[mv a A c, mv b A2 c2] w fun x w' => x = .returned (.bool (PMsg.eqM a b)) ∧ Below w.heap.size w w' := by
  have W1 := Lib.hid ((Below.refl w.heap.size w).alloc (Nat.le_refl _) (.cells #[.int .i64 a.kind, .int .i64 a.fr, .int .i64 a.dst, .int .i64 a.boot, .int .i64 a.view, .int .i64 a.last, .int .i64 a.mem, .int .i64 a.pos, .slice A a.es.length c, .int .i64 a.com, .int .i64 a.num, .int .i64 a.clk, .bool a.yes] 24))
  have KA0 := Blk.new w #[.int .i64 a.kind, .int .i64 a.fr, .int .i64 a.dst, .int .i64 a.boot, .int .i64 a.view, .int .i64 a.last, .int .i64 a.mem, .int .i64 a.pos, .slice A a.es.length c, .int .i64 a.com, .int .i64 a.num, .int .i64 a.clk, .bool a.yes] 24
  have HE := Lib.hid (PMsg.eqM_ns a b)
  have R10 := Lib.hid h
  have R20 := Lib.hid h2
  clear h h2
  show Calls _ _ #[.agg #[.int .i64 a.kind, .int .i64 a.fr, .int .i64 a.dst, .int .i64 a.boot, .int .i64 a.view, .int .i64 a.last, .int .i64 a.mem, .int .i64 a.pos, .slice A a.es.length c, .int .i64 a.com, .int .i64 a.num, .int .i64 a.clk, .bool a.yes], .agg #[.int .i64 b.kind, .int .i64 b.fr, .int .i64 b.dst, .int .i64 b.boot, .int .i64 b.view, .int .i64 b.last, .int .i64 b.mem, .int .i64 b.pos, .slice A2 b.es.length c2, .int .i64 b.com, .int .i64 b.num, .int .i64 b.clk, .bool b.yes]] _ _
  go_enter Tryd.func13, Tryd.ntmps13
  go_wp2_with fail
  have hs : (w.alloc (.cells #[.int .i64 a.kind, .int .i64 a.fr, .int .i64 a.dst, .int .i64 a.boot, .int .i64 a.view, .int .i64 a.last, .int .i64 a.mem, .int .i64 a.pos, .slice A a.es.length c, .int .i64 a.com, .int .i64 a.num, .int .i64 a.clk, .bool a.yes] 24)).heap.size = w.heap.size + 1 := by simp
  generalize w.alloc (.cells #[.int .i64 a.kind, .int .i64 a.fr, .int .i64 a.dst, .int .i64 a.boot, .int .i64 a.view, .int .i64 a.last, .int .i64 a.mem, .int .i64 a.pos, .slice A a.es.length c, .int .i64 a.com, .int .i64 a.num, .int .i64 a.clk, .bool a.yes] 24) = w1 at *
  have W2 := Lib.hid (W1.out.trans (((Below.refl w1.heap.size w1).alloc (Nat.le_refl _) (.cells #[.int .i64 b.kind, .int .i64 b.fr, .int .i64 b.dst, .int .i64 b.boot, .int .i64 b.view, .int .i64 b.last, .int .i64 b.mem, .int .i64 b.pos, .slice A2 b.es.length c2, .int .i64 b.com, .int .i64 b.num, .int .i64 b.clk, .bool b.yes] 24)).mono W1.out.size))
  have KA1 := KA0.alloc (.cells #[.int .i64 b.kind, .int .i64 b.fr, .int .i64 b.dst, .int .i64 b.boot, .int .i64 b.view, .int .i64 b.last, .int .i64 b.mem, .int .i64 b.pos, .slice A2 b.es.length c2, .int .i64 b.com, .int .i64 b.num, .int .i64 b.clk, .bool b.yes] 24)
  have KB1 := Blk.new w1 #[.int .i64 b.kind, .int .i64 b.fr, .int .i64 b.dst, .int .i64 b.boot, .int .i64 b.view, .int .i64 b.last, .int .i64 b.mem, .int .i64 b.pos, .slice A2 b.es.length c2, .int .i64 b.com, .int .i64 b.num, .int .i64 b.clk, .bool b.yes] 24
  rw [hs] at KB1
  have S2 : (w1.alloc (.cells #[.int .i64 b.kind, .int .i64 b.fr, .int .i64 b.dst, .int .i64 b.boot, .int .i64 b.view, .int .i64 b.last, .int .i64 b.mem, .int .i64 b.pos, .slice A2 b.es.length c2, .int .i64 b.com, .int .i64 b.num, .int .i64 b.clk, .bool b.yes] 24)).heap.size = w.heap.size + 2 := by simp [hs]
  generalize w1.alloc (.cells #[.int .i64 b.kind, .int .i64 b.fr, .int .i64 b.dst, .int .i64 b.boot, .int .i64 b.view, .int .i64 b.last, .int .i64 b.mem, .int .i64 b.pos, .slice A2 b.es.length c2, .int .i64 b.com, .int .i64 b.num, .int .i64 b.clk, .bool b.yes] 24) = w2 at *
  have KA := Lib.hid (show Blk w2 w.heap.size 24 (mcs a A c) from KA1)
  have KB := Lib.hid (show Blk w2 (w.heap.size + 1) 24 (mcs b A2 c2) from KB1)
  have R1 := Lib.hid ((R10.out.past W2.out).tight)
  have R2 := Lib.hid ((R20.out.past W2.out).tight)
  have HS := Lib.hid S2
  clear KA0 KA1 KB1 hs S2 R10 R20
  cases hq : decide (PMsg.ns a = PMsg.ns b)
  · have HQ := Lib.hid hq
    have HF := Lib.hid (HE.out.trans (by rw [hq]; rfl : _ = false))
    clear hq
-- REGION curfew/wire.Eq 1 weq1f 4
    refine Hb.begin ?_
    refine Hb.take (v := mv a A c) 0 5 rfl ?_ (fun w' hw' => by exact run_loadM (KA.out.drew.past hw') rfl)
    refine Hb.take (v := mv b A2 c2) 2 7 rfl ?_ (fun w' hw' => by exact run_loadM (KB.out.drew.past hw') rfl)
    refine Hb.call (f := 26) (args := #[mv a A c]) 1 6 rfl ?_ (run_callf Tryd.func26 (by kernel_rfl) (by kernel_rfl) (by simp only [List.map_toArray, List.map_cons, List.map_nil]; rfl))
    refine (wNums_c w2.drew a A c).mono ?_
    rintro x w3 ⟨rfl, b3⟩
    have KA := Lib.hid (KA.out.drew.past b3)
    have KB := Lib.hid (KB.out.drew.past b3)
    have B3 := Lib.hid (show Below w2.heap.size w2 w3 from (Below.refl _ _).drew.trans b3)
    refine Hb.back b3 b3.size ?_
    refine Hb.call (f := 26) (args := #[mv b A2 c2]) 3 8 rfl ?_ (run_callf Tryd.func26 (by kernel_rfl) (by kernel_rfl) (by simp only [List.map_toArray, List.map_cons, List.map_nil]; rfl))
    refine (wNums_c w3 b A2 c2).mono ?_
    rintro x w4 ⟨rfl, b4⟩
    have KA := Lib.hid (KA.out.past b4)
    have KB := Lib.hid (KB.out.past b4)
    have B4 := Lib.hid (B3.out.trans (b4.mono B3.out.size))
    refine Hb.back b4 b4.size ?_
    refine Hb.take (v := .bool false) 4 9 rfl ?_ (fun w' hw' => by exact run_numsEq rfl rfl (PMsg.ns_length a) (PMsg.ns_length b) HQ.out)
    refine Hb.take (v := .bool false) 5 10 rfl ?_ (fun _ _ => rfl)
    refine Hb.pass 6 11 rfl ?_
    refine Hb.pass 7 12 rfl ?_
    refine Hb.pass 8 13 rfl ?_
    refine Hb.pass 9 14 rfl ?_
    refine Hb.pass 10 15 rfl ?_
    refine Hb.take (v := Value.bool false) 11 16 rfl ?_ (fun _ _ => rfl)
    refine Hb.take (v := Value.bool false) 12 4 rfl ?_ (fun _ _ => rfl)
    refine Hb.done ?_
-- END
    go_wp2_with fail
    go_ret
    exact ⟨by rw [HF.out]; rfl, W2.out.trans (B4.out.mono W2.out.size)⟩
  · have HQ := Lib.hid hq
    have HF := Lib.hid (HE.out.trans (by rw [hq]; rfl : _ = PEnt.eqL a.es b.es))
    clear hq
-- REGION curfew/wire.Eq 1 weq1t 4
    refine Hb.begin ?_
    refine Hb.take (v := mv a A c) 0 5 rfl ?_ (fun w' hw' => by exact run_loadM (KA.out.drew.past hw') rfl)
    refine Hb.take (v := mv b A2 c2) 2 7 rfl ?_ (fun w' hw' => by exact run_loadM (KB.out.drew.past hw') rfl)
    refine Hb.call (f := 26) (args := #[mv a A c]) 1 6 rfl ?_ (run_callf Tryd.func26 (by kernel_rfl) (by kernel_rfl) (by simp only [List.map_toArray, List.map_cons, List.map_nil]; rfl))
    refine (wNums_c w2.drew a A c).mono ?_
    rintro x w3 ⟨rfl, b3⟩
    have KA := Lib.hid (KA.out.drew.past b3)
    have KB := Lib.hid (KB.out.drew.past b3)
    have B3 := Lib.hid (show Below w2.heap.size w2 w3 from (Below.refl _ _).drew.trans b3)
    refine Hb.back b3 b3.size ?_
    refine Hb.call (f := 26) (args := #[mv b A2 c2]) 3 8 rfl ?_ (run_callf Tryd.func26 (by kernel_rfl) (by kernel_rfl) (by simp only [List.map_toArray, List.map_cons, List.map_nil]; rfl))
    refine (wNums_c w3 b A2 c2).mono ?_
    rintro x w4 ⟨rfl, b4⟩
    have KA := Lib.hid (KA.out.past b4)
    have KB := Lib.hid (KB.out.past b4)
    have B4 := Lib.hid (B3.out.trans (b4.mono B3.out.size))
    refine Hb.back b4 b4.size ?_
    refine Hb.take (v := .bool true) 4 9 rfl ?_ (fun w' hw' => by exact run_numsEq rfl rfl (PMsg.ns_length a) (PMsg.ns_length b) HQ.out)
    refine Hb.take (v := .bool true) 5 10 rfl ?_ (fun _ _ => rfl)
    refine Hb.take 6 11 rfl ?_ (fun w' hw' => by go_simp; first | done | rfl)
    refine Hb.take (v := .slice A a.es.length c) 7 12 rfl ?_ (fun w' hw' => by have hc := (KA.out.past hw').cell (i := 8) rfl; go_simp)
    refine Hb.take 8 13 rfl ?_ (fun w' hw' => by go_simp; first | done | rfl)
    refine Hb.take (v := .slice A2 b.es.length c2) 9 14 rfl ?_ (fun w' hw' => by have hc := (KB.out.past hw').cell (i := 8) rfl; go_simp)
    refine Hb.call (f := 27) (args := #[.slice A a.es.length c, .slice A2 b.es.length c2, .func (.func 28) #[] #[]]) 10 15 rfl ?_ (run_callf Tryd.func27 (by kernel_rfl) (by kernel_rfl) (by simp only [List.map_toArray, List.map_cons, List.map_nil]; rfl))
    refine (equalE_c w4 _ _ A A2 c a.es.length c2 b.es.length a.es b.es (R1.out.past B4.out) (R2.out.past B4.out)).mono ?_
    rintro x w5 ⟨rfl, b5⟩
    have B5 := Lib.hid (B4.out.trans (b5.mono B4.out.size))
    refine Hb.back b5 b5.size ?_
    refine Hb.take (v := .bool (PEnt.eqL a.es b.es)) 11 16 rfl ?_ (fun _ _ => rfl)
    refine Hb.take (v := .bool (PEnt.eqL a.es b.es)) 12 4 rfl ?_ (fun _ _ => rfl)
    refine Hb.done ?_
-- END
    go_wp2_with fail
    go_ret
    exact ⟨by rw [HF.out]; rfl, W2.out.trans (B5.out.mono W2.out.size)⟩
end Go.Proofs.YtgcpofiecbpfbaaDoor

/- An int's cells in the program. -/
namespace Go.Proofs.YtgcpofiecbpfbaaDoor
open Go.RowKit

theorem int_info : (Tryd.prog.info? 3).map (fun i => (i.zero, i.size, i.bytes)) = some (some (.int .i64 0), 1, 8) := by kernel_rfl

/-- Ints, as cells. -/
def is (l : List Int) : List Value := l.map (Value.int .i64)
theorem is_length (l : List Int) : (is l).length = l.length := by simp [is]
theorem is_append (l m : List Int) : is (l ++ m) = is l ++ is m := by simp [is]
theorem is_one (l : List Int) : ∀ u ∈ is l, u.oneCell' = true := ints_oneCell .i64 l
theorem is_getD (l : List Int) (i : Nat) (h : i < l.length) : (is l).getD i undef = .int .i64 (l.getD i 0) := by
  simp [is, List.getD, List.getElem?_map, List.getElem?_eq_getElem h]
theorem is_take (l : List Int) (i : Nat) : is (l.take i) = (is l).take i := by simp [is]
theorem is_drop (l : List Int) (i : Nat) : is (l.drop i) = (is l).drop i := by simp [is]
theorem Rd.ilen {w : World} {B : Nat} {A : Option Addr} {c n : Nat} {l : List Int} (h : Rd w B A c 1 n (is l)) : l.length = n := by
  have := h.len; rw [is_length] at this; omega
theorem Rd.int {w : World} {B : Nat} {A : Option Addr} {c n : Nat} {l : List Int} (h : Rd w B A c 1 n (is l)) {i : Nat} (hi : i < n) :
    ∃ b o x, A = some ⟨b, o, none⟩ ∧ w.cell? ⟨b, o + i, none⟩ = some (.int .i64 x) ∧ l.drop i = x :: l.drop (i + 1) ∧ x = l.getD i 0 := by
  have hl : i < l.length := by have := h.ilen; omega
  obtain ⟨b, o, hA, _, hc⟩ := h.at_ hi
  refine ⟨b, o, l[i], hA, ?_, List.drop_eq_getElem_cons hl, by simp [List.getD, List.getElem?_eq_getElem hl]⟩
  rw [hc, is_getD _ _ hl]
  simp [List.getD, List.getElem?_eq_getElem hl]

end Go.Proofs.YtgcpofiecbpfbaaDoor

/- Plain mathematics of teams: bits of numbers below 128. No program is named here. -/
namespace Go.Proofs.YtgcpofiecbpfbaaDoor.PTeam

/-- The team of one. -/
def one (id : Int) : Nat := if 1 ≤ id ∧ id ≤ 7 then 2 ^ (id - 1).toNat else 0
def has (t : Nat) (id : Int) : Bool := decide (t &&& one id ≠ 0)
def wth (t : Nat) (id : Int) : Nat := t ||| one id
def wout (t : Nat) (id : Int) : Nat := t &&& (127 - one id)
def cnt (t : Nat) : Nat := (List.range 7).countP fun i => t.testBit i
def lstTo (t k : Nat) : List Int := ((List.range k).filter fun i => t.testBit i).map fun i : Nat => (i : Int) + 1
def lst (t : Nat) : List Int := lstTo t 7
def may (t n : Int) : Bool := decide (3 ≤ n ∧ n ≤ 7) && decide (0 ≤ t ∧ t < 2 ^ n.toNat)
def most (t n : Int) : Bool := may t n && decide (n / 2 < (cnt t.toNat : Int))
def decider (v n : Int) : Int := if v < 1 ∨ n < 3 ∨ 7 < n then 0 else 1 + (v - 1) % n
/-- Those of a list. -/
def ofL (l : List Int) : Nat := l.foldl wth 0

theorem one_cases (id : Int) : (one id = 0 ∧ (id < 1 ∨ 7 < id)) ∨ ∃ k : Nat, k < 7 ∧ id = k + 1 ∧ one id = 2 ^ k := by
  unfold one
  by_cases h : 1 ≤ id ∧ id ≤ 7
  · exact .inr ⟨(id - 1).toNat, by omega, by omega, by rw [if_pos h]⟩
  · exact .inl ⟨by rw [if_neg h], by omega⟩
theorem pow_lt (k : Nat) (hk : k < 7) : 2 ^ k < 128 := (by decide : ∀ k : Fin 7, 2 ^ k.val < 128) ⟨k, hk⟩
theorem one_lt (id : Int) : one id < 128 := by
  rcases one_cases id with ⟨h, _⟩ | ⟨k, hk, _, h⟩
  · omega
  · rw [h]; exact pow_lt k hk
theorem one_out {id : Int} (h : id < 1 ∨ 7 < id) : one id = 0 := by unfold one; rw [if_neg (by omega)]
theorem one_in (k : Nat) (h : k < 7) : one ((k : Int) + 1) = 2 ^ k := by
  unfold one; rw [if_pos (by omega)]; congr 1; omega
theorem and_lt {t : Nat} (u : Nat) (h : t < 128) : t &&& u < 128 := Nat.lt_of_le_of_lt Nat.and_le_left h
theorem and_lt' {u : Nat} (t : Nat) (h : u < 128) : t &&& u < 128 := Nat.lt_of_le_of_lt Nat.and_le_right h
theorem or_lt {t u : Nat} (h : t < 128) (h' : u < 128) : t ||| u < 128 := Nat.or_lt_two_pow (n := 7) h h'
theorem wth_lt {t : Nat} (h : t < 128) (id : Int) : wth t id < 128 := or_lt h (one_lt id)
theorem wout_lt {t : Nat} (h : t < 128) (id : Int) : wout t id < 128 := and_lt _ h
theorem ofL_lt (l : List Int) : ofL l < 128 := by
  have : ∀ (l : List Int) (t : Nat), t < 128 → l.foldl wth t < 128 := by
    intro l
    induction l with
    | nil => intro t h; exact h
    | cons x l ih => intro t h; exact ih _ (wth_lt h x)
  exact this l 0 (by omega)

/-- Of all teams and all processes: by looking at each. -/
theorem all7 (p : Nat → Nat → Bool) (h : (List.range 128).all (fun t => (List.range 7).all fun k => p t k) = true) (t k : Nat) (ht : t < 128) (hk : k < 7) : p t k = true :=
  List.all_eq_true.1 (List.all_eq_true.1 h t (List.mem_range.2 ht)) k (List.mem_range.2 hk)
theorem all1 (p : Nat → Bool) (h : (List.range 128).all p = true) (t : Nat) (ht : t < 128) : p t = true :=
  List.all_eq_true.1 h t (List.mem_range.2 ht)

theorem has_out (t : Nat) {id : Int} (h : id < 1 ∨ 7 < id) : has t id = false := by unfold has; rw [one_out h]; simp
theorem has_in (t k : Nat) (ht : t < 128) (h : k < 7) : has t ((k : Int) + 1) = t.testBit k := by
  unfold has; rw [one_in k h]
  have := all7 (fun t k => decide (t &&& 2 ^ k ≠ 0) == t.testBit k) (by decide +kernel) t k ht h
  simpa using this
theorem has_bits (t : Nat) (ht : t < 128) (id : Int) : has t id = (decide (1 ≤ id ∧ id ≤ 7) && t.testBit (id - 1).toNat) := by
  by_cases h : 1 ≤ id ∧ id ≤ 7
  · obtain ⟨k, rfl⟩ : ∃ k : Nat, id = k + 1 := ⟨(id - 1).toNat, by omega⟩
    rw [has_in t k ht (by omega)]
    have : ((k : Int) + 1 - 1).toNat = k := by omega
    rw [this]; simp [h]
  · rw [has_out t (by omega)]; simp [h]

theorem bit_one (id : Int) (k : Nat) (hk : k < 7) : (one id).testBit k = decide (id = k + 1) := by
  rcases one_cases id with ⟨h, h'⟩ | ⟨j, hj, rfl, h⟩
  · rw [h]; simp; omega
  · rw [h, Nat.testBit_two_pow]
    by_cases e : j = k
    · subst e; simp
    · simp [e]; omega
theorem has_wth (t : Nat) (ht : t < 128) (id i : Int) (h1 : 1 ≤ i) (h7 : i ≤ 7) : has (wth t id) i = (has t i || decide (i = id)) := by
  obtain ⟨k, rfl⟩ : ∃ k : Nat, i = k + 1 := ⟨(i - 1).toNat, by omega⟩
  rw [has_in _ k (wth_lt ht id) (by omega), has_in _ k ht (by omega)]
  unfold wth
  rw [Nat.testBit_or, bit_one id k (by omega)]
  congr 1
  exact decide_eq_decide.2 ⟨fun h => h.symm, fun h => h.symm⟩
theorem bit_not (o k : Nat) (ho : o < 128) (hk : k < 7) : (127 - o).testBit k = !o.testBit k := by
  have := all7 (fun o k => (127 - o).testBit k == !o.testBit k) (by decide +kernel) o k ho hk
  simpa using this
theorem has_wout (t : Nat) (ht : t < 128) (id i : Int) (h1 : 1 ≤ i) (h7 : i ≤ 7) : has (wout t id) i = (has t i && decide (i ≠ id)) := by
  obtain ⟨k, rfl⟩ : ∃ k : Nat, i = k + 1 := ⟨(i - 1).toNat, by omega⟩
  rw [has_in _ k (wout_lt ht id) (by omega), has_in _ k ht (by omega)]
  unfold wout
  rw [Nat.testBit_and, bit_not _ k (one_lt id) (by omega), bit_one id k (by omega)]
  congr 1
  by_cases h : id = k + 1
  · simp [h]
  · have : ¬ (k : Int) + 1 = id := by omega
    simp [h, this]
theorem has_and (t u : Nat) (ht : t < 128) (hu : u < 128) (i : Int) (h1 : 1 ≤ i) (h7 : i ≤ 7) : has (t &&& u) i = (has t i && has u i) := by
  obtain ⟨k, rfl⟩ : ∃ k : Nat, i = k + 1 := ⟨(i - 1).toNat, by omega⟩
  rw [has_in _ k (and_lt u ht) (by omega), has_in _ k ht (by omega), has_in _ k hu (by omega), Nat.testBit_and]
theorem has_ofL (l : List Int) (i : Int) (h1 : 1 ≤ i) (h7 : i ≤ 7) : has (ofL l) i = l.contains i := by
  have : ∀ (l : List Int) (t : Nat), t < 128 → has (l.foldl wth t) i = (has t i || l.contains i) := by
    intro l
    induction l with
    | nil => intro t h; simp
    | cons x l ih =>
      intro t h
      rw [List.foldl_cons, ih _ (wth_lt h x), has_wth t h x i h1 h7, Bool.or_assoc]
      congr 1
  have h0 := this l 0 (by omega)
  unfold ofL
  rw [h0]
  have : has 0 i = false := by simp [has]
  rw [this, Bool.false_or]

theorem and127 (t : Nat) (ht : t < 128) : t &&& 127 = t := (Nat.and_two_pow_sub_one_eq_mod t 7).trans (Nat.mod_eq_of_lt ht)
theorem cnt_le (t : Nat) : cnt t ≤ 7 := by unfold cnt; exact Nat.le_trans List.countP_le_length (by simp)
theorem cnt_wth (t : Nat) (ht : t < 128) (id : Int) : cnt (wth t id) = if decide (1 ≤ id ∧ id ≤ 7) && !has t id then cnt t + 1 else cnt t := by
  rcases one_cases id with ⟨h, h'⟩ | ⟨k, hk, rfl, h⟩
  · unfold wth; rw [h]; simp; omega
  · rw [has_in t k ht hk]; unfold wth; rw [h]
    have := all7 (fun t k => cnt (t ||| 2 ^ k) == if !t.testBit k then cnt t + 1 else cnt t) (by decide +kernel) t k ht hk
    simp only [beq_iff_eq] at this
    rw [this]
    have e : decide (1 ≤ (k : Int) + 1 ∧ (k : Int) + 1 ≤ 7) = true := by simp; omega
    rw [e, Bool.true_and]
theorem cnt_wout (t : Nat) (ht : t < 128) (id : Int) : (cnt (wout t id) : Int) = if has t id then (cnt t : Int) - 1 else cnt t := by
  rcases one_cases id with ⟨h, h'⟩ | ⟨k, hk, rfl, h⟩
  · rw [has_out t h']; unfold wout; rw [h]
    have : t &&& 127 = t := and127 t ht
    simp [this]
  · rw [has_in t k ht hk]; unfold wout; rw [h]
    have := all7 (fun t k => ((cnt (t &&& (127 - 2 ^ k)) : Int)) == if t.testBit k then (cnt t : Int) - 1 else cnt t) (by decide +kernel) t k ht hk
    simpa only [beq_iff_eq] using this
theorem wth_twice (t : Nat) (id : Int) : wth (wth t id) id = wth t id := by unfold wth; rw [Nat.or_assoc, Nat.or_self]
theorem wout_twice (t : Nat) (id : Int) : wout (wout t id) id = wout t id := by unfold wout; rw [Nat.and_assoc, Nat.and_self]
theorem wth_out (t : Nat) {id : Int} (h : id < 1 ∨ 7 < id) : wth t id = t := by unfold wth; rw [one_out h]; simp
theorem wout_out (t : Nat) (ht : t < 128) {id : Int} (h : id < 1 ∨ 7 < id) : wout t id = t := by
  unfold wout; rw [one_out h]
  exact and127 t ht

/-- Lists of a team. -/
theorem lstTo_succ (t k : Nat) : lstTo t (k + 1) = lstTo t k ++ if t.testBit k then [(k : Int) + 1] else [] := by
  unfold lstTo
  rw [List.range_succ, List.filter_append, List.map_append]
  by_cases h : t.testBit k <;> simp [h]
theorem lstTo_le (t k : Nat) : (lstTo t k).length ≤ k := by
  unfold lstTo; rw [List.length_map]; exact Nat.le_trans (List.length_filter_le _ _) (by simp)
theorem lst_length (t : Nat) : (lst t).length = cnt t := by
  unfold lst lstTo cnt; rw [List.length_map, List.countP_eq_length_filter]
theorem lst_mem (t : Nat) (ht : t < 128) (i : Int) : i ∈ lst t ↔ has t i = true := by
  unfold lst lstTo
  rw [List.mem_map]
  constructor
  · rintro ⟨k, hk, rfl⟩
    rw [List.mem_filter, List.mem_range] at hk
    rw [has_in t k ht hk.1]; exact hk.2
  · intro h
    have hi : 1 ≤ i ∧ i ≤ 7 := by
      by_cases hh : 1 ≤ i ∧ i ≤ 7
      · exact hh
      · rw [has_out t (by omega)] at h; cases h
    obtain ⟨k, rfl⟩ : ∃ k : Nat, i = k + 1 := ⟨(i - 1).toNat, by omega⟩
    rw [has_in t k ht (by omega)] at h
    exact ⟨k, List.mem_filter.2 ⟨List.mem_range.2 (by omega), h⟩, rfl⟩
theorem lst_rise (t : Nat) (ht : t < 128) (i : Nat) (h : i + 1 < cnt t) : (lst t).getD i 0 < (lst t).getD (i + 1) 0 := by
  have := all7 (fun t i => decide (i + 1 < cnt t → (lst t).getD i 0 < (lst t).getD (i + 1) 0)) (by decide +kernel) t i ht (by have := cnt_le t; omega)
  exact of_decide_eq_true this h
/-- How many of the first so many. -/
def cntTo (t k : Nat) : Nat := (lstTo t k).length
theorem cnt_all (t : Nat) : cntTo t 7 = cnt t := lst_length t
theorem cntTo_succ (t k : Nat) (ht : t < 128) (hk : k < 7) : cntTo t (k + 1) = cntTo t k + if has t ((k : Int) + 1) then 1 else 0 := by
  unfold cntTo; rw [lstTo_succ, has_in t k ht hk, List.length_append]
  cases t.testBit k <;> rfl

/-- Which may be, by bits. -/
theorem mask_zero (x n : Nat) (hx : x < 2 ^ 64) : (x &&& (2 ^ 64 - ((2 ^ n - 1) + 1)) = 0) ↔ x < 2 ^ n := by
  by_cases hn : 64 ≤ n
  · have h1 : 2 ^ 64 ≤ 2 ^ n := Nat.pow_le_pow_right (by decide) hn
    have h2 : 2 ^ 64 - ((2 ^ n - 1) + 1) = 0 := by omega
    rw [h2, Nat.and_zero]
    exact ⟨fun _ => by omega, fun _ => rfl⟩
  have hm : 2 ^ n - 1 < 2 ^ 64 := Nat.lt_of_lt_of_le (Nat.sub_lt (Nat.two_pow_pos n) (by decide)) (Nat.pow_le_pow_right (by decide) (by omega))
  constructor
  · intro h
    apply Nat.lt_pow_two_of_testBit
    intro i hi
    by_cases hb : i < 64
    · have := congrArg (fun y => y.testBit i) h
      simp only [Nat.testBit_and, Nat.testBit_two_pow_sub_succ hm, Nat.testBit_two_pow_sub_one, Nat.zero_testBit] at this
      have h1 : ¬ i < n := by omega
      simpa [hb, h1] using this
    · exact Nat.testBit_lt_two_pow (Nat.lt_of_lt_of_le hx (Nat.pow_le_pow_right (by decide) (by omega)))
  · intro h
    apply Nat.eq_of_testBit_eq
    intro i
    rw [Nat.testBit_and, Nat.testBit_two_pow_sub_succ hm, Nat.testBit_two_pow_sub_one, Nat.zero_testBit]
    by_cases hi : i < n
    · simp [hi]
    · rw [Nat.testBit_lt_two_pow (Nat.lt_of_lt_of_le h (Nat.pow_le_pow_right (by decide) (by omega)))]; simp

theorem meet_pos (t u : Nat) (n : Int) (h1 : most t n = true) (h2 : most u n = true) : 0 < cnt (t &&& u) := by
  unfold most may at h1 h2
  simp only [Bool.and_eq_true, decide_eq_true_eq, Int.toNat_natCast] at h1 h2
  obtain ⟨⟨⟨h3, h7⟩, -, ht⟩, ct⟩ := h1
  obtain ⟨⟨-, -, hu⟩, cu⟩ := h2
  obtain ⟨m, rfl⟩ : ∃ m : Nat, n = m := ⟨n.toNat, by omega⟩
  rw [Int.toNat_natCast] at ht hu
  have ht' : t < 2 ^ m := by exact_mod_cast ht
  have hu' : u < 2 ^ m := by exact_mod_cast hu
  have key : ∀ m ∈ [3, 4, 5, 6, 7], (List.range (2 ^ m)).all (fun t => !decide (m / 2 < cnt t) || (List.range (2 ^ m)).all fun u => !decide (m / 2 < cnt u) || decide (0 < cnt (t &&& u))) = true := by decide +kernel
  have hm : m ∈ [3, 4, 5, 6, 7] := by
    have : m = 3 ∨ m = 4 ∨ m = 5 ∨ m = 6 ∨ m = 7 := by omega
    simp [this]
  have k1 := List.all_eq_true.1 (key m hm) t (List.mem_range.2 ht')
  have e1 : m / 2 < cnt t := by omega
  have e2 : m / 2 < cnt u := by omega
  simp only [e1, decide_true, Bool.not_true, Bool.false_or] at k1
  have k2 := List.all_eq_true.1 k1 u (List.mem_range.2 hu')
  simpa [e2] using k2

/-- How many of -1 and the next so many. -/
def cntFrom (t k : Nat) : Nat := (List.range k).countP fun j : Nat => has t ((j : Int) - 1)
theorem cntFrom_succ (t k : Nat) : cntFrom t (k + 1) = cntFrom t k + if has t ((k : Int) - 1) then 1 else 0 := by
  unfold cntFrom; rw [List.range_succ, List.countP_append, List.countP_singleton]
theorem cntFrom_le (t k : Nat) : cntFrom t k ≤ k := by unfold cntFrom; exact Nat.le_trans List.countP_le_length (by simp)
theorem cntFrom_all (t : Nat) (ht : t < 128) : cntFrom t 11 = cnt t := by
  have := all1 (fun t => cntFrom t 11 == cnt t) (by decide +kernel) t ht
  simpa using this
theorem ofL_snoc (l : List Int) (x : Int) : ofL (l ++ [x]) = wth (ofL l) x := by unfold ofL; rw [List.foldl_append]; rfl
/-- One more of a list. -/
theorem has_snoc (l : List Int) (x i : Int) : has (ofL (l ++ [x])) i = (has (ofL l) i || (decide (x = i) && decide (1 ≤ i) && decide (i ≤ 7))) := by
  rw [ofL_snoc]
  by_cases h : 1 ≤ i ∧ i ≤ 7
  · rw [has_wth _ (ofL_lt l) x i h.1 h.2]
    have e : decide (i = x) = decide (x = i) := decide_eq_decide.2 ⟨fun h => h.symm, fun h => h.symm⟩
    simp [h.1, h.2, e]
  · rw [has_out _ (by omega), has_out _ (by omega)]
    by_cases h1 : 1 ≤ i
    · have : ¬ i ≤ 7 := fun h7 => h ⟨h1, h7⟩
      simp [this]
    · simp [h1]

/-- Those that decide in so many views, from one whose place is r. -/
def turn (r n k : Nat) : Nat := ofL ((List.range k).map fun i => 1 + (((r + i) % n : Nat) : Int))
theorem turn_succ (r n k : Nat) : turn r n (k + 1) = wth (turn r n k) (1 + (((r + k) % n : Nat) : Int)) := by
  unfold turn; rw [List.range_succ, List.map_append]; exact ofL_snoc _ _
theorem turn_lt (r n k : Nat) : turn r n k < 128 := ofL_lt _
theorem turn_new (r n k : Nat) (h3 : 3 ≤ n) (h7 : n ≤ 7) (hr : r < n) (hk : k < n) : has (turn r n k) (1 + (((r + k) % n : Nat) : Int)) = false := by
  have key : [3, 4, 5, 6, 7].all (fun n => (List.range n).all fun r => (List.range n).all fun k => has (turn r n k) (1 + (((r + k) % n : Nat) : Int)) == false) = true := by decide +kernel
  have hm : n ∈ [3, 4, 5, 6, 7] := by
    have : n = 3 ∨ n = 4 ∨ n = 5 ∨ n = 6 ∨ n = 7 := by omega
    simp [this]
  have := List.all_eq_true.1 (List.all_eq_true.1 (List.all_eq_true.1 key n hm) r (List.mem_range.2 hr)) k (List.mem_range.2 hk)
  simpa using this
theorem turn_all (r n : Nat) (h3 : 3 ≤ n) (h7 : n ≤ 7) (hr : r < n) : cnt (turn r n n) = n ∧ most (turn r n n) n = true := by
  have key : [3, 4, 5, 6, 7].all (fun n => (List.range n).all fun r => cnt (turn r n n) == n && most (turn r n n) n) = true := by decide +kernel
  have hm : n ∈ [3, 4, 5, 6, 7] := by
    have : n = 3 ∨ n = 4 ∨ n = 5 ∨ n = 6 ∨ n = 7 := by omega
    simp [this]
  have := List.all_eq_true.1 (List.all_eq_true.1 key n hm) r (List.mem_range.2 hr)
  simpa using this
theorem turn_is (v : Int) (n k : Nat) (hv : 1 ≤ v) (h3 : 3 ≤ n) (h7 : n ≤ 7) : decider (v + k) n = 1 + ((((v - 1) % n).toNat + k) % n : Nat) := by
  unfold decider; rw [if_neg (by omega)]
  have q1 := Int.emod_nonneg (v - 1) (show (n : Int) ≠ 0 by omega)
  have e : ((((v - 1) % n).toNat + k) % n : Nat) = ((((v - 1) % n + k) % n : Int)) := by rw [Int.natCast_emod, Int.natCast_add, Int.toNat_of_nonneg q1]
  rw [e, Int.emod_add_emod]
  congr 2; omega
end Go.Proofs.YtgcpofiecbpfbaaDoor.PTeam

/- Contracts of package team: first, mayCount, May. -/
namespace Go.Proofs.YtgcpofiecbpfbaaDoor
open Go.RowKit

theorem i64_nat (a b : Nat) (ha : a < 9223372036854775808) (hb : b < 9223372036854775808) : bits .and .i64 (a : Int) (b : Int) = ((a &&& b : Nat) : Int) ∧ bits .or .i64 (a : Int) (b : Int) = ((a ||| b : Nat) : Int) :=
  bits_nat .i64 63 (by decide) (fun n h1 h2 => by rw [IntKind.wrap_i64]; omega) a b ha hb
theorem i64_bits (x : Int) (m : Nat) (hm : m < 9223372036854775808) : bits .andNot .i64 x (m : Int) = IntKind.i64.wrap (((x % 18446744073709551616).toNat &&& (2 ^ 64 - (m + 1)) : Nat) : Int) := by
  have h1 : (BitVec.ofInt 64 x).toNat = (x % 18446744073709551616).toNat := by rw [BitVec.toNat_ofInt]; rfl
  have h2 : (BitVec.ofInt 64 (m : Int)).toNat = m := by rw [BitVec.ofInt_natCast, BitVec.toNat_ofNat]; exact Nat.mod_eq_of_lt (by omega)
  show IntKind.i64.wrap ((BitVec.ofInt 64 x &&& ~~~BitVec.ofInt 64 (m : Int)).toNat : Int) = _
  rw [BitVec.toNat_and, BitVec.toNat_not, h1, h2]
  have e : 2 ^ 64 - 1 - m = 2 ^ 64 - (m + 1) := by omega
  rw [e]
theorem i64_without (t o : Nat) (ht : t < 128) (ho : o < 128) : bits .andNot .i64 (t : Int) (o : Int) = ((t &&& (127 - o) : Nat) : Int) := by
  rw [i64_bits _ _ (by omega)]
  have e : ((t : Int) % 18446744073709551616).toNat = t := by omega
  rw [e]
  have key : (List.range 128).all (fun t => (List.range 128).all fun o => (t &&& (2 ^ 64 - (o + 1))) == (t &&& (127 - o))) = true := by decide +kernel
  have k1 := List.all_eq_true.1 (List.all_eq_true.1 key t (List.mem_range.2 ht)) o (List.mem_range.2 ho)
  simp only [beq_iff_eq] at k1
  rw [k1, IntKind.wrap_i64]
  have := PTeam.and_lt (127 - o) ht
  omega
theorem i64_may (t : Int) (n : Nat) (h1 : -9223372036854775808 ≤ t) (h2 : t ≤ 9223372036854775807) (hn : n ≤ 7) : (bits .andNot .i64 t ((2 ^ n - 1 : Nat) : Int) == 0) = decide (0 ≤ t ∧ t < 2 ^ n) := by
  have hp : 2 ^ n ≤ 128 := Nat.pow_le_pow_right (n := 2) (by decide) hn
  have hp0 : 0 < 2 ^ n := Nat.two_pow_pos n
  rw [i64_bits _ _ (by omega), IntKind.wrap_i64]
  have hx : (t % 18446744073709551616).toNat < 2 ^ 64 := by omega
  have hm := PTeam.mask_zero (t % 18446744073709551616).toNat n hx
  have hlt : (t % 18446744073709551616).toNat &&& (2 ^ 64 - ((2 ^ n - 1) + 1)) < 2 ^ 64 := Nat.lt_of_le_of_lt Nat.and_le_left hx
  generalize (t % 18446744073709551616).toNat &&& (2 ^ 64 - ((2 ^ n - 1) + 1)) = y at *
  have hc : ((2 : Int) ^ n) = ((2 ^ n : Nat) : Int) := by simp
  rw [hc]
  generalize 2 ^ n = p at *
  rw [Bool.eq_iff_iff]
  simp only [beq_iff_eq, decide_eq_true_eq]
  constructor
  · intro h
    have : y = 0 := by omega
    have := hm.1 this
    omega
  · rintro ⟨h3, h4⟩
    have : y = 0 := hm.2 (by omega)
    omega

theorem first_c (w : World) (n : Int) (h3 : 3 ≤ n) (h7 : n ≤ 7) :
    Calls Tryd.prog 42 #[.int .i64 n] w fun e w' => e = .returned (.int .i64 (2 ^ n.toNat - 1 : Nat)) ∧ w = w' := by
  have hc : n = 3 ∨ n = 4 ∨ n = 5 ∨ n = 6 ∨ n = 7 := by omega
  rcases hc with rfl | rfl | rfl | rfl | rfl
  all_goals
    go_enter Tryd.func42, Tryd.ntmps42
    go_wp2
    go_ret
    exact ⟨rfl, rfl⟩

def okB (n : Int) : Bool := decide (3 ≤ n ∧ n ≤ 7)
theorem mayCount_c (w : World) (n : Int) :
    Calls Tryd.prog 41 #[.int .i64 n] w fun e w' => e = .returned (.bool (okB n)) ∧ w = w' := by
  have h : okB n = (decide (3 ≤ n) && decide (n ≤ 7)) := by unfold okB; exact Bool.decide_and _ _
  have H := Lib.hid h; clear h
  by_cases h3 : 3 ≤ n
  all_goals by_cases h7 : n ≤ 7
  all_goals
    go_enter Tryd.func41, Tryd.ntmps41
    go_wp2
    go_ret
    exact ⟨by rw [H.out]; simp [h3, h7], rfl⟩

theorem tMay_c (w : World) (t n : Int) (h1 : -9223372036854775808 ≤ t) (h2 : t ≤ 9223372036854775807) :
    Calls Tryd.prog 22 #[.int .i64 t, .int .i64 n] w fun e w' => e = .returned (.bool (PTeam.may t n)) ∧ w = w' := by
  have hm : PTeam.may t n = (okB n && decide (0 ≤ t ∧ t < 2 ^ n.toNat)) := rfl
  have HM := Lib.hid hm; clear hm
  cases hb : okB n
  · go_enter Tryd.func22, Tryd.ntmps22
    go_wp2_with fail
    refine (mayCount_c w n).mono ?_
    rintro e w' ⟨rfl, rfl⟩
    go_wp2_with fail
    go_ret
    exact ⟨by rw [HM.out, hb]; rfl, rfl⟩
  · have hb' := of_decide_eq_true hb
    have e1 := i64_may t n.toNat h1 h2 (by omega)
    go_enter Tryd.func22, Tryd.ntmps22
    go_wp2_with fail
    refine (mayCount_c w n).mono ?_
    rintro e w' ⟨rfl, rfl⟩
    go_wp2_with fail
    refine (first_c w n hb'.1 hb'.2).mono ?_
    rintro e w' ⟨rfl, rfl⟩
    go_wp2_with fail
    go_ret
    exact ⟨by rw [HM.out, hb, Bool.true_and, Bool.decide_and]; rfl, rfl⟩

theorem may_lt {t n : Int} (h : PTeam.may t n = true) : 3 ≤ n ∧ n ≤ 7 ∧ 0 ≤ t ∧ t < 128 := by
  unfold PTeam.may at h
  simp only [Bool.and_eq_true, decide_eq_true_eq] at h
  obtain ⟨⟨h3, h7⟩, h0, ht⟩ := h
  have hp : 2 ^ n.toNat ≤ 2 ^ 7 := Nat.pow_le_pow_right (n := 2) (by decide) (by omega)
  have : ((2 ^ n.toNat : Nat) : Int) = (2 : Int) ^ n.toNat := by simp
  omega

end Go.Proofs.YtgcpofiecbpfbaaDoor

