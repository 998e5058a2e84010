/- Contracts: isBetter; small laws. -/
import Derived.Test.YtacipjdaiglnjaaGreatDoorSeg4
import Derived.Great.BuildSlice
namespace Go.Proofs.YtacipjdaiglnjaaGreatDoor
open Go.RowKit PVote

/-- A slice of three ints. -/
theorem wpList_build3 {w : World} {ops : Array Oper} {rest : List Oper} {o : Oper} {a : Act} {Q : Exit → Act → World → Prop} (hgd : o.guard = none) (x0 x1 x2 : Operand) (ho : o.op = .buildSlice 65 3 #[(0, x0), (1, x1), (2, x2)]) (x y z : Int)
    (h0 : a.eval x0 = .int .i64 x) (h1 : a.eval x1 = .int .i64 y) (h2 : a.eval x2 = .int .i64 z)
    (h : wpList Tryz.prog ops Q rest (a.put o.dst (.slice (some ⟨w.heap.size, 0, none⟩) 3 3)) (w.alloc (.cells #[.int .i64 x, .int .i64 y, .int .i64 z] 3))) : wpList Tryz.prog ops Q (o :: rest) a w := by
  obtain ⟨i, hi0, hz, hk, -⟩ := info_parts int_info
  refine wpList_buildSlice hgd 65 3 3 _ ho #[.int .i64 x, .int .i64 y, .int .i64 z] i (.int .i64 0) Tryz.underlying65 hi0 hz (by rw [hk]; omega) (by rw [hk]; omega) ?_ h
  rw [hk]
  have hb : (Array.range (3 * 1)).map (fun x => (Value.int .i64 0).cells[x % (Value.int .i64 0).cells.size]!) = #[.int .i64 0, .int .i64 0, .int .i64 0] := by kernel_rfl
  rw [hb]
  simp [Instr.fill, Value.cells, h0, h1, h2]
/-- A vote is loaded in a region that draws. -/
theorem run_loadV {w : World} {dst : Option Tmp} {x : Operand} {ty : TypeId} {pos : String} {after : Array Edge} {guard : Option (Nat × Bool)} {ρ : Operand → Value} {b o : Nat} {fr last com : Int} {A : Option Addr} {n c : Nat}
    (hr : w.rangeAt b o [.int .i64 fr, .int .i64 last, .slice A n c, .int .i64 com]) (hx : ρ x = .pointer (some ⟨b, o, none⟩)) :
    (execOp ρ { dst, op := .load 160 x, type := ty, pos, after, guard }).run Tryz.prog w = .ok (.value (.agg #[.int .i64 fr, .int .i64 last, .slice A n c, .int .i64 com])) w := by
  have := run_loadAt_mid (P := Tryz.prog) w b o 160 [.int .i64 fr, .int .i64 last, .slice A n c, .int .i64 com] _ hr Tryz.underlying160 rfl (by kernel_rfl)
  unfold execOp
  simp only [hx, Sem.run_bind, this, Result.andThen_ok, Sem.run_pure]
theorem run_loadTm {w : World} {dst : Option Tmp} {x : Operand} {ty : TypeId} {pos : String} {after : Array Edge} {guard : Option (Nat × Bool)} {ρ : Operand → Value} {p : Addr} {k : Int}
    (h : w.cell? p = some (.int .i64 k)) (hx : ρ x = .pointer (some p)) : (execOp ρ { dst, op := .load 43 x, type := ty, pos, after, guard }).run Tryz.prog w = .ok (.value (.int .i64 k)) w := by
  go_simp
theorem run_storeTm {w : World} {dst : Option Tmp} {x y : Operand} {ty : TypeId} {pos : String} {after : Array Edge} {guard : Option (Nat × Bool)} {ρ : Operand → Value} {g i : Nat} {k k' : Int}
    (h : w.cell? ⟨g, i, none⟩ = some (.int .i64 k')) (hf : w.frozen? ⟨g, i, none⟩ = false) (hx : ρ x = .pointer (some ⟨g, i, none⟩)) (hy : ρ y = .int .i64 k) :
    (execOp ρ { dst, op := .store 43 x y, type := ty, pos, after, guard }).run Tryz.prog w = .ok .skip (w.setCell ⟨g, i, none⟩ (.int .i64 k)) := by
  go_simp
theorem sgn_better (x b : Vt) : decide (0 < orL [sgn x.last b.last, sgn x.es.length b.es.length, sgn b.fr x.fr]) = better x b := by
  unfold better
  refine decide_eq_decide.2 ?_
  simp only [orL, sgn]
  repeat' split
  all_goals omega

set_option maxHeartbeats 4000000 in
set_option maxRecDepth 100000 in
theorem isBetter_c (w : World) (a b : Vt) (A A' : Option Addr) (c c' : Nat) :
    Calls Tryz.prog 199 #[vv a A c, vv b A' c'] w fun e w' => e = .returned (.bool (better a b)) ∧ Below w.heap.size w w' := by
  obtain ⟨x, hx⟩ : ∃ x, sgn a.last b.last = x := ⟨_, rfl⟩
  obtain ⟨y, hy⟩ : ∃ y, sgn a.es.length b.es.length = y := ⟨_, rfl⟩
  obtain ⟨z, hz⟩ : ∃ z, sgn b.fr a.fr = z := ⟨_, rfl⟩
  obtain ⟨r, hr⟩ : ∃ r, orL [x, y, z] = r := ⟨_, rfl⟩
  have HB := Lib.hid (show decide (0 < r) = better a b by rw [← hr, ← hx, ← hy, ← hz]; exact sgn_better a b)
  have HX := Lib.hid hx
  have HY := Lib.hid hy
  have HZ := Lib.hid hz
  have HR := Lib.hid hr
  clear hx hy hz hr
  show Calls _ _ #[.agg #[.int .i64 a.fr, .int .i64 a.last, .slice A a.es.length c, .int .i64 a.com], .agg #[.int .i64 b.fr, .int .i64 b.last, .slice A' b.es.length c', .int .i64 b.com]] _ _
  have k2 := Blk.new w #[.int .i64 a.fr, .int .i64 a.last, .slice A a.es.length c, .int .i64 a.com] 160
  have k3 := Blk.new (w.alloc (.cells #[.int .i64 a.fr, .int .i64 a.last, .slice A a.es.length c, .int .i64 a.com] 160)) #[.int .i64 b.fr, .int .i64 b.last, .slice A' b.es.length c', .int .i64 b.com] 160
  have K2 := Lib.hid (k2.alloc (.cells #[.int .i64 b.fr, .int .i64 b.last, .slice A' b.es.length c', .int .i64 b.com] 160))
  have K3 := Lib.hid (show Blk _ (w.heap.size + 1) _ _ by have := k3; rwa [show ∀ o, (w.alloc o).heap.size = w.heap.size + 1 from fun o => by simp] at this)
  have B1 := Lib.hid (((Below.refl w.heap.size w).alloc (Nat.le_refl _) (.cells #[.int .i64 a.fr, .int .i64 a.last, .slice A a.es.length c, .int .i64 a.com] 160)).alloc (by simp) (.cells #[.int .i64 b.fr, .int .i64 b.last, .slice A' b.es.length c', .int .i64 b.com] 160))
  clear k2 k3
  go_enter Tryz.func199, Tryz.ntmps199
  go_wp2_with fail
  generalize (w.alloc (.cells #[.int .i64 a.fr, .int .i64 a.last, .slice A a.es.length c, .int .i64 a.com] 160)).alloc (.cells #[.int .i64 b.fr, .int .i64 b.last, .slice A' b.es.length c', .int .i64 b.com] 160) = w1 at *
  generalize hg2 : w.heap.size = g2 at *
  have HG := Lib.hid hg2
  clear hg2
  generalize g2 + 1 = g3 at *
  have L2 := Lib.hid (show g2 < w1.drew.heap.size from K2.out.lt)
  have L3 := Lib.hid (show g3 < w1.drew.heap.size from K3.out.lt)
  have K2 := Lib.hid (show Blk w1.drew g2 _ _ from K2.out)
  have K3 := Lib.hid (show Blk w1.drew g3 _ _ from K3.out)
  have B1 := Lib.hid (show Below g2 w w1.drew from B1.out.drew)
-- REGION curfew/vote.isBetter 1 visb1 2
  refine Hb.begin ?_
  refine Hb.take (v := .pointer (some ⟨g2, 1, none⟩)) 0 5 rfl ?_ (fun w' hw' => by go_simp; first | done | rfl | (simp; omega))
  refine Hb.take (v := .int .i64 a.last) 1 6 rfl ?_ (fun w' hw' => by have cc := (K2.out.below hw' L2.out).cell (i := 1) rfl; go_simp)
  refine Hb.take (v := .pointer (some ⟨g3, 1, none⟩)) 2 7 rfl ?_ (fun w' hw' => by go_simp; first | done | rfl | (simp; omega))
  refine Hb.take (v := .int .i64 b.last) 3 8 rfl ?_ (fun w' hw' => by have cc := (K3.out.below hw' L3.out).cell (i := 1) rfl; go_simp)
  refine Hb.take (v := .pointer (some ⟨g2, 2, none⟩)) 5 10 rfl ?_ (fun w' hw' => by go_simp; first | done | rfl | (simp; omega))
  refine Hb.take (v := .slice A a.es.length c) 6 11 rfl ?_ (fun w' hw' => by have cc := (K2.out.below hw' L2.out).cell (i := 2) rfl; go_simp)
  refine Hb.take (v := .int .i64 (a.es.length : Int)) 7 12 rfl ?_ (fun w' hw' => by go_simp; first | done | rfl | omega | exact wrap_in (by omega) (by omega) | exact Int.tmod_eq_emod_of_nonneg (by omega) | exact Int.tdiv_eq_ediv_of_nonneg (by omega) | (simp; omega))
  refine Hb.take (v := .pointer (some ⟨g3, 2, none⟩)) 8 13 rfl ?_ (fun w' hw' => by go_simp; first | done | rfl | (simp; omega))
  refine Hb.take (v := .slice A' b.es.length c') 9 14 rfl ?_ (fun w' hw' => by have cc := (K3.out.below hw' L3.out).cell (i := 2) rfl; go_simp)
  refine Hb.take (v := .int .i64 (b.es.length : Int)) 10 15 rfl ?_ (fun w' hw' => by go_simp; first | done | rfl | omega | exact wrap_in (by omega) (by omega) | exact Int.tmod_eq_emod_of_nonneg (by omega) | exact Int.tdiv_eq_ediv_of_nonneg (by omega) | (simp; omega))
  refine Hb.take (v := .pointer (some ⟨g3, 0, none⟩)) 12 17 rfl ?_ (fun w' hw' => by go_simp; first | done | rfl | (simp; omega))
  refine Hb.take (v := .int .i64 b.fr) 13 18 rfl ?_ (fun w' hw' => by have cc := (K3.out.below hw' L3.out).cell (i := 0) rfl; go_simp)
  refine Hb.take (v := .pointer (some ⟨g2, 0, none⟩)) 14 19 rfl ?_ (fun w' hw' => by go_simp; first | done | rfl | (simp; omega))
  refine Hb.take (v := .int .i64 a.fr) 15 20 rfl ?_ (fun w' hw' => by have cc := (K2.out.below hw' L2.out).cell (i := 0) rfl; go_simp)
  refine Hb.call (f := 215) (args := #[.int .i64 a.last, .int .i64 b.last]) 4 9 rfl ?_ (run_callf Tryz.func215 (by kernel_rfl) (by kernel_rfl) (by simp only [List.map_toArray, List.map_cons, List.map_nil]; rfl))
  refine (cmp64_c _ a.last b.last).mono ?_
  rw [HX.out]
  rintro e w' ⟨rfl, rfl⟩
  refine Hb.back (Below.refl _ _) (Nat.le_refl _) ?_
  refine Hb.call (f := 216) (args := #[.int .i64 (a.es.length : Int), .int .i64 (b.es.length : Int)]) 11 16 rfl ?_ (run_callf Tryz.func216 (by kernel_rfl) (by kernel_rfl) (by simp only [List.map_toArray, List.map_cons, List.map_nil]; rfl))
  refine (cmpI_c _ (a.es.length : Int) (b.es.length : Int)).mono ?_
  rw [HY.out]
  rintro e w' ⟨rfl, rfl⟩
  refine Hb.back (Below.refl _ _) (Nat.le_refl _) ?_
  refine Hb.call (f := 216) (args := #[.int .i64 b.fr, .int .i64 a.fr]) 16 21 rfl ?_ (run_callf Tryz.func216 (by kernel_rfl) (by kernel_rfl) (by simp only [List.map_toArray, List.map_cons, List.map_nil]; rfl))
  refine (cmpI_c _ b.fr a.fr).mono ?_
  rw [HZ.out]
  rintro e w' ⟨rfl, rfl⟩
  refine Hb.back (Below.refl _ _) (Nat.le_refl _) ?_
  refine Hb.only 17 (some 22) rfl ?_
  refine wpList_build3 rfl (.tmp 9) (.tmp 16) (.tmp 21) rfl x y z rfl rfl rfl ?_
  have hb2 := (Below.refl w1.drew.heap.size w1.drew).alloc (Nat.le_refl _) (.cells #[.int .i64 x, .int .i64 y, .int .i64 z] 3)
  have R3 := Lib.hid (Rd.new w1.drew #[.int .i64 x, .int .i64 y, .int .i64 z] 3 1 3 rfl (by decide))
  have B3 := Lib.hid hb2
  refine Hb.next hb2 (Nat.le_refl _) ?_
  refine Hb.call (f := 214) (args := #[.slice (some ⟨w1.drew.heap.size, 0, none⟩) 3 3]) 18 23 rfl ?_ (run_callf Tryz.func214 (by kernel_rfl) (by kernel_rfl) (by simp only [List.map_toArray, List.map_cons, List.map_nil]; rfl))
  refine (or_c _ _ _ 3 3 [x, y, z] R3.out).mono ?_
  rw [HR.out]
  rintro e w' ⟨rfl, rfl⟩
  refine Hb.back (Below.refl _ _) (Nat.le_refl _) ?_
  refine Hb.take (v := .bool (decide (0 < r))) 19 24 rfl ?_ (fun w' hw' => by go_simp; first | done | rfl | omega | exact wrap_in (by omega) (by omega) | exact Int.tmod_eq_emod_of_nonneg (by omega) | exact Int.tdiv_eq_ediv_of_nonneg (by omega) | (simp; omega))
  refine Hb.take (v := .bool (decide (0 < r))) 20 4 rfl ?_ (fun _ _ => rfl)
  refine Hb.done ?_
-- END
  have e1 : Below w.heap.size w (w1.drew.alloc (.cells #[.int .i64 x, .int .i64 y, .int .i64 z] 3)) := by
    rw [HG.out]
    exact B1.out.alloc (by rw [← HG.out]; exact B1.out.size) _
  go_wp2_with fail
  go_ret
  exact ⟨by rw [← HB.out]; rfl, e1⟩
end Go.Proofs.YtacipjdaiglnjaaGreatDoor

