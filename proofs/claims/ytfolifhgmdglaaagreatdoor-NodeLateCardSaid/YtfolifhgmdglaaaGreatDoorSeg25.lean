/- The document's EqMsgs, of two rows of the same messages, none with entries. -/
import Derived.Test.YtfolifhgmdglaaaGreatDoorSeg23
import Derived.Test.YtfolifhgmdglaaaGreatDoorSeg24
import Derived.Test.YtfolifhgmdglaaaGreatDoorSeg4
import Derived.Test.YtfolifhgmdglaaaGreatDoorSeg13
import Derived.Test.YtfolifhgmdglaaaGreatDoorSeg2
import Derived.Test.YtfolifhgmdglaaaGreatDoorSeg3
namespace Go.Proofs.YtfolifhgmdglaaaGreatDoor
open Go.RowKit PNode

theorem run_loadMat {w : World} {dst : Option Tmp} {x : Operand} {ty : TypeId} {pos : String} {after : Array Edge} {guard : Option (Nat × Bool)} {ρ : Operand → Value} {b o : Nat} {m : Msg} {A : Option Addr} {c : Nat}
    (h : w.rangeAt b o (mcs m A c)) (hx : ρ x = .pointer (some ⟨b, o, none⟩)) :
    (execOp ρ { dst, op := .load 47 x, type := ty, pos, after, guard }).run Tryz.prog w = .ok (.value (mv m A c)) w := by
  have := run_loadAt_mid (P := Tryz.prog) w b o 47 (mcs m A c) _ h Tryz.underlying47 rfl (by kernel_rfl)
  unfold execOp
  simp only [hx, Sem.run_bind, this, Result.andThen_ok, Sem.run_pure]
  rfl
theorem below_cell {w w' : World} (h : Below w.heap.size w w') {p : Addr} {v : Value} (hc : w.cell? p = some v) : w'.cell? p = some v := by
  rw [h.cell (World.block_lt_of_cell? w p hc)]
  exact hc

set_option maxHeartbeats 4000000 in
set_option maxRecDepth 100000 in
theorem rEqMsgs_c (w : World) {b1 b2 c1 c2 : Nat} {A1 A2 : Option Addr} {Q : List Mp} (o1 : Ow w b1 47 13 A1 Q.length c1 (mgs Q)) (o2 : Ow w b2 47 13 A2 Q.length c2 (mgs Q)) (hQ : ∀ q ∈ Q, q.A = none ∧ q.c = 0 ∧ q.m.es = []) (hn : Q.length ≤ 1000) :
    Calls Tryz.prog 31 #[.slice A1 Q.length c1, .slice A2 Q.length c2] w fun e w' => e = .returned (.bool true) ∧ Below w.heap.size w w' := by
  have O1 := Lib.hid o1
  have O2 := Lib.hid o2
  have HQ := Lib.hid hQ
  have hle1 := o1.le
  have hle2 := o2.le
  clear o1 o2 hQ
  go_enter Tryz.func31, Tryz.ntmps31
  go_wp2_with fail
  go_loopw [5] (fun s5 wr => ∃ k : Nat, s5 = .int .i64 (k : Int) ∧ k ≤ Q.length ∧ Hid (Below w.heap.size w wr)) (fun s5 _ => Q.length - (intOf s5).toNat)
  case atStart => exact ⟨0, rfl, by omega, Lib.hid (Below.refl _ _)⟩
  case round =>
    obtain ⟨k, rfl, hk, BT⟩ := hrel
    by_cases hlt : k < Q.length
    · obtain ⟨q, hq⟩ : ∃ q, Q[k]? = some q := ⟨_, List.getElem?_eq_getElem hlt⟩
      obtain ⟨g1, rfl, h1⟩ := ms_at (O1.out.past BT.out.drew) hq
      obtain ⟨g2, rfl, h2⟩ := ms_at (O2.out.past BT.out.drew) hq
      have hRD : Rd wr.drew wr.drew.heap.size q.A q.c 7 q.m.es.length (els q.m.es) := by
        obtain ⟨e1, e2, e3⟩ := HQ.out q (List.mem_of_getElem? hq)
        rw [e1, e2, e3]
        exact Rd.nil _ _ _
      have HRD := Lib.hid hRD
      have H1 := Lib.hid h1
      have H2 := Lib.hid h2
      clear hRD hq h1 h2
      go_wp2_with fail
-- REGION curfew/curfewref12.EqMsgs 6 neqms6 6
      refine Hb.begin ?_
      refine Hb.take (v := .slice (some ⟨g1, 0, none⟩) Q.length c1) 0 17 rfl ?_ (fun _ _ => rfl)
      refine Hb.take (v := .int .i64 (k : Int)) 1 18 rfl ?_ (fun _ _ => rfl)
      refine Hb.take (v := .pointer (some ⟨g1, k * 13, none⟩)) 2 19 rfl ?_ (fun w' hw' => by go_simp; first | done | rfl | omega | exact wrap_in (by omega) (by omega) | exact Int.tmod_eq_emod_of_nonneg (by omega) | exact Int.tdiv_eq_ediv_of_nonneg (by omega) | (simp; omega))
      refine Hb.take (v := mv q.m q.A q.c) 3 20 rfl ?_ (fun w' hw' => by exact run_loadMat (fun j v hv => below_cell hw' (H1.out j v hv)) rfl)
      refine Hb.take (v := .slice (some ⟨g2, 0, none⟩) Q.length c2) 4 21 rfl ?_ (fun _ _ => rfl)
      refine Hb.take (v := .int .i64 (k : Int)) 5 22 rfl ?_ (fun _ _ => rfl)
      refine Hb.take (v := .pointer (some ⟨g2, k * 13, none⟩)) 6 23 rfl ?_ (fun w' hw' => by go_simp; first | done | rfl | omega | exact wrap_in (by omega) (by omega) | exact Int.tmod_eq_emod_of_nonneg (by omega) | exact Int.tdiv_eq_ediv_of_nonneg (by omega) | (simp; omega))
      refine Hb.take (v := mv q.m q.A q.c) 7 24 rfl ?_ (fun w' hw' => by exact run_loadMat (fun j v hv => below_cell hw' (H2.out j v hv)) rfl)
      refine Hb.call (f := 54) (args := #[mv q.m q.A q.c, mv q.m q.A q.c]) 8 25 rfl ?_ (run_callf Tryz.func54 (by kernel_rfl) (by kernel_rfl) (by simp only [List.map_toArray, List.map_cons, List.map_nil]; rfl))
      refine (rEqM_c wr.drew q.m q.m q.A q.A q.c q.c HRD.out HRD.out).mono ?_
      rw [PMsg.eqM_refl]
      rintro e w2 ⟨rfl, b2⟩
      have b2' := Lib.hid (BT.out.drew.trans (b2.mono BT.out.size))
      refine Hb.back b2 b2.size ?_
      refine Hb.take (v := .bool false) 9 26 rfl ?_ (fun w' hw' => by go_simp; first | done | rfl | omega | exact wrap_in (by omega) (by omega) | exact Int.tmod_eq_emod_of_nonneg (by omega) | exact Int.tdiv_eq_ediv_of_nonneg (by omega) | (simp; omega))
      refine Hb.done ?_
-- END
      go_wp2_with fail
      go_roundw
      case rel => exact ⟨k + 1, by go_num, by omega, b2'⟩
      case measure => simp [intOf]; omega
    · obtain rfl : k = Q.length := by omega
      go_wp2_with fail
      go_ret
      exact ⟨rfl, BT.out⟩
end Go.Proofs.YtfolifhgmdglaaaGreatDoor

/- The document's decider. -/
namespace Go.Proofs.YtfolifhgmdglaaaGreatDoor
open Go.RowKit

theorem rtDecider_c (w : World) (v n : Int) (h1 : -9223372036854775808 ≤ v) (h2 : v ≤ 9223372036854775807) :
    Calls Tryz.prog 25 #[.int .i64 v, .int .i64 n] w fun e w' => e = .returned (.int .i64 (PTeam.decider v n)) ∧ w = w' := by
  by_cases hn : v < 1 ∨ n < 3 ∨ 7 < n
  · have e0 : PTeam.decider v n = 0 := by unfold PTeam.decider; rw [if_pos (by omega)]
    have E := Lib.hid e0; clear e0
    by_cases hv : v < 1
    all_goals by_cases h3 : n < 3
    all_goals by_cases h7 : 7 < n
    all_goals first | (exfalso; omega) | skip
    all_goals
      go_enter Tryz.func25, Tryz.ntmps25
      go_wp2
      go_ret
      exact ⟨by rw [E.out]; rfl, rfl⟩
  · have hv : ¬ v < 1 := by omega
    have h3 : ¬ n < 3 := by omega
    have h7 : ¬ 7 < n := by omega
    have e0 : PTeam.decider v n = 1 + (v - 1) % n := by unfold PTeam.decider; rw [if_neg (by omega)]
    have E := Lib.hid e0; clear e0
    have hn0 : n ≠ 0 := by omega
    have q1 := Int.emod_nonneg (v - 1) hn0
    have q2 := Int.emod_lt_of_pos (v - 1) (show 0 < n by omega)
    have g1 : 1 ≤ v := by omega
    have g2 : 3 ≤ n := by omega
    have g3 : n ≤ 7 := by omega
    clear hn
    go_enter Tryz.func25, Tryz.ntmps25
    go_wp2
    go_ret
    exact ⟨by rw [E.out]; rfl, rfl⟩

end Go.Proofs.YtfolifhgmdglaaaGreatDoor

/- An install of an elder view than promised is not heeded. -/
namespace Go.Proofs.YtfolifhgmdglaaaGreatDoor
open Go.RowKit PNode

set_option maxHeartbeats 4000000 in
set_option maxRecDepth 100000 in
theorem mayInst_late {w : World} {x d : Nat} {p : Np} {a : Na} (B : Blk w x 78 (ncs d p a)) {b pro : Int} (D : Ds w d b pro) (m : Msg) (A : Option Addr) (c : Nat) (hv : m.view < pro) :
    Calls Tryz.prog 81 #[.pointer (some ⟨x, 0, none⟩), mv m A c] w fun e w' => e = .returned (.bool false) ∧ Below w.heap.size w w' := by
  have b0 := Lib.hid ((Below.refl w.heap.size w).alloc (Nat.le_refl _) (.cells #[.int .i64 m.kind, .int .i64 m.fr, .int .i64 m.dst, .int .i64 m.boot, .int .i64 m.view, .int .i64 m.last, .int .i64 m.mem, .int .i64 m.pos, .slice A m.es.length c, .int .i64 m.com, .int .i64 m.num, .int .i64 m.clk, .bool m.yes] 47))
  have K1 := Lib.hid (Blk.new w #[.int .i64 m.kind, .int .i64 m.fr, .int .i64 m.dst, .int .i64 m.boot, .int .i64 m.view, .int .i64 m.last, .int .i64 m.mem, .int .i64 m.pos, .slice A m.es.length c, .int .i64 m.com, .int .i64 m.num, .int .i64 m.clk, .bool m.yes] 47)
  have B1 := Lib.hid (B.past b0.out)
  have DD := Lib.hid (D.past b0.out.drew)
  clear B D
  show Calls _ _ #[_, .agg #[.int .i64 m.kind, .int .i64 m.fr, .int .i64 m.dst, .int .i64 m.boot, .int .i64 m.view, .int .i64 m.last, .int .i64 m.mem, .int .i64 m.pos, .slice A m.es.length c, .int .i64 m.com, .int .i64 m.num, .int .i64 m.clk, .bool m.yes]] _ _
  go_enter Tryz.func81, Tryz.ntmps81
  go_wp2_with fail
-- REGION (*curfew/node.Node).mayInstall 2 nmayl 2
  refine Hb.begin ?_
  refine Hb.take (v := .pointer (some ⟨w.heap.size, 4, none⟩)) 0 8 rfl ?_ (fun w' hw' => by go_simp; first | done | rfl | omega | exact wrap_in (by omega) (by omega) | exact Int.tmod_eq_emod_of_nonneg (by omega) | exact Int.tdiv_eq_ediv_of_nonneg (by omega) | (simp; omega))
  refine Hb.take (v := .int .i64 m.view) 1 9 rfl ?_ (fun w' hw' => by exact ldI64 (Blk.cell (i := 4) (Blk.past (show Blk (w.alloc (.cells #[.int .i64 m.kind, .int .i64 m.fr, .int .i64 m.dst, .int .i64 m.boot, .int .i64 m.view, .int .i64 m.last, .int .i64 m.mem, .int .i64 m.pos, .slice A m.es.length c, .int .i64 m.com, .int .i64 m.num, .int .i64 m.clk, .bool m.yes] 47)).drew w.heap.size 47 (mcs m A c) from K1.out) hw') rfl) rfl)
  refine Hb.take (v := .pointer (some ⟨x, 0, none⟩)) 2 10 rfl ?_ (fun _ _ => rfl)
  refine Hb.take (v := .pointer (some ⟨x, 0, none⟩)) 3 11 rfl ?_ (fun w' hw' => by go_simp; first | done | rfl | omega | exact wrap_in (by omega) (by omega) | exact Int.tmod_eq_emod_of_nonneg (by omega) | exact Int.tdiv_eq_ediv_of_nonneg (by omega) | (simp; omega))
  refine Hb.take (v := .pointer (some ⟨x, 3, none⟩)) 4 12 rfl ?_ (fun w' hw' => by go_simp; first | done | rfl | omega | exact wrap_in (by omega) (by omega) | exact Int.tmod_eq_emod_of_nonneg (by omega) | exact Int.tdiv_eq_ediv_of_nonneg (by omega) | (simp; omega))
  refine Hb.take (v := .pointer (some ⟨d, 0, none⟩)) 5 13 rfl ?_ (fun w' hw' => by exact ldDisk (Blk.cell (i := 3) (Blk.past (show Blk (w.alloc (.cells #[.int .i64 m.kind, .int .i64 m.fr, .int .i64 m.dst, .int .i64 m.boot, .int .i64 m.view, .int .i64 m.last, .int .i64 m.mem, .int .i64 m.pos, .slice A m.es.length c, .int .i64 m.com, .int .i64 m.num, .int .i64 m.clk, .bool m.yes] 47)).drew x 78 (ncs d p a) from B1.out) hw') rfl) rfl)
  refine Hb.call (f := 28) (args := #[.pointer (some ⟨d, 0, none⟩)]) 6 14 rfl ?_ (run_callf Tryz.func28 (by kernel_rfl) (by kernel_rfl) (by simp only [List.map_toArray, List.map_cons, List.map_nil]; rfl))
  refine (view_c _ d b pro DD.out).mono ?_
  rintro e w3 ⟨rfl, rfl⟩
  refine Hb.back (Below.refl _ _) (Nat.le_refl _) ?_
  refine Hb.take (v := .bool false) 7 15 rfl ?_ (fun w' hw' => by go_simp; first | done | rfl | omega | exact wrap_in (by omega) (by omega) | exact Int.tmod_eq_emod_of_nonneg (by omega) | exact Int.tdiv_eq_ediv_of_nonneg (by omega) | (simp; omega))
  refine Hb.take (v := .bool false) 8 16 rfl ?_ (fun _ _ => rfl)
  refine Hb.pass 9 17 rfl ?_
  refine Hb.pass 10 18 rfl ?_
  refine Hb.pass 11 19 rfl ?_
  refine Hb.pass 12 20 rfl ?_
  refine Hb.pass 13 21 rfl ?_
  refine Hb.pass 14 22 rfl ?_
  refine Hb.take (v := .bool false) 15 23 rfl ?_ (fun _ _ => rfl)
  refine Hb.take (v := .bool false) 16 24 rfl ?_ (fun _ _ => rfl)
  refine Hb.pass 17 25 rfl ?_
  refine Hb.pass 18 26 rfl ?_
  refine Hb.pass 19 27 rfl ?_
  refine Hb.pass 20 28 rfl ?_
  refine Hb.pass 21 29 rfl ?_
  refine Hb.pass 22 30 rfl ?_
  refine Hb.take (v := .bool false) 23 31 rfl ?_ (fun _ _ => rfl)
  refine Hb.take (v := .bool false) 24 32 rfl ?_ (fun _ _ => rfl)
  refine Hb.pass 25 33 rfl ?_
  refine Hb.pass 26 34 rfl ?_
  refine Hb.pass 27 35 rfl ?_
  refine Hb.pass 28 36 rfl ?_
  refine Hb.take (v := .bool false) 29 37 rfl ?_ (fun _ _ => rfl)
  refine Hb.take (v := .bool false) 30 38 rfl ?_ (fun _ _ => rfl)
  refine Hb.pass 31 39 rfl ?_
  refine Hb.pass 32 40 rfl ?_
  refine Hb.pass 33 41 rfl ?_
  refine Hb.pass 34 42 rfl ?_
  refine Hb.pass 35 43 rfl ?_
  refine Hb.pass 36 44 rfl ?_
  refine Hb.take (v := .bool false) 37 45 rfl ?_ (fun _ _ => rfl)
  refine Hb.take (v := .bool false) 38 46 rfl ?_ (fun _ _ => rfl)
  refine Hb.pass 39 47 rfl ?_
  refine Hb.pass 40 48 rfl ?_
  refine Hb.pass 41 49 rfl ?_
  refine Hb.pass 42 50 rfl ?_
  refine Hb.pass 43 51 rfl ?_
  refine Hb.pass 44 52 rfl ?_
  refine Hb.pass 45 53 rfl ?_
  refine Hb.pass 46 54 rfl ?_
  refine Hb.take (v := .bool false) 47 55 rfl ?_ (fun _ _ => rfl)
  refine Hb.take (v := .bool false) 48 56 rfl ?_ (fun _ _ => rfl)
  refine Hb.pass 49 57 rfl ?_
  refine Hb.pass 50 58 rfl ?_
  refine Hb.pass 51 59 rfl ?_
  refine Hb.pass 52 60 rfl ?_
  refine Hb.pass 53 61 rfl ?_
  refine Hb.pass 54 62 rfl ?_
  refine Hb.take (v := .bool false) 55 63 rfl ?_ (fun _ _ => rfl)
  refine Hb.take (v := .bool false) 56 4 rfl ?_ (fun _ _ => rfl)
  refine Hb.done ?_
-- END
  go_wp2_with fail
  go_ret
  exact ⟨rfl, b0.out.drew⟩

set_option maxHeartbeats 4000000 in
set_option maxRecDepth 100000 in
theorem hd_inst_late {w : World} {x d : Nat} {F : List Nat} {p : Np} (h : Nd w x d F p) (m : Msg) (A : Option Addr) (c : Nat) (hk : m.kind = 4) (hn : p.knows = true) (hv : m.view < p.pro) :
    Calls Tryz.prog 47 #[.pointer (some ⟨x, 0, none⟩), mv m A c] w fun e w' => e = .returned (.bool false) ∧ Below w.heap.size w w' := by
  obtain ⟨a, s0, hr⟩ := h.open
  have b0 := Lib.hid ((Below.refl w.heap.size w).alloc (Nat.le_refl _) (.cells #[.int .i64 4, .int .i64 m.fr, .int .i64 m.dst, .int .i64 m.boot, .int .i64 m.view, .int .i64 m.last, .int .i64 m.mem, .int .i64 m.pos, .slice A m.es.length c, .int .i64 m.com, .int .i64 m.num, .int .i64 m.clk, .bool m.yes] 47))
  have K1 := Lib.hid (Blk.new w #[.int .i64 4, .int .i64 m.fr, .int .i64 m.dst, .int .i64 m.boot, .int .i64 m.view, .int .i64 m.last, .int .i64 m.mem, .int .i64 m.pos, .slice A m.es.length c, .int .i64 m.com, .int .i64 m.num, .int .i64 m.clk, .bool m.yes] 47)
  have S1 := Lib.hid (s0.alloc (.cells #[.int .i64 4, .int .i64 m.fr, .int .i64 m.dst, .int .i64 m.boot, .int .i64 m.view, .int .i64 m.last, .int .i64 m.mem, .int .i64 m.pos, .slice A m.es.length c, .int .i64 m.com, .int .i64 m.num, .int .i64 m.clk, .bool m.yes] 47))
  have B1 : Hid (Blk (w.alloc (.cells #[.int .i64 4, .int .i64 m.fr, .int .i64 m.dst, .int .i64 m.boot, .int .i64 m.view, .int .i64 m.last, .int .i64 m.mem, .int .i64 m.pos, .slice A m.es.length c, .int .i64 m.com, .int .i64 m.num, .int .i64 m.clk, .bool m.yes] 47)) x 78 (ncs d p a)) := Lib.hid (S1.out.sep.get (i := 0) rfl)
  have DD : Hid (Ds (w.alloc (.cells #[.int .i64 4, .int .i64 m.fr, .int .i64 m.dst, .int .i64 m.boot, .int .i64 m.view, .int .i64 m.last, .int .i64 m.mem, .int .i64 m.pos, .slice A m.es.length c, .int .i64 m.com, .int .i64 m.num, .int .i64 m.clk, .bool m.yes] 47)) d p.boot p.pro) := Lib.hid (S1.out.sep.get (i := 1) rfl)
  show Calls _ _ #[_, .agg #[.int .i64 m.kind, .int .i64 m.fr, .int .i64 m.dst, .int .i64 m.boot, .int .i64 m.view, .int .i64 m.last, .int .i64 m.mem, .int .i64 m.pos, .slice A m.es.length c, .int .i64 m.com, .int .i64 m.num, .int .i64 m.clk, .bool m.yes]] _ _
  rw [hk]
  have HN := Lib.hid hn
  clear hn h hr s0 hk
  go_enter Tryz.func47, Tryz.ntmps47
  have c6 : (w.alloc (.cells #[.int .i64 4, .int .i64 m.fr, .int .i64 m.dst, .int .i64 m.boot, .int .i64 m.view, .int .i64 m.last, .int .i64 m.mem, .int .i64 m.pos, .slice A m.es.length c, .int .i64 m.com, .int .i64 m.num, .int .i64 m.clk, .bool m.yes] 47)).cell? ⟨x, 6, none⟩ = some (.bool true) := by rw [← HN.out]; exact B1.out.cell rfl
  go_wp2_with ((with_reducible show wpList _ _ _ ((⟨some 59, Op.load _ _, _, _, _, _⟩ : Oper) :: _) _ _); go_must (refine wpList_unguard rfl ?_; refine wpList_load_row rfl 47 (.tmp 3) rfl w.heap.size rfl 47 #[.int .i64 4, .int .i64 m.fr, .int .i64 m.dst, .int .i64 m.boot, .int .i64 m.view, .int .i64 m.last, .int .i64 m.mem, .int .i64 m.pos, .slice A m.es.length c, .int .i64 m.com, .int .i64 m.num, .int .i64 m.clk, .bool m.yes] (0, 0) _ K1.out Tryz.underlying47 rfl (by kernel_rfl) ?_))
  refine (mayInst_late B1.out DD.out { m with kind := 4 } A c hv).mono ?_
  rintro e w2 ⟨rfl, b2⟩
  have BE := Lib.hid (b0.out.trans (b2.mono b0.out.size))
  go_wp2_with fail
  go_ret
  exact ⟨rfl, BE.out⟩
end Go.Proofs.YtfolifhgmdglaaaGreatDoor

/- The document's Has of a list of entries. -/
namespace Go.Proofs.YtfolifhgmdglaaaGreatDoor
open Go.RowKit

set_option maxHeartbeats 4000000 in
set_option maxRecDepth 100000 in
theorem rHas_c (w : World) (B : Nat) (A : Option Addr) (c n : Nat) (l : List Ent) (R : Rd w B A c 7 n (els l)) (e : Ent) :
    Calls Tryz.prog 98 #[.slice A n c, ev e] w fun x w' => x = .returned (.bool (PLog.has l e)) ∧ Below w.heap.size w w' := by
  have hcap := R.cap
  have hle := R.le
  have hn : n ≤ 9223372036854775807 := by unfold maxLen at hcap; omega
  have HL := Lib.hid R.elen
  have R0 := Lib.hid (R.tight.alloc (.cells #[.int .i64 e.fr, .int .i64 e.boot, .int .i64 e.seq, .int .i64 e.ord, .int .i64 e.lev, .int .i64 e.stamp, .string e.data] 86))
  have b0 := Lib.hid ((Below.refl w.heap.size w).alloc (Nat.le_refl _) (.cells #[.int .i64 e.fr, .int .i64 e.boot, .int .i64 e.seq, .int .i64 e.ord, .int .i64 e.lev, .int .i64 e.stamp, .string e.data] 86))
  have K0 := Lib.hid (Blk.newEnt w 86 e)
  clear R hcap hle
  show Calls _ _ #[_, .agg #[.int .i64 e.fr, .int .i64 e.boot, .int .i64 e.seq, .int .i64 e.ord, .int .i64 e.lev, .int .i64 e.stamp, .string e.data]] _ _
  go_enter Tryz.func98, Tryz.ntmps98
  go_wp2_with fail
  generalize (w.alloc (.cells #[.int .i64 e.fr, .int .i64 e.boot, .int .i64 e.seq, .int .i64 e.ord, .int .i64 e.lev, .int .i64 e.stamp, .string e.data] 86)) = w1 at *
  go_loopw [5] (fun s5 wr => ∃ i : Nat, i ≤ n ∧ s5 = .int .i64 i ∧ Hid ((l.take i).any (fun x => PEnt.same x e) = false) ∧ Hid (Below w1.heap.size w1 wr)) (fun s5 _ => n - (intOf s5).toNat)
  case atStart => exact ⟨0, by omega, rfl, Lib.hid rfl, Lib.hid (Below.refl _ _)⟩
  case round =>
    obtain ⟨i, hi, rfl, HP, BL⟩ := hrel
    by_cases hlt : i < n
    · obtain ⟨b, o, y, rfl, hb, hy, -, hr⟩ := (R0.out.tight.below BL.out).entR hlt
      have HY := Lib.hid hy
      have HB := Lib.hid (show b < wr.drew.heap.size from Nat.lt_of_lt_of_le hb BL.out.size)
      have HR := Lib.hid (show wr.drew.rangeAt b (o + i * 7) (ecs y) from hr)
      have K1 := Lib.hid (show Blk wr.drew w.heap.size 86 (ecs e) from (K0.out.below BL.out K0.out.lt).drew)
      have LT := Lib.hid (show w.heap.size < wr.drew.heap.size from K1.out.lt)
      clear hy hb hr
      cases hq : PEnt.same y e
      · have HP' := Lib.hid (any_take (p := fun x => PEnt.same x e) HY.out HP.out hq)
        have HS := Lib.hid hq
        clear hq
        go_wp2_with fail
-- REGION curfew/curfewref12.Has 4 rhas_f 8
        refine Hb.begin ?_
        refine Hb.take (v := .slice (some ⟨b, o, none⟩) n c) 0 12 rfl ?_ (fun _ _ => rfl)
        refine Hb.take (v := .int .i64 (i : Int)) 1 13 rfl ?_ (fun _ _ => rfl)
        refine Hb.take (v := .pointer (some ⟨b, o + i * 7, none⟩)) 2 14 rfl ?_ (fun w' hw' => by go_simp; first | done | rfl | omega | exact wrap_in (by omega) (by omega) | exact Int.tmod_eq_emod_of_nonneg (by omega) | exact Int.tdiv_eq_ediv_of_nonneg (by omega) | (simp; omega))
        refine Hb.take (v := ev y) 3 15 rfl ?_ (fun w' hw' => by exact run_loadE (rangeAt_below HR.out hw' HB.out) rfl)
        refine Hb.take (v := ev e) 4 16 rfl ?_ (fun w' hw' => by exact run_loadE ((K1.out.below hw' LT.out).range) rfl)
        refine Hb.call (f := 150) (args := #[ev y, ev e]) 5 17 rfl ?_ (run_callf Tryz.func150 (by kernel_rfl) (by kernel_rfl) (by simp only [List.map_toArray, List.map_cons, List.map_nil]; rfl))
        refine (rSame_c wr.drew y e).mono ?_
        rw [HS.out]
        rintro x w3 ⟨rfl, b3⟩
        refine Hb.back b3 (Nat.le_refl _) ?_
        refine Hb.done ?_
-- END
        go_wp2_with fail
        go_roundw
        case rel => exact ⟨i + 1, by omega, by go_num, HP', Lib.hid (BL.out.drew.trans (b3.mono BL.out.size))⟩
        case measure => simp [intOf]; omega
      · have HP' := Lib.hid (show PLog.has l e = true from any_at (p := fun x => PEnt.same x e) HY.out hq)
        have HS := Lib.hid hq
        clear hq
        go_wp2_with fail
-- REGION curfew/curfewref12.Has 4 rhas_t 8
        refine Hb.begin ?_
        refine Hb.take (v := .slice (some ⟨b, o, none⟩) n c) 0 12 rfl ?_ (fun _ _ => rfl)
        refine Hb.take (v := .int .i64 (i : Int)) 1 13 rfl ?_ (fun _ _ => rfl)
        refine Hb.take (v := .pointer (some ⟨b, o + i * 7, none⟩)) 2 14 rfl ?_ (fun w' hw' => by go_simp; first | done | rfl | omega | exact wrap_in (by omega) (by omega) | exact Int.tmod_eq_emod_of_nonneg (by omega) | exact Int.tdiv_eq_ediv_of_nonneg (by omega) | (simp; omega))
        refine Hb.take (v := ev y) 3 15 rfl ?_ (fun w' hw' => by exact run_loadE (rangeAt_below HR.out hw' HB.out) rfl)
        refine Hb.take (v := ev e) 4 16 rfl ?_ (fun w' hw' => by exact run_loadE ((K1.out.below hw' LT.out).range) rfl)
        refine Hb.call (f := 150) (args := #[ev y, ev e]) 5 17 rfl ?_ (run_callf Tryz.func150 (by kernel_rfl) (by kernel_rfl) (by simp only [List.map_toArray, List.map_cons, List.map_nil]; rfl))
        refine (rSame_c wr.drew y e).mono ?_
        rw [HS.out]
        rintro x w3 ⟨rfl, b3⟩
        refine Hb.back b3 (Nat.le_refl _) ?_
        refine Hb.done ?_
-- END
        go_wp2_with fail
        go_ret
        exact ⟨by rw [HP'.out]; rfl, b0.out.trans ((BL.out.drew.trans (b3.mono BL.out.size)).mono b0.out.size)⟩
    · obtain rfl : i = n := by omega
      have HF := Lib.hid (show PLog.has l e = false by have := HP.out; rwa [List.take_of_length_le (by rw [HL.out]; omega)] at this)
      go_wp2_with fail
      go_ret
      exact ⟨by rw [HF.out]; rfl, b0.out.trans (BL.out.mono b0.out.size)⟩

end Go.Proofs.YtfolifhgmdglaaaGreatDoor

