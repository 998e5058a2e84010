/- Package join: isWhole. -/
import Derived.Test.YtnpobagipgephaaJoin
import Derived.Test.YtnpobagipgephaaLogN
namespace Go.Proofs.Ytnpobagipgephaa
open Go.RowKit PJoin

set_option maxHeartbeats 4000000 in
set_option maxRecDepth 100000 in
theorem isAll_c (w : World) (m : Msg) (A : Option Addr) (c : Nat) (R : Rd w w.heap.size A c 7 m.es.length (els m.es)) :
    Calls Try.prog 19 #[mv m A c] w fun e w' => e = .returned (.bool (isAll m)) ∧ Below w.heap.size w w' := by
  have hcap := R.cap
  have hle := R.le
  have hn : m.es.length ≤ 9223372036854775807 := by unfold maxLen at hcap; omega
  have B1 := Lib.hid ((Below.refl w.heap.size w).alloc (Nat.le_refl _) (.cells #[.int .i64 m.kind, .int .i64 m.fr, .int .i64 m.dst, .int .i64 m.boot, .int .i64 m.view, .int .i64 m.last, .int .i64 m.mem, .int .i64 m.pos, .slice A m.es.length c, .int .i64 m.com, .int .i64 m.num, .int .i64 m.clk, .bool m.yes] 30))
  have K1 := Lib.hid (Blk.new w #[.int .i64 m.kind, .int .i64 m.fr, .int .i64 m.dst, .int .i64 m.boot, .int .i64 m.view, .int .i64 m.last, .int .i64 m.mem, .int .i64 m.pos, .slice A m.es.length c, .int .i64 m.com, .int .i64 m.num, .int .i64 m.clk, .bool m.yes] 30)
  have R1 := Lib.hid (R.alloc (.cells #[.int .i64 m.kind, .int .i64 m.fr, .int .i64 m.dst, .int .i64 m.boot, .int .i64 m.view, .int .i64 m.last, .int .i64 m.mem, .int .i64 m.pos, .slice A m.es.length c, .int .i64 m.com, .int .i64 m.num, .int .i64 m.clk, .bool m.yes] 30)).tight
  have hI : isAll m = (decide (m.com ≤ m.es.length) && (((PLog.log m.es).length : Int) == (m.es.length : Int))) := rfl
  have HI := Lib.hid hI
  clear R hI hcap hle
  show Calls _ _ #[.agg #[.int .i64 m.kind, .int .i64 m.fr, .int .i64 m.dst, .int .i64 m.boot, .int .i64 m.view, .int .i64 m.last, .int .i64 m.mem, .int .i64 m.pos, .slice A m.es.length c, .int .i64 m.com, .int .i64 m.num, .int .i64 m.clk, .bool m.yes]] _ _
  go_enter Try.func19, Try.ntmps19
  go_wp2_with fail
  obtain ⟨k1, hk1⟩ : ∃ k, w.heap.size = k := ⟨_, rfl⟩
  rw [hk1] at K1 ⊢
  clear hk1
  generalize w.alloc (.cells #[.int .i64 m.kind, .int .i64 m.fr, .int .i64 m.dst, .int .i64 m.boot, .int .i64 m.view, .int .i64 m.last, .int .i64 m.mem, .int .i64 m.pos, .slice A m.es.length c, .int .i64 m.com, .int .i64 m.num, .int .i64 m.clk, .bool m.yes] 30) = w1 at *
  by_cases hc : m.com ≤ m.es.length
  · have h1 : decide (m.com ≤ (m.es.length : Int)) = true := decide_eq_true hc
-- REGION curfew/join.isWhole 1 jwholet 4
    refine Hb.begin ?_
    refine Hb.take (v := .pointer (some ⟨k1, 9, none⟩)) 0 3 rfl ?_ (fun w' hw' => by go_simp; first | done | rfl | omega | exact wrap_in (by omega) (by omega) | exact Int.tmod_eq_emod_of_nonneg (by omega) | exact Int.tdiv_eq_ediv_of_nonneg (by omega) | (simp; omega))
    refine Hb.take (v := .int .i64 m.com) 1 4 rfl ?_ (fun w' hw' => by exact run_loadJi ((K1.out.drew.past hw').cell (i := 9) rfl) rfl)
    refine Hb.take (v := .pointer (some ⟨k1, 8, none⟩)) 2 5 rfl ?_ (fun w' hw' => by go_simp; first | done | rfl | omega | exact wrap_in (by omega) (by omega) | exact Int.tmod_eq_emod_of_nonneg (by omega) | exact Int.tdiv_eq_ediv_of_nonneg (by omega) | (simp; omega))
    refine Hb.take (v := .slice A m.es.length c) 3 6 rfl ?_ (fun w' hw' => by exact run_load1 ((K1.out.drew.past hw').cell (i := 8) rfl) rfl)
    refine Hb.take (v := .int .i64 (m.es.length : Int)) 4 7 rfl ?_ (fun w' hw' => by go_simp; first | done | rfl | omega | exact wrap_in (by omega) (by omega) | exact Int.tmod_eq_emod_of_nonneg (by omega) | exact Int.tdiv_eq_ediv_of_nonneg (by omega) | (simp; omega))
    refine Hb.take (v := .bool true) 5 8 rfl ?_ (fun w' hw' => by go_simp; first | done | rfl | omega | exact wrap_in (by omega) (by omega) | exact Int.tmod_eq_emod_of_nonneg (by omega) | exact Int.tdiv_eq_ediv_of_nonneg (by omega) | (simp; omega))
    refine Hb.take (v := .bool true) 6 9 rfl ?_ (fun _ _ => rfl)
    refine Hb.take (v := .pointer (some ⟨k1, 8, none⟩)) 7 10 rfl ?_ (fun w' hw' => by go_simp; first | done | rfl | omega | exact wrap_in (by omega) (by omega) | exact Int.tmod_eq_emod_of_nonneg (by omega) | exact Int.tdiv_eq_ediv_of_nonneg (by omega) | (simp; omega))
    refine Hb.take (v := .slice A m.es.length c) 8 11 rfl ?_ (fun w' hw' => by exact run_load1 ((K1.out.drew.past hw').cell (i := 8) rfl) rfl)
    refine Hb.take (v := .pointer (some ⟨k1, 8, none⟩)) 11 14 rfl ?_ (fun w' hw' => by go_simp; first | done | rfl | omega | exact wrap_in (by omega) (by omega) | exact Int.tmod_eq_emod_of_nonneg (by omega) | exact Int.tdiv_eq_ediv_of_nonneg (by omega) | (simp; omega))
    refine Hb.take (v := .slice A m.es.length c) 12 15 rfl ?_ (fun w' hw' => by exact run_load1 ((K1.out.drew.past hw').cell (i := 8) rfl) rfl)
    refine Hb.take (v := .int .i64 (m.es.length : Int)) 13 16 rfl ?_ (fun w' hw' => by go_simp; first | done | rfl | omega | exact wrap_in (by omega) (by omega) | exact Int.tmod_eq_emod_of_nonneg (by omega) | exact Int.tdiv_eq_ediv_of_nonneg (by omega) | (simp; omega))
    refine Hb.call (f := 27) (args := #[.slice A m.es.length c]) 9 12 rfl ?_ (run_callf Try.func27 (by kernel_rfl) (by kernel_rfl) (by simp only [List.map_toArray, List.map_cons, List.map_nil]; rfl))
    refine (New_c _ _ A c m.es.length m.es R1.out.drew).mono ?_
    rintro e w2 ⟨gl, F, rfl, l2, f2, b2⟩
    have L2 := Lib.hid l2
    have B2 := Lib.hid (B1.out.drew.trans (b2.mono B1.out.size))
    clear l2 f2
    refine Hb.back b2 (Nat.le_refl _) ?_
    refine Hb.call (f := 28) (args := #[.pointer (some ⟨gl, 0, none⟩)]) 10 13 rfl ?_ (run_callf Try.func28 (by kernel_rfl) (by kernel_rfl) (by simp only [List.map_toArray, List.map_cons, List.map_nil]; rfl))
    refine (Len_c w2 gl F _ L2.out).mono ?_
    rintro e w3 ⟨rfl, rfl⟩
    refine Hb.back (Below.refl _ _) (Nat.le_refl _) ?_
    refine Hb.take (v := .bool (((PLog.log m.es).length : Int) == (m.es.length : Int))) 14 17 rfl ?_ (fun w' hw' => by go_simp; first | done | rfl | omega | exact wrap_in (by omega) (by omega) | exact Int.tmod_eq_emod_of_nonneg (by omega) | exact Int.tdiv_eq_ediv_of_nonneg (by omega) | (simp; omega))
    refine Hb.take (v := .bool (((PLog.log m.es).length : Int) == (m.es.length : Int))) 15 18 rfl ?_ (fun _ _ => rfl)
    refine Hb.take (v := .bool (((PLog.log m.es).length : Int) == (m.es.length : Int))) 16 2 rfl ?_ (fun _ _ => rfl)
    refine Hb.done ?_
-- END
    go_wp2_with fail
    go_ret
    exact ⟨by rw [HI.out, h1]; rfl, B2.out⟩
  · have h1 : decide (m.com ≤ (m.es.length : Int)) = false := decide_eq_false hc
-- REGION curfew/join.isWhole 1 jwholef 4
    refine Hb.begin ?_
    refine Hb.take (v := .pointer (some ⟨k1, 9, none⟩)) 0 3 rfl ?_ (fun w' hw' => by go_simp; first | done | rfl | omega | exact wrap_in (by omega) (by omega) | exact Int.tmod_eq_emod_of_nonneg (by omega) | exact Int.tdiv_eq_ediv_of_nonneg (by omega) | (simp; omega))
    refine Hb.take (v := .int .i64 m.com) 1 4 rfl ?_ (fun w' hw' => by exact run_loadJi ((K1.out.drew.past hw').cell (i := 9) rfl) rfl)
    refine Hb.take (v := .pointer (some ⟨k1, 8, none⟩)) 2 5 rfl ?_ (fun w' hw' => by go_simp; first | done | rfl | omega | exact wrap_in (by omega) (by omega) | exact Int.tmod_eq_emod_of_nonneg (by omega) | exact Int.tdiv_eq_ediv_of_nonneg (by omega) | (simp; omega))
    refine Hb.take (v := .slice A m.es.length c) 3 6 rfl ?_ (fun w' hw' => by exact run_load1 ((K1.out.drew.past hw').cell (i := 8) rfl) rfl)
    refine Hb.take (v := .int .i64 (m.es.length : Int)) 4 7 rfl ?_ (fun w' hw' => by go_simp; first | done | rfl | omega | exact wrap_in (by omega) (by omega) | exact Int.tmod_eq_emod_of_nonneg (by omega) | exact Int.tdiv_eq_ediv_of_nonneg (by omega) | (simp; omega))
    refine Hb.take (v := .bool false) 5 8 rfl ?_ (fun w' hw' => by go_simp; first | done | rfl | omega | exact wrap_in (by omega) (by omega) | exact Int.tmod_eq_emod_of_nonneg (by omega) | exact Int.tdiv_eq_ediv_of_nonneg (by omega) | (simp; omega))
    refine Hb.take (v := .bool false) 6 9 rfl ?_ (fun _ _ => rfl)
    refine Hb.pass 7 10 rfl ?_
    refine Hb.pass 8 11 rfl ?_
    refine Hb.pass 9 12 rfl ?_
    refine Hb.pass 10 13 rfl ?_
    refine Hb.pass 11 14 rfl ?_
    refine Hb.pass 12 15 rfl ?_
    refine Hb.pass 13 16 rfl ?_
    refine Hb.pass 14 17 rfl ?_
    refine Hb.take (v := Value.bool false) 15 18 rfl ?_ (fun _ _ => rfl)
    refine Hb.take (v := Value.bool false) 16 2 rfl ?_ (fun _ _ => rfl)
    refine Hb.done ?_
-- END
    go_wp2_with fail
    go_ret
    exact ⟨by rw [HI.out, h1]; rfl, B1.out.drew⟩
end Go.Proofs.Ytnpobagipgephaa
