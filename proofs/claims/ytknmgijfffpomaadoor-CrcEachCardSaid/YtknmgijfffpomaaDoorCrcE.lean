/- Contract of the reference's Open. -/
import Derived.Test.YtknmgijfffpomaaDoorCrcD
namespace Go.Proofs.YtknmgijfffpomaaDoor
open Go.RowKit

theorem openP_by_seal {l : List Int} (hb : isB l) : openP l = if 4 ≤ l.length ∧ PCrc.sealed (l.take (l.length - 4)) = l then (l.take (l.length - 4), true) else ([], false) := by
  unfold openP
  have h : 4 ≤ l.length → (PCrc.sum (l.take (l.length - 4)) = PCrc.told (l.drop (l.length - 4)) ↔ PCrc.sealed (l.take (l.length - 4)) = l) := by
    intro h4
    have e : l = l.take (l.length - 4) ++ l.drop (l.length - 4) := (List.take_append_drop _ _).symm
    have hl : (l.drop (l.length - 4)).length = 4 := by rw [List.length_drop]; omega
    constructor
    · intro hs
      unfold PCrc.sealed
      rw [hs, PCrc.four_told (hb.drop _) hl, List.take_append_drop]
    · intro hs
      conv at hs => rhs; rw [e]
      unfold PCrc.sealed at hs
      have := List.append_cancel_left hs
      rw [← this, PCrc.told_four (PCrc.sum_lt (hb.take _))]
  by_cases h4 : 4 ≤ l.length
  · simp only [h4, true_and, h h4]
  · simp [h4]

set_option maxRecDepth 100000 in
theorem rOpen_c (w : World) (B : Nat) (A : Option Addr) (c n : Nat) (l : List Int) (h : Rd w B A c 1 n (bs l)) (hb : isB l) (hn : n ≤ 140000000000000) :
    Calls Tryd.prog 11 #[.slice A n c] w (OpenPost w (openP l)) := by
  have hlen := h.blen
  rw [openP_by_seal hb, hlen]
  by_cases h4 : n < 4
  · rw [if_neg (by omega)]
    clear hlen
    have d4 : ((n : Int) < 4) := by omega
    go_enter Tryd.func11, Tryd.ntmps11
    go_wp2
-- REGION curfew/curfewref1.Open 1 ropenfew 4
    refine Hb.begin ?_
    refine Hb.take (v := .slice A n c) 0 4 rfl ?_ (fun _ _ => rfl)
    refine Hb.take (v := .int .i64 n) 1 5 rfl ?_ (fun w' hw' => by go_simp; first | done | rfl | omega | exact wrap_in (by omega) (by omega) | (simp; omega))
    refine Hb.take (v := .bool true) 2 6 rfl ?_ (fun w' hw' => by go_simp; first | done | rfl | omega | exact wrap_in (by omega) (by omega) | (simp; omega))
    refine Hb.take (v := .bool true) 3 7 rfl ?_ (fun _ _ => rfl)
    refine Hb.pass 4 8 rfl ?_
    refine Hb.pass 5 9 rfl ?_
    refine Hb.pass 6 10 rfl ?_
    refine Hb.pass 7 11 rfl ?_
    refine Hb.pass 8 12 rfl ?_
    refine Hb.pass 9 13 rfl ?_
    refine Hb.pass 10 14 rfl ?_
    refine Hb.pass 11 15 rfl ?_
    refine Hb.pass 12 16 rfl ?_
    refine Hb.pass 13 17 rfl ?_
    refine Hb.take (v := Value.bool true) 14 18 rfl ?_ (fun _ _ => rfl)
    refine Hb.done ?_
-- END
    go_wp2
    go_ret2
    exact ⟨none, 0, rfl, Rd.nil _ _ _, (Below.refl _ _).drew⟩
  · obtain ⟨A1, c1, C1, h1⟩ := cut_any (P := Tryd.prog) 22 5 Tryd.underlying22 byte_info h none (some (.int .i64 ((n : Int) - 4))) 0 (n - 4) 0 ((n : Int) - 4) (.inl ⟨rfl, rfl⟩) (.inr ⟨rfl, by omega⟩) (by omega) (by omega)
    simp only [Nat.sub_zero, List.drop_zero, Nat.mul_one, ← bs_take] at C1 h1
    have htl : (l.take (n - 4)).length = n - 4 := by rw [List.length_take]; omega
    have HTL := Lib.hid htl; clear htl
    have HLEN := Lib.hid hlen; clear hlen
    have e4 : n - 4 + 4 = n := by omega
    have d4 : ¬ ((n : Int) < 4) := by omega
    obtain ⟨q, hq⟩ : ∃ q : Bool, decide (PCrc.sealed (l.take (n - 4)) = l) = q := ⟨_, rfl⟩
    have HQ := Lib.hid hq; clear hq
    have hfin : (if 4 ≤ n ∧ PCrc.sealed (l.take (n - 4)) = l then (l.take (n - 4), true) else ([], false)) = if q then (l.take (n - 4), true) else ([], false) := by
      rw [← HQ.out]
      have h5 : 4 ≤ n := by omega
      simp only [h5, true_and, decide_eq_true_eq]
    rw [hfin]
    clear hfin
    cases q
    all_goals
      have E4 := Lib.hid e4; clear e4
      go_enter Tryd.func11, Tryd.ntmps11
      go_wp2
    · have e4 := E4.out
-- REGION curfew/curfewref1.Open 1 ropenfalse 6
      refine Hb.begin ?_
      refine Hb.take (v := .slice A n c) 0 4 rfl ?_ (fun _ _ => rfl)
      refine Hb.take (v := .int .i64 n) 1 5 rfl ?_ (fun w' hw' => by go_simp; first | done | rfl | omega | exact wrap_in (by omega) (by omega) | (simp; omega))
      refine Hb.take (v := .bool false) 2 6 rfl ?_ (fun w' hw' => by go_simp; first | done | rfl | omega | exact wrap_in (by omega) (by omega) | (simp; omega))
      refine Hb.take (v := .bool false) 3 7 rfl ?_ (fun _ _ => rfl)
      refine Hb.take (v := .slice A n c) 4 8 rfl ?_ (fun _ _ => rfl)
      refine Hb.take (v := .slice A n c) 5 9 rfl ?_ (fun _ _ => rfl)
      refine Hb.take (v := .int .i64 n) 6 10 rfl ?_ (fun w' hw' => by go_simp; first | done | rfl | omega | exact wrap_in (by omega) (by omega) | (simp; omega))
      refine Hb.take (v := .int .i64 ((n : Int) - 4)) 7 11 rfl ?_ (fun w' hw' => by go_simp; first | done | rfl | omega | exact wrap_in (by omega) (by omega) | (simp; omega))
      refine Hb.take (v := .slice A1 (n - 4) c1) 8 12 rfl ?_ (fun w' hw' => by exact run_sliceOp (C1 w'))
      refine Hb.take (v := .slice A n c) 11 15 rfl ?_ (fun _ _ => rfl)
      refine Hb.take (v := .string (strOfNums l)) 12 16 rfl ?_ (fun w' hw' => by exact run_toStrOp 5 rfl (h.drew.past hw') Tryd.underlying22 Tryd.underlying5 Tryd.underlying9)
      refine Hb.call (f := 14) (args := #[.slice A1 (n - 4) c1]) 9 13 rfl ?_ (run_callf Tryd.func14 (by kernel_rfl) (by kernel_rfl) (by simp only [List.map_toArray, List.map_cons, List.map_nil]; rfl))
      refine (rSeal_c w.drew _ A1 c1 (n - 4) (l.take (n - 4)) h1 (hb.take _) (by omega)).mono ?_
      rintro e w1 ⟨A2, c2, rfl, hown1, hb1⟩
      rw [e4] at hown1 ⊢
      have hr1 := Rd.of_own hown1
      refine Hb.back hb1 hb1.size ?_
      refine Hb.take (v := .string (strOfNums (PCrc.sealed (l.take (n - 4))))) 10 14 rfl ?_ (fun w' hw' => by exact run_toStrOp 5 rfl (hr1.past hw') Tryd.underlying22 Tryd.underlying5 Tryd.underlying9)
      refine Hb.take (v := .bool true) 13 17 rfl ?_ (fun w' hw' => by exact run_strNe rfl rfl (by rw [strOfNums_beq (isB_sealed (hb.take _)) hb, HQ.out]; rfl))
      refine Hb.take (v := .bool true) 14 18 rfl ?_ (fun _ _ => rfl)
      refine Hb.done ?_
-- END
      go_wp2
      go_ret2
      exact ⟨none, 0, rfl, Rd.nil _ _ _, (Below.refl _ _).drew.trans hb1⟩
    · have e4 := E4.out
-- REGION curfew/curfewref1.Open 1 ropentrue 6
      refine Hb.begin ?_
      refine Hb.take (v := .slice A n c) 0 4 rfl ?_ (fun _ _ => rfl)
      refine Hb.take (v := .int .i64 n) 1 5 rfl ?_ (fun w' hw' => by go_simp; first | done | rfl | omega | exact wrap_in (by omega) (by omega) | (simp; omega))
      refine Hb.take (v := .bool false) 2 6 rfl ?_ (fun w' hw' => by go_simp; first | done | rfl | omega | exact wrap_in (by omega) (by omega) | (simp; omega))
      refine Hb.take (v := .bool false) 3 7 rfl ?_ (fun _ _ => rfl)
      refine Hb.take (v := .slice A n c) 4 8 rfl ?_ (fun _ _ => rfl)
      refine Hb.take (v := .slice A n c) 5 9 rfl ?_ (fun _ _ => rfl)
      refine Hb.take (v := .int .i64 n) 6 10 rfl ?_ (fun w' hw' => by go_simp; first | done | rfl | omega | exact wrap_in (by omega) (by omega) | (simp; omega))
      refine Hb.take (v := .int .i64 ((n : Int) - 4)) 7 11 rfl ?_ (fun w' hw' => by go_simp; first | done | rfl | omega | exact wrap_in (by omega) (by omega) | (simp; omega))
      refine Hb.take (v := .slice A1 (n - 4) c1) 8 12 rfl ?_ (fun w' hw' => by exact run_sliceOp (C1 w'))
      refine Hb.take (v := .slice A n c) 11 15 rfl ?_ (fun _ _ => rfl)
      refine Hb.take (v := .string (strOfNums l)) 12 16 rfl ?_ (fun w' hw' => by exact run_toStrOp 5 rfl (h.drew.past hw') Tryd.underlying22 Tryd.underlying5 Tryd.underlying9)
      refine Hb.call (f := 14) (args := #[.slice A1 (n - 4) c1]) 9 13 rfl ?_ (run_callf Tryd.func14 (by kernel_rfl) (by kernel_rfl) (by simp only [List.map_toArray, List.map_cons, List.map_nil]; rfl))
      refine (rSeal_c w.drew _ A1 c1 (n - 4) (l.take (n - 4)) h1 (hb.take _) (by omega)).mono ?_
      rintro e w1 ⟨A2, c2, rfl, hown1, hb1⟩
      rw [e4] at hown1 ⊢
      have hr1 := Rd.of_own hown1
      refine Hb.back hb1 hb1.size ?_
      refine Hb.take (v := .string (strOfNums (PCrc.sealed (l.take (n - 4))))) 10 14 rfl ?_ (fun w' hw' => by exact run_toStrOp 5 rfl (hr1.past hw') Tryd.underlying22 Tryd.underlying5 Tryd.underlying9)
      refine Hb.take (v := .bool false) 13 17 rfl ?_ (fun w' hw' => by exact run_strNe rfl rfl (by rw [strOfNums_beq (isB_sealed (hb.take _)) hb, HQ.out]; rfl))
      refine Hb.take (v := .bool false) 14 18 rfl ?_ (fun _ _ => rfl)
      refine Hb.done ?_
-- END
      have hr := h1.drew.past hb1
      have C1 := C1 w1
      go_wp2
      go_ret2
      refine ⟨A1, c1, ?_, ?_, (Below.refl _ _).drew.trans hb1⟩
      · rw [HTL.out]; rfl
      · rw [HTL.out]; exact hr.tight

end Go.Proofs.YtknmgijfffpomaaDoor
