/- Contract of the document's EqAll; an entry loaded in a region that draws. -/
import Derived.Test.YtkpgijmpaklfgaaEntN
import Derived.Test.YtkpgijmpaklfgaaEntM
namespace Go.Proofs.Ytkpgijmpaklfgaa
open Go.RowKit

set_option maxHeartbeats 4000000 in
set_option maxRecDepth 100000 in
theorem EqAll_c (w : World) (A A2 : Option Addr) (c n c2 n2 : Nat) (l l2 : List Ent) (h : Rd w w.heap.size A c 7 n (els l)) (h2 : Rd w w.heap.size A2 c2 7 n2 (els l2)) :
    Calls Try.prog 12 #[.slice A n c, .slice A2 n2 c2] w fun x w' => x = .returned (.bool (PEnt.eqL l l2)) ∧ Below w.heap.size w w' := by
  have HL1 := Lib.hid h.elen
  have HL2 := Lib.hid h2.elen
  have hcap := h.cap
  have hle := h.le
  have hn : n ≤ 9223372036854775807 := by unfold maxLen at hcap; omega
  have hcap2 := h2.cap
  have hle2 := h2.le
  have hn2 : n2 ≤ 9223372036854775807 := by unfold maxLen at hcap2; omega
  have R1 := Lib.hid h
  have R2 := Lib.hid h2
  clear h h2 hcap hle hcap2 hle2
  by_cases hne : n = n2
  · subst hne
    go_enter Try.func12, Try.ntmps12
    go_wp2_with fail
    go_loopw [5] (fun s5 wr => ∃ i : Nat, i ≤ n ∧ s5 = .int .i64 i ∧ Hid (PEnt.eqL l l2 = PEnt.eqL (l.drop i) (l2.drop i)) ∧ Hid (Below w.heap.size w wr)) (fun s5 _ => n - (intOf s5).toNat)
    case atStart => exact ⟨0, by omega, rfl, Lib.hid rfl, Lib.hid (Below.refl _ _)⟩
    case round =>
      obtain ⟨i, hi, rfl, HQ, BL⟩ := hrel
      by_cases hlt : i < n
      · obtain ⟨b1, o1, e1, rfl, hb1, he1, -, hr1⟩ := (R1.out.below BL.out).entR hlt
        obtain ⟨b2, o2, e2, rfl, hb2, he2, -, hr2⟩ := (R2.out.below BL.out).entR hlt
        have HS := Lib.hid (eqL_step he1 he2)
        have HB1 := Lib.hid (show b1 < wr.drew.heap.size from Nat.lt_of_lt_of_le hb1 BL.out.size)
        have HB2 := Lib.hid (show b2 < wr.drew.heap.size from Nat.lt_of_lt_of_le hb2 BL.out.size)
        have HR1 := Lib.hid (show wr.drew.rangeAt b1 (o1 + i * 7) (ecs e1) from hr1)
        have HR2 := Lib.hid (show wr.drew.rangeAt b2 (o2 + i * 7) (ecs e2) from hr2)
        clear he1 he2 hb1 hb2 hr1 hr2
        cases hq : PEnt.eqE e1 e2
        · have HE := Lib.hid (HQ.out.trans (HS.out.trans (by rw [hq])))
          have HK := Lib.hid hq
          clear hq
          go_wp2_with fail
-- REGION curfew/curfewref12.EqAll 6 eqall6f 10
          refine Hb.begin ?_
          refine Hb.take (v := .slice (some ⟨b1, o1, none⟩) n c) 0 17 rfl ?_ (fun _ _ => rfl)
          refine Hb.take (v := .int .i64 (i : Int)) 1 18 rfl ?_ (fun _ _ => rfl)
          refine Hb.take (v := .pointer (some ⟨b1, o1 + i * 7, none⟩)) 2 19 rfl ?_ (fun w' hw' => by go_simp; first | done | rfl | omega | exact wrap_in (by omega) (by omega) | exact Int.tmod_eq_emod_of_nonneg (by omega) | exact Int.tdiv_eq_ediv_of_nonneg (by omega) | (simp; omega))
          refine Hb.take (v := ev e1) 3 20 rfl ?_ (fun w' hw' => by exact run_loadE (rangeAt_below HR1.out hw' HB1.out) rfl)
          refine Hb.take (v := .slice (some ⟨b2, o2, none⟩) n c2) 4 21 rfl ?_ (fun _ _ => rfl)
          refine Hb.take (v := .int .i64 (i : Int)) 5 22 rfl ?_ (fun _ _ => rfl)
          refine Hb.take (v := .pointer (some ⟨b2, o2 + i * 7, none⟩)) 6 23 rfl ?_ (fun w' hw' => by go_simp; first | done | rfl | omega | exact wrap_in (by omega) (by omega) | exact Int.tmod_eq_emod_of_nonneg (by omega) | exact Int.tdiv_eq_ediv_of_nonneg (by omega) | (simp; omega))
          refine Hb.take (v := ev e2) 7 24 rfl ?_ (fun w' hw' => by exact run_loadE (rangeAt_below HR2.out hw' HB2.out) rfl)
          refine Hb.call (f := 19) (args := #[ev e1, ev e2]) 8 25 rfl ?_ (run_callf Try.func19 (by kernel_rfl) (by kernel_rfl) (by simp only [List.map_toArray, List.map_cons, List.map_nil]; rfl))
          refine (rEq_c wr.drew e1 e2).mono ?_
          rw [HK.out]
          rintro x w3 ⟨rfl, b3⟩
          refine Hb.back b3 (Nat.le_refl _) ?_
          refine Hb.take (v := .bool true) 9 26 rfl ?_ (fun w' hw' => by go_simp; first | done | rfl | omega | exact wrap_in (by omega) (by omega) | exact Int.tmod_eq_emod_of_nonneg (by omega) | exact Int.tdiv_eq_ediv_of_nonneg (by omega) | (simp; omega))
          refine Hb.done ?_
-- END
          go_wp2_with fail
          go_ret
          exact ⟨by rw [HE.out]; rfl, BL.out.drew.trans (b3.mono BL.out.size)⟩
        · have HE := Lib.hid (HQ.out.trans (HS.out.trans (by rw [hq])))
          have HK := Lib.hid hq
          clear hq
          go_wp2_with fail
-- REGION curfew/curfewref12.EqAll 6 eqall6t 10
          refine Hb.begin ?_
          refine Hb.take (v := .slice (some ⟨b1, o1, none⟩) n c) 0 17 rfl ?_ (fun _ _ => rfl)
          refine Hb.take (v := .int .i64 (i : Int)) 1 18 rfl ?_ (fun _ _ => rfl)
          refine Hb.take (v := .pointer (some ⟨b1, o1 + i * 7, none⟩)) 2 19 rfl ?_ (fun w' hw' => by go_simp; first | done | rfl | omega | exact wrap_in (by omega) (by omega) | exact Int.tmod_eq_emod_of_nonneg (by omega) | exact Int.tdiv_eq_ediv_of_nonneg (by omega) | (simp; omega))
          refine Hb.take (v := ev e1) 3 20 rfl ?_ (fun w' hw' => by exact run_loadE (rangeAt_below HR1.out hw' HB1.out) rfl)
          refine Hb.take (v := .slice (some ⟨b2, o2, none⟩) n c2) 4 21 rfl ?_ (fun _ _ => rfl)
          refine Hb.take (v := .int .i64 (i : Int)) 5 22 rfl ?_ (fun _ _ => rfl)
          refine Hb.take (v := .pointer (some ⟨b2, o2 + i * 7, none⟩)) 6 23 rfl ?_ (fun w' hw' => by go_simp; first | done | rfl | omega | exact wrap_in (by omega) (by omega) | exact Int.tmod_eq_emod_of_nonneg (by omega) | exact Int.tdiv_eq_ediv_of_nonneg (by omega) | (simp; omega))
          refine Hb.take (v := ev e2) 7 24 rfl ?_ (fun w' hw' => by exact run_loadE (rangeAt_below HR2.out hw' HB2.out) rfl)
          refine Hb.call (f := 19) (args := #[ev e1, ev e2]) 8 25 rfl ?_ (run_callf Try.func19 (by kernel_rfl) (by kernel_rfl) (by simp only [List.map_toArray, List.map_cons, List.map_nil]; rfl))
          refine (rEq_c wr.drew e1 e2).mono ?_
          rw [HK.out]
          rintro x w3 ⟨rfl, b3⟩
          refine Hb.back b3 (Nat.le_refl _) ?_
          refine Hb.take (v := .bool false) 9 26 rfl ?_ (fun w' hw' => by go_simp; first | done | rfl | omega | exact wrap_in (by omega) (by omega) | exact Int.tmod_eq_emod_of_nonneg (by omega) | exact Int.tdiv_eq_ediv_of_nonneg (by omega) | (simp; omega))
          refine Hb.done ?_
-- END
          go_wp2_with fail
          go_roundw
          case rel => exact ⟨i + 1, by omega, by go_num, HE, Lib.hid (BL.out.drew.trans (b3.mono BL.out.size))⟩
          case measure => simp [intOf]; omega
      · obtain rfl : i = n := by omega
        have HE := Lib.hid (HQ.out.trans (by rw [List.drop_of_length_le (by rw [HL1.out]; omega), List.drop_of_length_le (by rw [HL2.out]; omega)]))
        go_wp2_with fail
        go_ret
        exact ⟨by rw [HE.out]; rfl, BL.out⟩
  · have HE := Lib.hid (eqL_ne (l := l) (m := l2) (by rw [HL1.out, HL2.out]; exact hne))
    go_enter Try.func12, Try.ntmps12
    go_wp2_with fail
    go_ret
    exact ⟨by rw [HE.out]; rfl, Below.refl _ _⟩
end Go.Proofs.Ytkpgijmpaklfgaa
