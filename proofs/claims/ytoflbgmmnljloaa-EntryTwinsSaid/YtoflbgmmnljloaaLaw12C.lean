/- The walk of EntryTwins. -/
import Derived.Test.YtoflbgmmnljloaaEntI
import Derived.Test.YtoflbgmmnljloaaEntJ
import Derived.Test.YtoflbgmmnljloaaEntK
namespace Go.Proofs.Ytoflbgmmnljloaa
open Go.RowKit

theorem encode_some' {l : List Ent} (h : 0 < (PEnt.encode l).length) : l.all PEnt.may = true := by
  cases hl : l.all PEnt.may
  · have := (PEnt.encode_zero l).2 (.inl hl)
    omega
  · rfl
theorem twins {a b : List Ent} (ha : 0 < (PEnt.encode a).length) (hb : 0 < (PEnt.encode b).length) : PEnt.eqL a b = decide (PEnt.encode a = PEnt.encode b) := by
  have h1 := encode_some' ha
  have h2 := encode_some' hb
  rw [encode_good h1, encode_good h2]
  by_cases h : PEnt.enc a = PEnt.enc b
  · rw [decide_eq_true h, PEnt.eqL_iff]; exact PEnt.enc_inj h1 h2 h
  · rw [decide_eq_false h]
    cases hq : PEnt.eqL a b
    · rfl
    · rw [PEnt.eqL_iff] at hq; subst hq; exact absurd rfl h

set_option maxHeartbeats 4000000 in
set_option maxRecDepth 100000 in
theorem EntryTwins_w (w : World) (A A' : Option Addr) (c n c' n' : Nat) (l l' : List Ent) (h : Rd w w.heap.size A c 7 n (els l)) (h' : Rd w w.heap.size A' c' 7 n' (els l')) (hok : ∀ e ∈ l, EntOk e) (hok' : ∀ e ∈ l', EntOk e) :
    Calls Try.prog 6 #[.slice A n c, .slice A' n' c'] w fun e w' => e = .returned (.bool true) ∧ Below w.heap.size w w' := by
  have HOK := Lib.hid hok
  have HOK' := Lib.hid hok'
  have R0 := Lib.hid h
  have R0' := Lib.hid h'
  clear hok hok' h h'
  go_enter Try.func6, Try.ntmps6
  go_wp2_with fail
  refine (begun_c w).mono ?_
  rintro e w1 ⟨rfl, hb1⟩
  have B1 := Lib.hid hb1
  have R1 := Lib.hid (R0.out.past hb1).tight
  have R1' := Lib.hid (R0'.out.past hb1).tight
  clear R0 R0' hb1
  go_wp2_with fail
  refine (lEntries_c w1 A c n l 4 R1.out HOK.out (by omega) (by omega)).mono ?_
  rintro e w2 ⟨A2, c2, es, rfl, hes, hown, hsm, b2⟩
  have B2 := Lib.hid (B1.out.trans (b2.mono B1.out.size))
  have R2 := Lib.hid (Rd.of_own hown)
  have R2' := Lib.hid (R1'.out.past b2).tight
  have hm : es.length ≤ 4 := by rw [hes]; exact Nat.min_le_right ..
  clear hown hsm b2 hes HOK R1 R1' B1
  generalize hml : es.length = m at *
  have HM := Lib.hid hml
  clear hml
  go_wp2_with fail
  refine (lEntries_c w2 A' c' n' l' 4 R2'.out HOK'.out (by omega) (by omega)).mono ?_
  rintro e w3 ⟨A3, c3, fs, rfl, hfs, hown, hsm, b3⟩
  have B3 := Lib.hid (B2.out.trans (b3.mono B2.out.size))
  have R3 := Lib.hid (R2.out.past b3).tight
  have R3' := Lib.hid (Rd.of_own hown)
  have hm' : fs.length ≤ 4 := by rw [hfs]; exact Nat.min_le_right ..
  clear hown hsm b3 hfs HOK' R2 R2' B2
  generalize hml : fs.length = m' at *
  have HM' := Lib.hid hml
  clear hml
  have hl1 := PEnt.encode_len es
  have hl2 := PEnt.encode_len fs
  rw [HM.out] at hl1
  rw [HM'.out] at hl2
  have HTW := Lib.hid (fun h1 h2 => twins (a := es) (b := fs) h1 h2)
  have HB1 := Lib.hid (PEnt.encode_byte es)
  have HB2 := Lib.hid (PEnt.encode_byte fs)
  go_wp2_with fail
  refine (Encode_c w3 _ A2 c2 m es R3.out (by omega)).mono ?_
  rintro e w4 ⟨A4, c4, rfl, hown, b4⟩
  have B4 := Lib.hid (B3.out.trans (b4.mono B3.out.size))
  have R4 := Lib.hid (R3.out.past b4).tight
  have R4' := Lib.hid (R3'.out.past b4).tight
  have X4 := Lib.hid (Rd.of_own hown)
  clear hown b4 R3 R3' B3
  generalize PEnt.encode es = E at *
  generalize hml : E.length = N at *
  have HN := Lib.hid hml
  clear hml
  go_wp2_with fail
  refine (Encode_c w4 _ A3 c3 m' fs R4'.out (by omega)).mono ?_
  rintro e w5 ⟨A5, c5, rfl, hown, b5⟩
  have B5 := Lib.hid (B4.out.trans (b5.mono B4.out.size))
  have R5 := Lib.hid (R4.out.past b5).tight
  have R5' := Lib.hid (R4'.out.past b5).tight
  have X5 := Lib.hid (X4.out.past b5).tight
  have Y5 := Lib.hid (Rd.of_own hown)
  clear hown b5 R4 R4' X4 B4
  generalize PEnt.encode fs = F at *
  generalize hml : F.length = N' at *
  have HN' := Lib.hid hml
  clear hml
  have KE := Lib.hid (EqAll_c w5.drew A2 A3 c2 m c3 m' es fs R5.out R5'.out)
  by_cases z1 : N = 0
  · subst z1
    go_wp2_with fail
-- REGION curfew/curfewlaw12.EntryTwins 6 etwins6a 4
    refine Hb.begin ?_
    refine Hb.take (v := .slice A4 0 c4) 0 19 rfl ?_ (fun _ _ => rfl)
    refine Hb.take (v := .int .i64 0) 1 20 rfl ?_ (fun w' hw' => by go_simp; first | done | rfl | omega | exact wrap_in (by omega) (by omega) | exact Int.tmod_eq_emod_of_nonneg (by omega) | exact Int.tdiv_eq_ediv_of_nonneg (by omega) | (simp; omega))
    refine Hb.take (v := .bool true) 2 21 rfl ?_ (fun w' hw' => by go_simp; first | done | rfl | omega | exact wrap_in (by omega) (by omega) | exact Int.tmod_eq_emod_of_nonneg (by omega) | exact Int.tdiv_eq_ediv_of_nonneg (by omega) | (simp; omega))
    refine Hb.take (v := .bool true) 3 22 rfl ?_ (fun _ _ => rfl)
    refine Hb.pass 4 23 rfl ?_
    refine Hb.pass 5 24 rfl ?_
    refine Hb.pass 6 25 rfl ?_
    refine Hb.take (v := .bool true) 7 26 rfl ?_ (fun _ _ => rfl)
    refine Hb.take (v := .bool true) 8 27 rfl ?_ (fun _ _ => rfl)
    refine Hb.pass 9 28 rfl ?_
    refine Hb.pass 10 29 rfl ?_
    refine Hb.pass 11 30 rfl ?_
    refine Hb.pass 12 31 rfl ?_
    refine Hb.pass 13 32 rfl ?_
    refine Hb.pass 14 33 rfl ?_
    refine Hb.pass 15 34 rfl ?_
    refine Hb.pass 16 35 rfl ?_
    refine Hb.pass 17 36 rfl ?_
    refine Hb.take (v := .bool true) 18 37 rfl ?_ (fun _ _ => rfl)
    refine Hb.take (v := .bool true) 19 4 rfl ?_ (fun _ _ => rfl)
    refine Hb.done ?_
-- END
    go_wp2_with fail
    go_ret
    exact ⟨rfl, B5.out.drew⟩
  by_cases z2 : N' = 0
  · subst z2
    have y1 : ((N : Int) == 0) = false := by simp; omega
    go_wp2_with fail
-- REGION curfew/curfewlaw12.EntryTwins 6 etwins6b 4
    refine Hb.begin ?_
    refine Hb.take (v := .slice A4 N c4) 0 19 rfl ?_ (fun _ _ => rfl)
    refine Hb.take (v := .int .i64 (N : Int)) 1 20 rfl ?_ (fun w' hw' => by go_simp; first | done | rfl | omega | exact wrap_in (by omega) (by omega) | exact Int.tmod_eq_emod_of_nonneg (by omega) | exact Int.tdiv_eq_ediv_of_nonneg (by omega) | (simp; omega))
    refine Hb.take (v := .bool false) 2 21 rfl ?_ (fun w' hw' => by go_simp; first | done | rfl | omega | exact wrap_in (by omega) (by omega) | exact Int.tmod_eq_emod_of_nonneg (by omega) | exact Int.tdiv_eq_ediv_of_nonneg (by omega) | (simp; omega))
    refine Hb.take (v := .bool false) 3 22 rfl ?_ (fun _ _ => rfl)
    refine Hb.take (v := .slice A5 0 c5) 4 23 rfl ?_ (fun _ _ => rfl)
    refine Hb.take (v := .int .i64 0) 5 24 rfl ?_ (fun w' hw' => by go_simp; first | done | rfl | omega | exact wrap_in (by omega) (by omega) | exact Int.tmod_eq_emod_of_nonneg (by omega) | exact Int.tdiv_eq_ediv_of_nonneg (by omega) | (simp; omega))
    refine Hb.take (v := .bool true) 6 25 rfl ?_ (fun w' hw' => by go_simp; first | done | rfl | omega | exact wrap_in (by omega) (by omega) | exact Int.tmod_eq_emod_of_nonneg (by omega) | exact Int.tdiv_eq_ediv_of_nonneg (by omega) | (simp; omega))
    refine Hb.take (v := .bool true) 7 26 rfl ?_ (fun _ _ => rfl)
    refine Hb.take (v := .bool true) 8 27 rfl ?_ (fun _ _ => rfl)
    refine Hb.pass 9 28 rfl ?_
    refine Hb.pass 10 29 rfl ?_
    refine Hb.pass 11 30 rfl ?_
    refine Hb.pass 12 31 rfl ?_
    refine Hb.pass 13 32 rfl ?_
    refine Hb.pass 14 33 rfl ?_
    refine Hb.pass 15 34 rfl ?_
    refine Hb.pass 16 35 rfl ?_
    refine Hb.pass 17 36 rfl ?_
    refine Hb.take (v := .bool true) 18 37 rfl ?_ (fun _ _ => rfl)
    refine Hb.take (v := .bool true) 19 4 rfl ?_ (fun _ _ => rfl)
    refine Hb.done ?_
-- END
    go_wp2_with fail
    go_ret
    exact ⟨rfl, B5.out.drew⟩
  have HQ := Lib.hid (HTW.out (by omega) (by omega))
  have y1 : ((N : Int) == 0) = false := by simp; omega
  have y2 : ((N' : Int) == 0) = false := by simp; omega
  generalize hd : decide (E = F) = d at *
  have HD := Lib.hid hd
  clear hd HTW
  cases d
  · go_wp2_with fail
-- REGION curfew/curfewlaw12.EntryTwins 6 etwins6c 4
    refine Hb.begin ?_
    refine Hb.take (v := .slice A4 N c4) 0 19 rfl ?_ (fun _ _ => rfl)
    refine Hb.take (v := .int .i64 (N : Int)) 1 20 rfl ?_ (fun w' hw' => by go_simp; first | done | rfl | omega | exact wrap_in (by omega) (by omega) | exact Int.tmod_eq_emod_of_nonneg (by omega) | exact Int.tdiv_eq_ediv_of_nonneg (by omega) | (simp; omega))
    refine Hb.take (v := .bool false) 2 21 rfl ?_ (fun w' hw' => by go_simp; first | done | rfl | omega | exact wrap_in (by omega) (by omega) | exact Int.tmod_eq_emod_of_nonneg (by omega) | exact Int.tdiv_eq_ediv_of_nonneg (by omega) | (simp; omega))
    refine Hb.take (v := .bool false) 3 22 rfl ?_ (fun _ _ => rfl)
    refine Hb.take (v := .slice A5 N' c5) 4 23 rfl ?_ (fun _ _ => rfl)
    refine Hb.take (v := .int .i64 (N' : Int)) 5 24 rfl ?_ (fun w' hw' => by go_simp; first | done | rfl | omega | exact wrap_in (by omega) (by omega) | exact Int.tmod_eq_emod_of_nonneg (by omega) | exact Int.tdiv_eq_ediv_of_nonneg (by omega) | (simp; omega))
    refine Hb.take (v := .bool false) 6 25 rfl ?_ (fun w' hw' => by go_simp; first | done | rfl | omega | exact wrap_in (by omega) (by omega) | exact Int.tmod_eq_emod_of_nonneg (by omega) | exact Int.tdiv_eq_ediv_of_nonneg (by omega) | (simp; omega))
    refine Hb.take (v := .bool false) 7 26 rfl ?_ (fun _ _ => rfl)
    refine Hb.take (v := .bool false) 8 27 rfl ?_ (fun _ _ => rfl)
    refine Hb.take (v := .slice A4 N c4) 9 28 rfl ?_ (fun _ _ => rfl)
    refine Hb.take (v := .string (strOfNums E)) 10 29 rfl ?_ (fun w' hw' => by exact run_toStrOp 5 rfl (X5.out.drew.below hw') Try.underlying30 Try.underlying5 Try.underlying9)
    refine Hb.take (v := .slice A5 N' c5) 11 30 rfl ?_ (fun _ _ => rfl)
    refine Hb.take (v := .string (strOfNums F)) 12 31 rfl ?_ (fun w' hw' => by exact run_toStrOp 5 rfl (Y5.out.drew.below hw') Try.underlying30 Try.underlying5 Try.underlying9)
    refine Hb.take (v := .bool false) 13 32 rfl ?_ (fun w' hw' => by exact run_strEq rfl rfl (by rw [strOfNums_beq HB1.out HB2.out]; exact HD.out))
    refine Hb.take (v := .slice A2 m c2) 14 33 rfl ?_ (fun _ _ => rfl)
    refine Hb.take (v := .slice A3 m' c3) 15 34 rfl ?_ (fun _ _ => rfl)
    refine Hb.call (f := 21) (args := #[.slice A2 m c2, .slice A3 m' c3]) 16 35 rfl ?_ (run_callf Try.func21 (by kernel_rfl) (by kernel_rfl) (by simp only [List.map_toArray, List.map_cons, List.map_nil]; rfl))
    refine KE.out.mono ?_
    rw [HQ.out]
    rintro x w6 ⟨rfl, b6⟩
    refine Hb.back b6 b6.size ?_
    refine Hb.take (v := .bool true) 17 36 rfl ?_ (fun w' hw' => by go_simp; first | done | rfl | omega | exact wrap_in (by omega) (by omega) | exact Int.tmod_eq_emod_of_nonneg (by omega) | exact Int.tdiv_eq_ediv_of_nonneg (by omega) | (simp; omega))
    refine Hb.take (v := .bool true) 18 37 rfl ?_ (fun _ _ => rfl)
    refine Hb.take (v := .bool true) 19 4 rfl ?_ (fun _ _ => rfl)
    refine Hb.done ?_
-- END
    go_wp2_with fail
    go_ret
    exact ⟨rfl, B5.out.drew.trans (b6.mono B5.out.size)⟩
  · go_wp2_with fail
-- REGION curfew/curfewlaw12.EntryTwins 6 etwins6d 4
    refine Hb.begin ?_
    refine Hb.take (v := .slice A4 N c4) 0 19 rfl ?_ (fun _ _ => rfl)
    refine Hb.take (v := .int .i64 (N : Int)) 1 20 rfl ?_ (fun w' hw' => by go_simp; first | done | rfl | omega | exact wrap_in (by omega) (by omega) | exact Int.tmod_eq_emod_of_nonneg (by omega) | exact Int.tdiv_eq_ediv_of_nonneg (by omega) | (simp; omega))
    refine Hb.take (v := .bool false) 2 21 rfl ?_ (fun w' hw' => by go_simp; first | done | rfl | omega | exact wrap_in (by omega) (by omega) | exact Int.tmod_eq_emod_of_nonneg (by omega) | exact Int.tdiv_eq_ediv_of_nonneg (by omega) | (simp; omega))
    refine Hb.take (v := .bool false) 3 22 rfl ?_ (fun _ _ => rfl)
    refine Hb.take (v := .slice A5 N' c5) 4 23 rfl ?_ (fun _ _ => rfl)
    refine Hb.take (v := .int .i64 (N' : Int)) 5 24 rfl ?_ (fun w' hw' => by go_simp; first | done | rfl | omega | exact wrap_in (by omega) (by omega) | exact Int.tmod_eq_emod_of_nonneg (by omega) | exact Int.tdiv_eq_ediv_of_nonneg (by omega) | (simp; omega))
    refine Hb.take (v := .bool false) 6 25 rfl ?_ (fun w' hw' => by go_simp; first | done | rfl | omega | exact wrap_in (by omega) (by omega) | exact Int.tmod_eq_emod_of_nonneg (by omega) | exact Int.tdiv_eq_ediv_of_nonneg (by omega) | (simp; omega))
    refine Hb.take (v := .bool false) 7 26 rfl ?_ (fun _ _ => rfl)
    refine Hb.take (v := .bool false) 8 27 rfl ?_ (fun _ _ => rfl)
    refine Hb.take (v := .slice A4 N c4) 9 28 rfl ?_ (fun _ _ => rfl)
    refine Hb.take (v := .string (strOfNums E)) 10 29 rfl ?_ (fun w' hw' => by exact run_toStrOp 5 rfl (X5.out.drew.below hw') Try.underlying30 Try.underlying5 Try.underlying9)
    refine Hb.take (v := .slice A5 N' c5) 11 30 rfl ?_ (fun _ _ => rfl)
    refine Hb.take (v := .string (strOfNums F)) 12 31 rfl ?_ (fun w' hw' => by exact run_toStrOp 5 rfl (Y5.out.drew.below hw') Try.underlying30 Try.underlying5 Try.underlying9)
    refine Hb.take (v := .bool true) 13 32 rfl ?_ (fun w' hw' => by exact run_strEq rfl rfl (by rw [strOfNums_beq HB1.out HB2.out]; exact HD.out))
    refine Hb.take (v := .slice A2 m c2) 14 33 rfl ?_ (fun _ _ => rfl)
    refine Hb.take (v := .slice A3 m' c3) 15 34 rfl ?_ (fun _ _ => rfl)
    refine Hb.call (f := 21) (args := #[.slice A2 m c2, .slice A3 m' c3]) 16 35 rfl ?_ (run_callf Try.func21 (by kernel_rfl) (by kernel_rfl) (by simp only [List.map_toArray, List.map_cons, List.map_nil]; rfl))
    refine KE.out.mono ?_
    rw [HQ.out]
    rintro x w6 ⟨rfl, b6⟩
    refine Hb.back b6 b6.size ?_
    refine Hb.take (v := .bool true) 17 36 rfl ?_ (fun w' hw' => by go_simp; first | done | rfl | omega | exact wrap_in (by omega) (by omega) | exact Int.tmod_eq_emod_of_nonneg (by omega) | exact Int.tdiv_eq_ediv_of_nonneg (by omega) | (simp; omega))
    refine Hb.take (v := .bool true) 18 37 rfl ?_ (fun _ _ => rfl)
    refine Hb.take (v := .bool true) 19 4 rfl ?_ (fun _ _ => rfl)
    refine Hb.done ?_
-- END
    go_wp2_with fail
    go_ret
    exact ⟨rfl, B5.out.drew.trans (b6.mono B5.out.size)⟩
end Go.Proofs.Ytoflbgmmnljloaa
