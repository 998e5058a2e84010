/- The walk of EntryJoin. -/
import Derived.Test.YtoflbgmmnljloaaEntJ
import Derived.Test.YtoflbgmmnljloaaEntK
namespace Go.Proofs.Ytoflbgmmnljloaa
open Go.RowKit

theorem encode_some2 {l : List Ent} (h : 0 < (PEnt.encode l).length) : l.all PEnt.may = true := by
  cases hl : l.all PEnt.may
  · have := (PEnt.encode_zero l).2 (.inl hl)
    omega
  · rfl
theorem join_all {a b : List Ent} (ha : 0 < (PEnt.encode a).length) (hb : 0 < (PEnt.encode b).length) : PEnt.encode (a ++ b) = PEnt.encode a ++ PEnt.encode b ∧ PEnt.dec (PEnt.encode a ++ PEnt.encode b) = some (a ++ b) := by
  have h1 := encode_some2 ha
  have h2 := encode_some2 hb
  have h3 : (a ++ b).all PEnt.may = true := by rw [List.all_append, h1, h2]; rfl
  rw [encode_good h1, encode_good h2, encode_good h3, ← PEnt.enc_append]
  exact ⟨rfl, PEnt.dec_enc h3⟩
theorem str_add (l m : List Int) : strOfNums l ++ strOfNums m = strOfNums (l ++ m) := by
  have h : ∀ a b : ByteArray, a.data.toList = b.data.toList → a = b := by
    intro a b h
    cases a; cases b; simp at h; subst h; rfl
  apply h
  simp [strOfNums_data]

set_option maxHeartbeats 4000000 in
set_option maxRecDepth 100000 in
theorem EntryJoin_w (w : World) (A A' : Option Addr) (c n c' n' : Nat) (l l' : List Ent) (h : Rd w w.heap.size A c 7 n (els l)) (h' : Rd w w.heap.size A' c' 7 n' (els l')) (hok : ∀ e ∈ l, EntOk e) (hok' : ∀ e ∈ l', EntOk e) :
    Calls Try.prog 8 #[.slice A n c, .slice A' n' c'] w fun e w' => e = .returned (.bool true) ∧ Below w.heap.size w w' := by
  have HOK := Lib.hid hok
  have HOK' := Lib.hid hok'
  have R0 := Lib.hid h
  have R0' := Lib.hid h'
  clear hok hok' h h'
  go_enter Try.func8, Try.ntmps8
  go_wp2_with fail
  refine (begun_c w).mono ?_
  rintro e w1 ⟨rfl, hb1⟩
  have B1 := Lib.hid hb1
  have R1 := Lib.hid (R0.out.past hb1).tight
  have R1' := Lib.hid (R0'.out.past hb1).tight
  clear R0 R0' hb1
  go_wp2_with fail
  refine (lEntries_c w1 A c n l 6 R1.out HOK.out (by omega) (by omega)).mono ?_
  rintro e w2 ⟨A2, c2, es, rfl, hes, hown, hsm, b2⟩
  have B2 := Lib.hid (B1.out.trans (b2.mono B1.out.size))
  have R2 := Lib.hid (Rd.of_own hown)
  have R2' := Lib.hid (R1'.out.past b2).tight
  have hm : es.length ≤ 6 := by rw [hes]; exact Nat.min_le_right ..
  clear hown hsm b2 hes HOK R1 R1' B1
  generalize hml : es.length = m at *
  have HM := Lib.hid hml
  clear hml
  go_wp2_with fail
  refine (lEntries_c w2 A' c' n' l' 6 R2'.out HOK'.out (by omega) (by omega)).mono ?_
  rintro e w3 ⟨A3, c3, fs, rfl, hfs, hown, hsm, b3⟩
  have B3 := Lib.hid (B2.out.trans (b3.mono B2.out.size))
  have R3 := Lib.hid (R2.out.past b3).tight
  have R3' := Lib.hid (Rd.of_own hown)
  have hm' : fs.length ≤ 6 := by rw [hfs]; exact Nat.min_le_right ..
  clear hown hsm b3 hfs HOK' R2 R2' B2
  generalize hml : fs.length = m' at *
  have HM' := Lib.hid hml
  clear hml
  have hl1 := PEnt.encode_len es
  have hl2 := PEnt.encode_len fs
  rw [HM.out] at hl1
  rw [HM'.out] at hl2
  have HJ := Lib.hid (fun h1 h2 => join_all (a := es) (b := fs) h1 h2)
  have HB1 := Lib.hid (PEnt.encode_byte es)
  have HB2 := Lib.hid (PEnt.encode_byte fs)
  go_wp2_with fail
  refine (Encode_c w3 _ A2 c2 m es R3.out (by omega)).mono ?_
  rintro e w4 ⟨A4, c4, rfl, hown, b4⟩
  have B4 := Lib.hid (B3.out.trans (b4.mono B3.out.size))
  have R4 := Lib.hid (R3.out.past b4).tight
  have R4' := Lib.hid (R3'.out.past b4).tight
  have X4 := Lib.hid (Rd.of_own hown)
  clear hown b4 R3 R3' B3
  generalize PEnt.encode es = E at *
  generalize hml : E.length = N at *
  have HN := Lib.hid hml
  clear hml
  go_wp2_with fail
  refine (Encode_c w4 _ A3 c3 m' fs R4'.out (by omega)).mono ?_
  rintro e w5 ⟨A5, c5, rfl, hown, b5⟩
  have B5 := Lib.hid (B4.out.trans (b5.mono B4.out.size))
  have R5 := Lib.hid (R4.out.past b5).tight
  have R5' := Lib.hid (R4'.out.past b5).tight
  have X5 := Lib.hid (X4.out.past b5).tight
  have Y5 := Lib.hid (Rd.of_own hown)
  clear hown b5 R4 R4' X4 B4
  generalize PEnt.encode fs = F at *
  generalize hml : F.length = N' at *
  have HN' := Lib.hid hml
  clear hml
  by_cases z1 : N = 0
  · subst z1
    go_wp2_with fail
    go_ret
    exact ⟨rfl, B5.out⟩
  have y1 : ((N : Int) == 0) = false := by simp; omega
  by_cases z2 : N' = 0
  · subst z2
    go_wp2_with fail
    go_ret
    exact ⟨rfl, B5.out⟩
  have y2 : ((N' : Int) == 0) = false := by simp; omega
  obtain ⟨j1, j2⟩ := HJ.out (by omega) (by omega)
  have HJ1 := Lib.hid j1
  have HJ2 := Lib.hid j2
  clear HJ j1 j2
  have o0 : w5.ownsRow w5.heap.size 23 7 (.slice none 0 0) 0 (els []) := World.ownsRow_nil _ _ _ _
  have hc63 : m ≤ maxLen := by unfold maxLen; omega
  go_wp2_with ((with_reducible show wpList _ _ _ ((⟨some 32, _, _, _, _, _⟩ : Oper) :: _) _ _); go_must (refine wpList_app rfl (.const (.slice none 0 0)) (.tmp 31) _ rfl w5.heap.size 23 (ev zeroE) 7 64 Try.underlying28 ent_info rfl (by omega) _ 0 (els []) rfl o0 _ A2 c2 m (els es) rfl R5.out (els_one _) (by unfold maxLen; omega) (by omega) (Nat.le_refl _) ?_))
  intro A6 c6 w6 hown6 hg6 hb6
  have R6' := Lib.hid (R5'.out.below hb6)
  have X6 := Lib.hid (X5.out.below hb6)
  have Y6 := Lib.hid (Y5.out.below hb6)
  have B6 := Lib.hid (B5.out.trans (hb6.mono B5.out.size))
  have O6 := Lib.hid (show w6.ownsRow w5.heap.size 23 7 (.slice A6 m c6) m (els es) by simpa [els] using hown6)
  have hs6 := hb6.size
  clear hown6 hg6 hb6 o0 X5 Y5 R5 R5'
  go_wp2_with ((with_reducible show wpList _ _ _ ((⟨some 34, _, _, _, _, _⟩ : Oper) :: _) _ _); go_must (refine wpList_app rfl (.tmp 32) (.tmp 33) _ rfl w5.heap.size 23 (ev zeroE) 7 64 Try.underlying28 ent_info rfl (by omega) _ m (els es) rfl O6.out _ A3 c3 m' (els fs) rfl R6'.out (els_one _) (by unfold maxLen; omega) (by omega) hs6 ?_))
  intro A7 c7 w7 hown7 hg7 hb7
  have X7 := Lib.hid (X6.out.below hb7).tight
  have Y7 := Lib.hid (Y6.out.below hb7).tight
  have B7 := Lib.hid (B6.out.trans (hb7.mono B5.out.size))
  rw [← els_append] at hown7
  have R7 := Lib.hid (Rd.of_own hown7)
  clear hown7 hg7 hb7 O6 X6 Y6 R6' B6 B5 hs6
  go_wp2_with fail
  refine (Encode_c w7 _ A7 c7 (m + m') (es ++ fs) R7.out (by omega)).mono ?_
  rw [HJ1.out]
  have hEF : (E ++ F).length = N + N' := by rw [List.length_append, HN.out, HN'.out]
  rw [hEF]
  rintro e w8 ⟨A8, c8, rfl, hown, b8⟩
  have B8 := Lib.hid (B7.out.trans (b8.mono B7.out.size))
  have X8 := Lib.hid (X7.out.past b8).tight
  have Y8 := Lib.hid (Y7.out.past b8).tight
  have Z8 := Lib.hid (Rd.of_own hown)
  have HEF := Lib.hid hEF
  clear hown b8 X7 Y7 B7 R7 hEF
  have o0 : w8.ownsRow w8.heap.size 5 1 (.slice none 0 0) 0 (bs []) := World.ownsRow_nil _ _ _ _
  go_wp2_with ((with_reducible show wpList _ _ _ ((⟨some 39, _, _, _, _, _⟩ : Oper) :: _) _ _); go_must (refine wpList_app rfl (.const (.slice none 0 0)) (.tmp 38) _ rfl w8.heap.size 5 _ 1 1 Try.underlying30 byte_info rfl (by omega) _ 0 (bs []) rfl o0 _ A4 c4 N (bs E) rfl X8.out (bs_one _) (by unfold maxLen; omega) (by omega) (Nat.le_refl _) ?_))
  intro A9 c9 w9 hown9 hg9 hb9
  have X9 := Lib.hid (X8.out.below hb9)
  have Y9 := Lib.hid (Y8.out.below hb9)
  have Z9 := Lib.hid (Z8.out.below hb9)
  have B9 := Lib.hid (B8.out.trans (hb9.mono B8.out.size))
  have O9 := Lib.hid (show w9.ownsRow w8.heap.size 5 1 (.slice A9 N c9) N (bs E) by simpa [bs] using hown9)
  have hs9 := hb9.size
  clear hown9 hg9 hb9 o0 X8 Y8 Z8
  go_wp2_with ((with_reducible show wpList _ _ _ ((⟨some 41, _, _, _, _, _⟩ : Oper) :: _) _ _); go_must (refine wpList_app rfl (.tmp 39) (.tmp 40) _ rfl w8.heap.size 5 _ 1 1 Try.underlying30 byte_info rfl (by omega) _ N (bs E) rfl O9.out _ A5 c5 N' (bs F) rfl Y9.out (bs_one _) (by unfold maxLen; omega) (by omega) hs9 ?_))
  intro A10 c10 w10 hown10 hg10 hb10
  have X10 := Lib.hid (X9.out.below hb10).tight
  have Y10 := Lib.hid (Y9.out.below hb10).tight
  have Z10 := Lib.hid (Z9.out.below hb10).tight
  have B10 := Lib.hid (B9.out.trans (hb10.mono B8.out.size))
  rw [← bs_append] at hown10
  have V10 := Lib.hid (Rd.of_own hown10)
  clear hown10 hg10 hb10 O9 X9 Y9 Z9 B9 B8 hs9
  go_wp2_with fail
  refine (Decode_c w10 _ A10 c10 (N + N') (E ++ F) V10.out (HB1.out.append HB2.out) (by omega)).mono ?_
  rw [HJ2.out]
  simp only [dErr, Option.getD_some, List.length_append]
  rw [HM.out, HM'.out]
  rintro e w11 ⟨A11, c11, rfl, hown, b11⟩
  have B11 := Lib.hid (B10.out.trans (b11.mono B10.out.size))
  have X11 := Lib.hid (X10.out.past b11).tight
  have Y11 := Lib.hid (Y10.out.past b11).tight
  have Z11 := Lib.hid (Z10.out.past b11).tight
  clear hown b11 X10 Y10 Z10 V10 B10
  have hst : strOfNums E ++ strOfNums F = strOfNums (E ++ F) := str_add E F
  have s1 : (strOfNums E).size = N := by rw [strOfNums_size]; exact HN.out
  have s2 : (strOfNums F).size = N' := by rw [strOfNums_size]; exact HN'.out
  go_wp2_with (first
    | (with_reducible show wpList _ _ _ ((⟨some 46, _, _, _, _, _⟩ : Oper) :: _) _ _
       go_must (refine wpList_toStr rfl 30 9 (.tmp 45) rfl 5 Try.underlying30 Try.underlying5 Try.underlying9 _ A8 c8 (N + N') (E ++ F) rfl Z11.out ?_))
    | (with_reducible show wpList _ _ _ ((⟨some 48, _, _, _, _, _⟩ : Oper) :: _) _ _
       go_must (refine wpList_toStr rfl 30 9 (.tmp 47) rfl 5 Try.underlying30 Try.underlying5 Try.underlying9 _ A4 c4 N E rfl X11.out ?_))
    | (with_reducible show wpList _ _ _ ((⟨some 50, _, _, _, _, _⟩ : Oper) :: _) _ _
       go_must (refine wpList_toStr rfl 30 9 (.tmp 49) rfl 5 Try.underlying30 Try.underlying5 Try.underlying9 _ A5 c5 N' F rfl Y11.out ?_)))
  go_ret
  exact ⟨rfl, B11.out⟩
end Go.Proofs.Ytoflbgmmnljloaa
