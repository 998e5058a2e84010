/- Contracts of a disk's Bytes, the program's and the document's. -/
import Derived.Test.YtkdcafigcodbgaaDoorStabA
import Derived.Test.YtkdcafigcodbgaaDoorCrcG
import Derived.Test.YtkdcafigcodbgaaDoorNumB
import Derived.Test.YtkdcafigcodbgaaDoorRefNum
namespace Go.Proofs.YtkdcafigcodbgaaDoor
open Go.RowKit PStab

theorem sput_c (w : World) (x : Int) (h : Fit x) :
    Calls Tryd.prog 22 #[.slice none 0 0, .int .i64 x] w fun e w' => ∃ A' c', e = .returned (.slice A' (PNum.sev (PNum.zig x)).length c') ∧ w'.ownsRow w.heap.size 5 1 (.slice A' (PNum.sev (PNum.zig x)).length c') (PNum.sev (PNum.zig x)).length (bs (PNum.sev (PNum.zig x))) ∧ Below w.heap.size w w' := by
  refine (Put_c w 0 none 0 0 [] x (Rd.nil _ _ _) (by omega) h.1 h.2).mono ?_
  rintro e w' ⟨A', c', rfl, ho, hb⟩
  rw [Nat.zero_add, List.nil_append] at ho
  exact ⟨A', c', by rw [Nat.zero_add], ho, hb⟩
theorem sputN_c (w : World) (B : Nat) (A : Option Addr) (c : Nat) (l : List Int) (x : Int) (hr : Rd w B A c 1 l.length (bs l)) (hl : l.length ≤ 500000000000) (h : Fit x) :
    Calls Tryd.prog 22 #[.slice A l.length c, .int .i64 x] w fun e w' => ∃ A' c', e = .returned (.slice A' (l ++ PNum.sev (PNum.zig x)).length c') ∧ w'.ownsRow w.heap.size 5 1 (.slice A' (l ++ PNum.sev (PNum.zig x)).length c') (l ++ PNum.sev (PNum.zig x)).length (bs (l ++ PNum.sev (PNum.zig x))) ∧ Below w.heap.size w w' := by
  refine (Put_c w B A c l.length l x hr (by omega) h.1 h.2).mono ?_
  rintro e w' ⟨A', c', rfl, ho, hb⟩
  rw [← List.length_append] at ho
  exact ⟨A', c', by rw [← List.length_append], ho, hb⟩

/-- What Bytes answers. -/
def BytesPost (w : World) (b v : Int) (e : Ending) (w' : World) : Prop :=
  ∃ A' c', e = .returned (.slice A' (enc b v).length c') ∧ w'.ownsRow w.heap.size 5 1 (.slice A' (enc b v).length c') (enc b v).length (bs (enc b v)) ∧ Below w.heap.size w w'

set_option maxHeartbeats 1000000 in
set_option maxRecDepth 100000 in
theorem bytes_c (w : World) (g : Nat) (b v : Int) (h : Ds w g b v) (hb : Fit b) (hv : Fit v) (ht : Tab w) :
    Calls Tryd.prog 13 #[.pointer (some ⟨g, 0, none⟩)] w (BytesPost w b v) := by
  have K := Lib.hid (Blk.drew h)
  have LT := Lib.hid K.out.lt
  have FB := Lib.hid hb
  have FV := Lib.hid hv
  have HT := Lib.hid ht
  clear h hb hv ht
  go_enter Tryd.func13, Tryd.ntmps13
  go_upto_region 3 with fail
-- REGION (*curfew/stable.Disk).Bytes 3 sbytes3 2
  refine Hb.begin ?_
  refine Hb.take (v := .pointer (some ⟨g, 0, none⟩)) 0 5 rfl ?_ (fun _ _ => rfl)
  refine Hb.take (v := .pointer (some ⟨g, 0, none⟩)) 1 6 rfl ?_ (fun w' hw' => by go_simp; first | done | rfl | omega | exact wrap_in (by omega) (by omega) | exact Int.tmod_eq_emod_of_nonneg (by omega) | exact Int.tdiv_eq_ediv_of_nonneg (by omega) | (simp; omega))
  refine Hb.take (v := .pointer (some ⟨g, 0, none⟩)) 2 7 rfl ?_ (fun w' hw' => by go_simp; first | done | rfl | omega | exact wrap_in (by omega) (by omega) | exact Int.tmod_eq_emod_of_nonneg (by omega) | exact Int.tdiv_eq_ediv_of_nonneg (by omega) | (simp; omega))
  refine Hb.take (v := .int .i64 b) 3 8 rfl ?_ (fun w' hw' => by have c := (hw'.cell (p := ⟨g, 0, none⟩) LT.out).trans (K.out.cell (i := 0) rfl); go_simp)
  refine Hb.take (v := .pointer (some ⟨g, 0, none⟩)) 5 10 rfl ?_ (fun _ _ => rfl)
  refine Hb.take (v := .pointer (some ⟨g, 0, none⟩)) 6 11 rfl ?_ (fun w' hw' => by go_simp; first | done | rfl | omega | exact wrap_in (by omega) (by omega) | exact Int.tmod_eq_emod_of_nonneg (by omega) | exact Int.tdiv_eq_ediv_of_nonneg (by omega) | (simp; omega))
  refine Hb.take (v := .pointer (some ⟨g, 1, none⟩)) 7 12 rfl ?_ (fun w' hw' => by go_simp; first | done | rfl | omega | exact wrap_in (by omega) (by omega) | exact Int.tmod_eq_emod_of_nonneg (by omega) | exact Int.tdiv_eq_ediv_of_nonneg (by omega) | (simp; omega))
  refine Hb.take (v := .int .i64 v) 8 13 rfl ?_ (fun w' hw' => by have c := (hw'.cell (p := ⟨g, 1, none⟩) LT.out).trans (K.out.cell (i := 1) rfl); go_simp)
  refine Hb.call (f := 22) (args := #[.slice none 0 0, .int .i64 b]) 4 9 rfl ?_ (run_callf Tryd.func22 (by kernel_rfl) (by kernel_rfl) (by simp only [List.map_toArray, List.map_cons, List.map_nil]; rfl))
  refine (sput_c _ b FB.out).mono ?_
  rintro x w2 ⟨A2, c2, rfl, ho2, b2⟩
  have R2 := Lib.hid (Rd.of_own ho2)
  have B2 := Lib.hid b2
  clear ho2
  refine Hb.back b2 (Nat.le_refl _) ?_
  refine Hb.call (f := 22) (args := #[.slice A2 (PNum.sev (PNum.zig b)).length c2, .int .i64 v]) 9 14 rfl ?_ (run_callf Tryd.func22 (by kernel_rfl) (by kernel_rfl) (by simp only [List.map_toArray, List.map_cons, List.map_nil]; rfl))
  refine (sputN_c w2 _ A2 c2 (PNum.sev (PNum.zig b)) v R2.out (by have := sev_fit FB.out; omega) FV.out).mono ?_
  rintro x w3 ⟨A3, c3, rfl, ho3, b3⟩
  have R3 := Lib.hid (Rd.of_own ho3)
  have B3 := Lib.hid (B2.out.trans (b3.mono B2.out.size))
  clear ho3
  refine Hb.back (b3.mono B2.out.size) (Nat.le_refl _) ?_
  refine Hb.call (f := 21) (args := #[.slice A3 (body b v).length c3]) 10 15 rfl ?_ (run_callf Tryd.func21 (by kernel_rfl) (by kernel_rfl) (by simp only [List.map_toArray, List.map_cons, List.map_nil]; rfl))
  refine (Seal_c w3 _ A3 c3 (body b v).length (body b v) R3.out (body_byte b v) (HT.out.past ((Below.refl _ _).drew.trans (B3.out))) (by have := body_len FB.out FV.out; omega)).mono ?_
  rintro x w4 ⟨A4, c4, rfl, ho4, b4⟩
  have O4 := Lib.hid (own_base ho4 B3.out.size)
  have B4 := Lib.hid (B3.out.trans (b4.mono B3.out.size))
  clear ho4
  refine Hb.back (b4.mono B3.out.size) (Nat.le_refl _) ?_
  refine Hb.take (v := .slice A4 ((body b v).length + 4) c4) 11 2 rfl ?_ (fun _ _ => rfl)
  refine Hb.done ?_
-- END
  go_wp2_with fail
  go_ret
  have e : (enc b v).length = (body b v).length + 4 := enc_length b v
  exact ⟨A4, c4, by rw [e]; rfl, by rw [e]; exact O4.out, (Below.refl w.heap.size w).drew.trans B4.out⟩

set_option maxHeartbeats 1000000 in
set_option maxRecDepth 100000 in
theorem rBytes_c (w : World) (g : Nat) (b v : Int) (h : Dr w g b v) (hb : Fit b) (hv : Fit v) :
    Calls Tryd.prog 16 #[.pointer (some ⟨g, 0, none⟩)] w (BytesPost w b v) := by
  have K := Lib.hid (Blk.drew h)
  have LT := Lib.hid K.out.lt
  have FB := Lib.hid hb
  have FV := Lib.hid hv
  clear h hb hv
  go_enter Tryd.func16, Tryd.ntmps16
  go_upto_region 1 with fail
-- REGION (*curfew/curfewref19.Disk).Bytes 1 srbytes1 2
  refine Hb.begin ?_
  refine Hb.take (v := .pointer (some ⟨g, 0, none⟩)) 0 3 rfl ?_ (fun _ _ => rfl)
  refine Hb.take (v := .pointer (some ⟨g, 0, none⟩)) 1 4 rfl ?_ (fun w' hw' => by go_simp; first | done | rfl | omega | exact wrap_in (by omega) (by omega) | exact Int.tmod_eq_emod_of_nonneg (by omega) | exact Int.tdiv_eq_ediv_of_nonneg (by omega) | (simp; omega))
  refine Hb.take (v := .pointer (some ⟨g, 0, none⟩)) 2 5 rfl ?_ (fun w' hw' => by go_simp; first | done | rfl | omega | exact wrap_in (by omega) (by omega) | exact Int.tmod_eq_emod_of_nonneg (by omega) | exact Int.tdiv_eq_ediv_of_nonneg (by omega) | (simp; omega))
  refine Hb.take (v := .int .i64 b) 3 6 rfl ?_ (fun w' hw' => by have c := (hw'.cell (p := ⟨g, 0, none⟩) LT.out).trans (K.out.cell (i := 0) rfl); go_simp)
  refine Hb.take (v := .pointer (some ⟨g, 0, none⟩)) 5 8 rfl ?_ (fun _ _ => rfl)
  refine Hb.take (v := .pointer (some ⟨g, 0, none⟩)) 6 9 rfl ?_ (fun w' hw' => by go_simp; first | done | rfl | omega | exact wrap_in (by omega) (by omega) | exact Int.tmod_eq_emod_of_nonneg (by omega) | exact Int.tdiv_eq_ediv_of_nonneg (by omega) | (simp; omega))
  refine Hb.take (v := .pointer (some ⟨g, 1, none⟩)) 7 10 rfl ?_ (fun w' hw' => by go_simp; first | done | rfl | omega | exact wrap_in (by omega) (by omega) | exact Int.tmod_eq_emod_of_nonneg (by omega) | exact Int.tdiv_eq_ediv_of_nonneg (by omega) | (simp; omega))
  refine Hb.take (v := .int .i64 v) 8 11 rfl ?_ (fun w' hw' => by have c := (hw'.cell (p := ⟨g, 1, none⟩) LT.out).trans (K.out.cell (i := 1) rfl); go_simp)
  refine Hb.call (f := 20) (args := #[.int .i64 b]) 4 7 rfl ?_ (run_callf Tryd.func20 (by kernel_rfl) (by kernel_rfl) (by simp only [List.map_toArray, List.map_cons, List.map_nil]; rfl))
  refine (rPut_c _ b FB.out.1 FB.out.2).mono ?_
  rintro x w2 ⟨A2, c2, rfl, ho2, b2⟩
  have O2 := Lib.hid ho2
  have B2 := Lib.hid b2
  clear ho2
  refine Hb.back b2 (Nat.le_refl _) ?_
  refine Hb.call (f := 20) (args := #[.int .i64 v]) 9 12 rfl ?_ (run_callf Tryd.func20 (by kernel_rfl) (by kernel_rfl) (by simp only [List.map_toArray, List.map_cons, List.map_nil]; rfl))
  refine (rPut_c w2 v FV.out.1 FV.out.2).mono ?_
  rintro x w3 ⟨A3, c3, rfl, ho3, b3⟩
  have R3 := Lib.hid (Rd.of_own ho3)
  have O3 := Lib.hid (own_below O2.out (b3.mono (Nat.le_refl _)))
  have B3 := Lib.hid (B2.out.trans (b3.mono B2.out.size))
  clear ho3
  refine Hb.back (b3.mono B2.out.size) (Nat.le_refl _) ?_
  refine Hb.only 10 (some 13) rfl ?_
  refine wpList_app rfl (.tmp 7) (.tmp 12) _ rfl w.drew.heap.size 5 _ 1 1 Tryd.underlying33 byte_info rfl (by omega) _ (PNum.sev (PNum.zig b)).length (bs (PNum.sev (PNum.zig b))) rfl O3.out _ A3 c3 (PNum.sev (PNum.zig v)).length (bs (PNum.sev (PNum.zig v))) rfl R3.out (bs_one _) ?d1 ?d2 B3.out.size ?_
  case d1 => have := sev_fit FB.out; have := sev_fit FV.out; unfold maxLen; omega
  case d2 => have := sev_fit FB.out; have := sev_fit FV.out; omega
  intro A4 c4 w4 ho4 hgrow4 hb4
  have R4 := Lib.hid (Rd.of_own ho4)
  have B4 := Lib.hid (B3.out.trans hb4)
  refine Hb.next hb4 (Nat.le_refl _) ?_
  refine Hb.call (f := 19) (args := #[.slice A4 ((PNum.sev (PNum.zig b)).length + (PNum.sev (PNum.zig v)).length) c4]) 11 14 rfl ?_ (run_callf Tryd.func19 (by kernel_rfl) (by kernel_rfl) (by simp only [List.map_toArray, List.map_cons, List.map_nil]; rfl))
  refine (rSeal_c w4 _ A4 c4 ((PNum.sev (PNum.zig b)).length + (PNum.sev (PNum.zig v)).length) (body b v) (show Rd w4 _ A4 c4 1 _ (bs (PNum.sev (PNum.zig b) ++ PNum.sev (PNum.zig v))) by rw [bs_append]; exact R4.out) (body_byte b v) (by have := sev_fit FB.out; have := sev_fit FV.out; omega)).mono ?_
  rintro x w5 ⟨A5, c5, rfl, ho5, b5⟩
  have O5 := Lib.hid (own_base ho5 B4.out.size)
  have B5 := Lib.hid (B4.out.trans (b5.mono B4.out.size))
  clear ho5
  refine Hb.back (b5.mono B4.out.size) (Nat.le_refl _) ?_
  refine Hb.take (v := .slice A5 ((PNum.sev (PNum.zig b)).length + (PNum.sev (PNum.zig v)).length + 4) c5) 12 2 rfl ?_ (fun _ _ => rfl)
  refine Hb.done ?_
-- END
  go_wp2_with fail
  go_ret
  have e : (enc b v).length = (PNum.sev (PNum.zig b)).length + (PNum.sev (PNum.zig v)).length + 4 := by rw [enc_length]; unfold body; rw [List.length_append]
  exact ⟨A5, c5, by rw [e]; rfl, by rw [e]; exact O5.out, (Below.refl w.heap.size w).drew.trans B5.out⟩
end Go.Proofs.YtkdcafigcodbgaaDoor
