/- Contract of the document's Sum. -/
import Derived.Test.YtapleleaogjcjaaDoorTabR
import Derived.Test.YtapleleaogjcjaaDoorRefNumP
import Derived.Test.YtapleleaogjcjaaDoorCrcA
import Derived.Test.YtapleleaogjcjaaDoorHeld
namespace Go.Proofs.YtapleleaogjcjaaDoor
open Go.RowKit PTab

theorem rput_c (w : World) (a : ByteArray) (h : a.size ≤ 1000000) :
    Calls Tryd.prog 25 #[.string a] w fun e w' => ∃ A' c', e = .returned (.slice A' (encW a).length c') ∧ w'.ownsRow w.heap.size 5 1 (.slice A' (encW a).length c') (encW a).length (bs (encW a)) ∧ Below w.heap.size w w' := by
  refine (rPutText_c w a (by omega)).mono ?_
  rintro e w' ⟨A', c', rfl, ho, hb⟩
  have e : (PNum.sev (PNum.zig a.size)).length + a.size = (encW a).length := by simp [encW, sb_length]
  rw [e] at ho
  exact ⟨A', c', by rw [e], ho, hb⟩
theorem enc_snoc' {L : List Pr} {i : Nat} {p : Pr} (h : L[i]? = some p) : enc (L.take (i + 1)) = enc (L.take i) ++ encP p := by
  obtain ⟨hi, he⟩ := List.getElem?_eq_some_iff.1 h
  rw [List.take_succ_eq_append_getElem hi, enc_append, he]; simp [enc]

set_option maxHeartbeats 2000000 in
set_option maxRecDepth 100000 in
theorem rSum_t (w : World) (g : Nat) (F : List Nat) (L : List Pr) (h : Rt w g F L) (hok : Ok L) (hn : L.length ≤ 1000000) :
    Calls Tryd.prog 14 #[.pointer (some ⟨g, 0, none⟩)] w fun x w' => x = .returned (.int .u32 (sum L : Nat)) ∧ Below w.heap.size w w' := by
  obtain ⟨A, c, d0, hR⟩ := h.open
  have R0 := Lib.hid hR
  have D0 := Lib.hid d0
  have LW := Lib.hid (World.block_lt_of_cell? w _ d0)
  have OK := Lib.hid hok
  clear h hR d0 hok
  obtain ⟨n, hL⟩ : ∃ n, L.length = n := ⟨_, rfl⟩
  rw [hL] at R0 D0 hn
  have HL := Lib.hid hL
  clear hL
  go_enter Tryd.func14, Tryd.ntmps14
  go_wp2_with fail
  go_loopw [3, 4] (fun s3 s4 wr => ∃ (i m c' : Nat) (A' : Option Addr), i ≤ n ∧ m ≤ 36 * i ∧ s4 = .int .i64 i ∧ s3 = .slice A' m c' ∧
      Hid (wr.ownsRow w.heap.size 5 1 (.slice A' m c') m (bs (enc (L.take i)))) ∧ Hid (Below w.heap.size w wr))
    (fun _ s4 _ => n - (intOf s4).toNat)
  case atStart => exact ⟨0, 0, 0, none, by omega, by omega, rfl, rfl, Lib.hid (World.ownsRow_nil _ _ _ _), Lib.hid (Below.refl _ _)⟩
  case round =>
    obtain ⟨i, m, c2, A2, hi, hm, rfl, rfl, O, BW⟩ := hrel
    have d0 := (BW.out.cell (p := ⟨g, 0, none⟩) LW.out).trans D0.out
    by_cases hlt : i < n
    · obtain ⟨b, o, p, rfl, hb, hp, c1, c2⟩ := (R0.out.past BW.out).pr hlt
      have hsz := OK.out.sz p (List.mem_of_getElem? hp)
      have hz := encP_len hsz
      have hz1 : (encW p.1).length + (encW p.2).length ≤ 36 := by rw [← List.length_append]; exact hz
      have HS := Lib.hid (enc_snoc' hp)
      have SX := Lib.hid (show p.1.size ≤ 1000000 by omega)
      have SY := Lib.hid (show p.2.size ≤ 1000000 by omega)
      have EX := Lib.hid hz1
      have EY := EX
      have LB := Lib.hid hb
      have D1 := Lib.hid (show wr.drew.cell? ⟨g, 0, none⟩ = _ from d0)
      have C1 := Lib.hid (show wr.drew.cell? ⟨b, o + i * 2, none⟩ = _ from c1)
      have C2 := Lib.hid (show wr.drew.cell? ⟨b, o + i * 2 + 1, none⟩ = _ from c2)
      have O1 := Lib.hid (show wr.drew.ownsRow w.heap.size 5 1 _ m (bs (enc (L.take i))) from O.out)
      clear hsz hz hz1 hp hb c1 c2 O
      go_wp2_with fail
      clear d0
-- REGION (*curfew/curfewref12.Table).Sum 5 tsum5 6
      refine Hb.beginB (B := w.heap.size) ?_
      refine Hb.take (v := .slice A2 m c2) 0 14 rfl ?_ (fun _ _ => rfl)
      refine Hb.take (v := .pointer (some ⟨g, 0, none⟩)) 1 15 rfl ?_ (fun _ _ => rfl)
      refine Hb.take (v := .pointer (some ⟨g, 0, none⟩)) 2 16 rfl ?_ (fun w' hw' => by go_simp; first | done | rfl | omega | exact wrap_in (by omega) (by omega) | exact Int.tmod_eq_emod_of_nonneg (by omega) | exact Int.tdiv_eq_ediv_of_nonneg (by omega) | (simp; omega))
      refine Hb.take (v := .pointer (some ⟨g, 0, none⟩)) 3 17 rfl ?_ (fun w' hw' => by go_simp; first | done | rfl | omega | exact wrap_in (by omega) (by omega) | exact Int.tmod_eq_emod_of_nonneg (by omega) | exact Int.tdiv_eq_ediv_of_nonneg (by omega) | (simp; omega))
      refine Hb.take (v := .slice (some ⟨b, o, none⟩) n c) 4 18 rfl ?_ (fun w' hw' => by have c := (hw'.cell (p := ⟨g, 0, none⟩) LW.out).trans D1.out; go_simp)
      refine Hb.take (v := .int .i64 (i : Int)) 5 19 rfl ?_ (fun _ _ => rfl)
      refine Hb.take (v := .pointer (some ⟨b, o + i * 2, none⟩)) 6 20 rfl ?_ (fun w' hw' => by go_simp; first | done | rfl | omega | exact wrap_in (by omega) (by omega) | exact Int.tmod_eq_emod_of_nonneg (by omega) | exact Int.tdiv_eq_ediv_of_nonneg (by omega) | (simp; omega))
      refine Hb.take (v := .pointer (some ⟨b, o + i * 2, none⟩)) 7 21 rfl ?_ (fun w' hw' => by go_simp; first | done | rfl | omega | exact wrap_in (by omega) (by omega) | exact Int.tmod_eq_emod_of_nonneg (by omega) | exact Int.tdiv_eq_ediv_of_nonneg (by omega) | (simp; omega))
      refine Hb.take (v := .string p.1) 8 22 rfl ?_ (fun w' hw' => by have c := (hw'.cell (p := ⟨b, o + i * 2, none⟩) LB.out).trans C1.out; go_simp)
      refine Hb.take (v := .pointer (some ⟨g, 0, none⟩)) 11 25 rfl ?_ (fun _ _ => rfl)
      refine Hb.take (v := .pointer (some ⟨g, 0, none⟩)) 12 26 rfl ?_ (fun w' hw' => by go_simp; first | done | rfl | omega | exact wrap_in (by omega) (by omega) | exact Int.tmod_eq_emod_of_nonneg (by omega) | exact Int.tdiv_eq_ediv_of_nonneg (by omega) | (simp; omega))
      refine Hb.take (v := .pointer (some ⟨g, 0, none⟩)) 13 27 rfl ?_ (fun w' hw' => by go_simp; first | done | rfl | omega | exact wrap_in (by omega) (by omega) | exact Int.tmod_eq_emod_of_nonneg (by omega) | exact Int.tdiv_eq_ediv_of_nonneg (by omega) | (simp; omega))
      refine Hb.take (v := .slice (some ⟨b, o, none⟩) n c) 14 28 rfl ?_ (fun w' hw' => by have c := (hw'.cell (p := ⟨g, 0, none⟩) LW.out).trans D1.out; go_simp)
      refine Hb.take (v := .int .i64 (i : Int)) 15 29 rfl ?_ (fun _ _ => rfl)
      refine Hb.take (v := .pointer (some ⟨b, o + i * 2, none⟩)) 16 30 rfl ?_ (fun w' hw' => by go_simp; first | done | rfl | omega | exact wrap_in (by omega) (by omega) | exact Int.tmod_eq_emod_of_nonneg (by omega) | exact Int.tdiv_eq_ediv_of_nonneg (by omega) | (simp; omega))
      refine Hb.take (v := .pointer (some ⟨b, o + i * 2 + 1, none⟩)) 17 31 rfl ?_ (fun w' hw' => by go_simp; first | done | rfl | omega | exact wrap_in (by omega) (by omega) | exact Int.tmod_eq_emod_of_nonneg (by omega) | exact Int.tdiv_eq_ediv_of_nonneg (by omega) | (simp; omega))
      refine Hb.take (v := .string p.2) 18 32 rfl ?_ (fun w' hw' => by have c := (hw'.cell (p := ⟨b, o + i * 2 + 1, none⟩) LB.out).trans C2.out; go_simp)
      refine Hb.call (f := 25) (args := #[.string p.1]) 9 23 rfl ?_ (run_callf Tryd.func25 (by kernel_rfl) (by kernel_rfl) (by simp only [List.map_toArray, List.map_cons, List.map_nil]; rfl))
      refine (rput_c _ p.1 SX.out).mono ?_
      rintro e3 w3 ⟨A3, c3, rfl, ho3, b3⟩
      have R3 := Rd.of_own ho3
      have O3 := Lib.hid (own_below O1.out b3)
      have B3 := Lib.hid b3
      have E3 := EX.out
      clear ho3
      refine Hb.back (b3.mono BW.out.size) (Nat.le_refl _) ?_
      generalize hk : (encW p.1).length = k at *
      refine Hb.only 10 (some 24) rfl ?_
      refine wpList_app rfl (.tmp 14) (.tmp 23) _ rfl w.heap.size 5 _ 1 1 Tryd.underlying45 byte_info rfl (by omega) _ m (bs (enc (L.take i))) rfl O3.out _ A3 c3 k (bs (encW p.1)) rfl R3 (bs_one _) ?d1 ?d2 (Nat.le_trans BW.out.size b3.size) ?_
      case d1 => unfold maxLen; omega
      case d2 => omega
      intro A4 c4 w4 o4 g4 b4
      have B4 := Lib.hid ((BW.out.drew.trans (B3.out.mono BW.out.size)).trans b4)
      have O4 := Lib.hid o4
      clear o4 R3 O3
      refine Hb.next b4 (Nat.le_refl _) ?_ (by simp only [Act.put, List.setIfInBounds_toArray, List.set_cons_succ, List.set_cons_zero]; rfl)
      refine Hb.call (f := 25) (args := #[.string p.2]) 19 33 rfl ?_ (run_callf Tryd.func25 (by kernel_rfl) (by kernel_rfl) (by simp only [List.map_toArray, List.map_cons, List.map_nil]; rfl))
      refine (rput_c _ p.2 SY.out).mono ?_
      rintro e5 w5 ⟨A5, c5, rfl, ho5, b5⟩
      have R5 := Rd.of_own ho5
      have O5 := Lib.hid (own_below O4.out b5)
      have B5 := Lib.hid b5
      have E5 := EY.out
      clear ho5
      refine Hb.back (b5.mono B4.out.size) (Nat.le_refl _) ?_
      generalize hk2 : (encW p.2).length = k2 at *
      refine Hb.only 20 (some 34) rfl ?_
      refine wpList_app rfl (.tmp 24) (.tmp 33) _ rfl w.heap.size 5 _ 1 1 Tryd.underlying45 byte_info rfl (by omega) _ (m + k) (bs (enc (L.take i)) ++ bs (encW p.1)) rfl O5.out _ A5 c5 k2 (bs (encW p.2)) rfl R5 (bs_one _) ?d1 ?d2 (Nat.le_trans B4.out.size b5.size) ?_
      case d1 => unfold maxLen; omega
      case d2 => omega
      intro A6 c6 w6 o6 g6 b6
      have B6 := Lib.hid ((B4.out.trans (B5.out.mono B4.out.size)).trans b6)
      have O6 := Lib.hid (show w6.ownsRow w.heap.size 5 1 (.slice A6 (m + k + k2) c6) (m + k + k2) (bs (enc (L.take (i + 1)))) by rw [HS.out, bs_append, encP, bs_append, ← List.append_assoc]; exact o6)
      clear o6 R5 O5
      refine Hb.next b6 (Nat.le_refl _) ?_ (by simp only [Act.put, List.setIfInBounds_toArray, List.set_cons_succ, List.set_cons_zero]; rfl)
      refine Hb.take (v := .slice A6 (m + k + k2) c6) 21 3 rfl ?_ (fun _ _ => rfl)
      refine Hb.done ?_
-- END
      go_wp2_with fail
      go_roundw
      case rel => exact ⟨i + 1, m + k + k2, c6, A6, by omega, by omega, by go_num, rfl, O6, B6⟩
      case measure => simp [intOf]; omega
    · have e : i = n := by omega
      subst e
      have O2 := O.out
      rw [List.take_of_length_le (by rw [HL.out]; exact Nat.le_refl _)] at O2
      have R2 := Lib.hid (Rd.of_own O2)
      clear O2 O
      go_wp2_with fail
      refine (rSum_c wr _ A2 c2 m (enc L) R2.out (enc_byte L)).mono ?_
      rintro x w5 ⟨rfl, rfl⟩
      go_wp2_with fail
      go_ret
      exact ⟨rfl, BW.out⟩
end Go.Proofs.YtapleleaogjcjaaDoor
