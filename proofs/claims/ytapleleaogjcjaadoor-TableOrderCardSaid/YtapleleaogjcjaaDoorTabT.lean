/- Contract of Sum. -/
import Derived.Test.YtapleleaogjcjaaDoorTabS
namespace Go.Proofs.YtapleleaogjcjaaDoor
open Go.RowKit PTab

theorem enc_snoc {L : List Pr} {i : Nat} {p : Pr} (h : L[i]? = some p) : enc (L.take (i + 1)) = enc (L.take i) ++ encP p := by
  obtain ⟨hi, he⟩ := List.getElem?_eq_some_iff.1 h
  rw [List.take_succ_eq_append_getElem hi, enc_append, he]; simp [enc]
theorem nms_getD {L : List Pr} {i : Nat} {p : Pr} (h : L[i]? = some p) : (nms L).getD i undef = .string p.1 := by
  rw [List.getD_eq_getElem?_getD, nms, List.getElem?_map, h]; rfl
theorem sum_nil : sum [] = 0 := by decide

set_option maxHeartbeats 1000000 in
set_option maxRecDepth 100000 in
theorem Sum_t (w : World) (g : Nat) (F : List Nat) (c : Nat) (L : List Pr) (h : Tb w g F c L) (hc : c ≤ 1000000) (ht : Tab w) :
    Calls Tryd.prog 13 #[.pointer (some ⟨g, 0, none⟩)] w fun x w' => x = .returned (.int .u32 (sum L : Nat)) ∧ Below w.heap.size w w' := by
  have T0 := Lib.hid h
  have HT := Lib.hid ht
  clear h ht
  go_enter Tryd.func13, Tryd.ntmps13
  go_wp2_with fail
  refine (Names_c w g F c L T0.out hc).mono ?_
  rintro x w1 ⟨A1, c1, rfl, ho, hn, b1⟩
  have R1 := Lib.hid (Rd.of_own ho)
  have B1 := Lib.hid b1
  have T1 := Lib.hid (T0.out.past b1)
  have HN := Lib.hid (show L.length ≤ 1000000 by omega)
  obtain ⟨n, hL⟩ : ∃ n, L.length = n := ⟨_, rfl⟩
  have hn : n ≤ 1000000 := by omega
  have HL := Lib.hid hL
  rw [hL] at R1 ⊢
  clear ho b1 T0 hL hc HN
  go_wp2_with fail
  go_loopw [3, 5, 9] (fun s3 _ s9 wr => ∃ (i m c' : Nat) (A' : Option Addr), i ≤ n ∧ m ≤ 36 * i ∧ s9 = .int .i64 i ∧ s3 = .slice A' m c' ∧
      Hid (wr.ownsRow w1.heap.size 5 1 (.slice A' m c') m (bs (enc (L.take i)))) ∧ Hid (Below w1.heap.size w1 wr))
    (fun _ _ s9 _ => n - (intOf s9).toNat)
  case atStart => exact ⟨0, 0, 0, none, by omega, by omega, rfl, rfl, Lib.hid (World.ownsRow_nil _ _ _ _), Lib.hid (Below.refl _ _)⟩
  case round =>
    obtain ⟨i, m, c2, A2, hi, hm, rfl, rfl, O, BL⟩ := hrel
    by_cases hlt : i < n
    · obtain ⟨b, o, rfl, hbb, hcell⟩ := (R1.out.past BL.out).at_ hlt
      obtain ⟨p, hp⟩ : ∃ p, L[i]? = some p := ⟨_, List.getElem?_eq_getElem (by rw [HL.out]; exact hlt)⟩
      rw [nms_getD hp] at hcell
      have hpm := List.mem_of_getElem? hp
      have hsz := T1.out.ok.sz p hpm
      have T2 := Lib.hid (T1.out.past BL.out)
      have hg := get_of_mem T1.out.ok.srt hpm
      obtain ⟨q, d0, hM⟩ := T2.out.open
      have hlk := hM.look1 (k := p.1) (by unfold maxLen; omega)
      rw [hg] at hlk
      simp only [Option.getD_some] at hlk
      have HS := Lib.hid (enc_snoc hp)
      have HZ := Lib.hid (encP_len hsz)
      have HP := Lib.hid hsz
      clear hg hM hpm hp hsz
      go_wp2_with fail
      clear hlk d0 hcell
      refine (encode_c wr p.1 p.2 (by have := HP.out; omega) (by have := HP.out; omega)).mono ?_
      rw [show ((p.1, p.2) : Pr) = p from rfl]
      rintro x w3 ⟨A3, c3, rfl, ho3, b3⟩
      have O3 := Lib.hid (own_below O.out b3)
      have R3 := Rd.of_own ho3
      have B3 := Lib.hid (BL.out.trans (b3.mono BL.out.size))
      have E := HZ.out
      clear ho3 b3 O BL
      generalize hk : (encP p).length = k at *
      go_wp2_with (at_builtin; refine wpList_app rfl (.tmp 13) (.tmp 21) _ rfl w1.heap.size 5 _ 1 1 Tryd.underlying45 byte_info rfl (by omega) _ m (bs (enc (L.take i))) rfl O3.out _ A3 c3 k (bs (encP p)) rfl R3 (bs_one _) ?d1 ?d2 B3.out.size ?_)
      case d1 => unfold maxLen; omega
      case d2 => omega
      intro A4 c4 w4 o4 g4 b4
      have O4 := Lib.hid (show w4.ownsRow w1.heap.size 5 1 (.slice A4 (m + k) c4) (m + k) (bs (enc (L.take (i + 1)))) by rw [HS.out, bs_append]; exact o4)
      have B4 := Lib.hid (B3.out.trans b4)
      clear o4 g4 b4
      go_wp2_with fail
      go_roundw
      case rel => exact ⟨i + 1, m + k, c4, A4, by omega, by omega, by go_num, rfl, O4, B4⟩
      case measure => simp [intOf]; omega
    · have e : i = n := by omega
      subst e
      have O2 := O.out
      rw [List.take_of_length_le (by rw [HL.out]; exact Nat.le_refl _)] at O2
      have R2 := Lib.hid (Rd.of_own O2)
      have B2 := Lib.hid (B1.out.trans (BL.out.mono B1.out.size))
      clear O2 O
      go_wp2_with fail
      refine (Sum_c wr _ A2 c2 m (enc L) R2.out (enc_byte L) (HT.out.past B2.out)).mono ?_
      rintro x w5 ⟨rfl, rfl⟩
      go_wp2_with fail
      go_ret
      exact ⟨rfl, B2.out⟩
set_option maxRecDepth 100000 in
theorem SumNil_c (w : World) (ht : Tab w) :
    Calls Tryd.prog 13 #[.pointer none] w fun x w' => x = .returned (.int .u32 0) ∧ Below w.heap.size w w' := by
  have HT := Lib.hid ht
  clear ht
  go_enter Tryd.func13, Tryd.ntmps13
  go_wp2_with fail
  refine (NamesNil_c w).mono ?_
  rintro x w1 ⟨rfl, b1⟩
  go_wp2_with fail
  go_loopw [3, 5, 9] (fun s3 _ s9 wr => s9 = .int .i64 0 ∧ s3 = .slice none 0 0 ∧ Hid (wr = w1))
    (fun _ _ _ _ => 0)
  case atStart => exact ⟨rfl, rfl, Lib.hid rfl⟩
  case round =>
    obtain ⟨rfl, rfl, hw⟩ := hrel
    have hw := hw.out
    subst hw
    go_wp2_with fail
    refine (Sum_c wr 0 none 0 0 [] (Rd.nil _ _ _) (by intro x hx; cases hx) (HT.out.past b1)).mono ?_
    rintro x w5 ⟨rfl, rfl⟩
    go_wp2_with fail
    go_ret
    exact ⟨by rw [show PCrc.sum [] = 0 from sum_nil]; rfl, b1⟩
end Go.Proofs.YtapleleaogjcjaaDoor
