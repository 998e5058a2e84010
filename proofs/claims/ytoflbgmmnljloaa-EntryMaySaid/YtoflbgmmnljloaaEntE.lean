/- Contract of Encode. -/
import Derived.Test.YtoflbgmmnljloaaEntD
namespace Go.Proofs.Ytoflbgmmnljloaa
open Go.RowKit

theorem all_snoc {l : List Ent} {i : Nat} {e : Ent} (h : l[i]? = some e) : (l.take (i + 1)).all PEnt.may = ((l.take i).all PEnt.may && PEnt.may e) := by
  obtain ⟨hi, he⟩ := List.getElem?_eq_some_iff.1 h
  rw [List.take_succ_eq_append_getElem hi, he]; simp
theorem enc_snoc {l : List Ent} {i : Nat} {e : Ent} (h : l[i]? = some e) : PEnt.enc (l.take (i + 1)) = PEnt.enc (l.take i) ++ PEnt.encE e := by
  obtain ⟨hi, he⟩ := List.getElem?_eq_some_iff.1 h
  rw [List.take_succ_eq_append_getElem hi, PEnt.enc_append, he]; simp [PEnt.enc]
theorem encode_bad {l : List Ent} {e : Ent} (hm : e ∈ l) (h : PEnt.may e = false) : PEnt.encode l = [] := by
  unfold PEnt.encode
  rw [if_neg]
  intro ha
  have := List.all_eq_true.1 ha e hm
  rw [h] at this; cases this
theorem encode_good {l : List Ent} (h : l.all PEnt.may = true) : PEnt.encode l = PEnt.enc l := if_pos h

set_option maxHeartbeats 1000000 in
set_option maxRecDepth 100000 in
theorem Encode_c (w : World) (B : Nat) (A : Option Addr) (c n : Nat) (l : List Ent) (h : Rd w B A c 7 n (els l)) (hn : n ≤ 1000000) :
    Calls Try.prog 18 #[.slice A n c] w fun x w' => ∃ A' c', x = .returned (.slice A' (PEnt.encode l).length c') ∧
      w'.ownsRow w.heap.size 5 1 (.slice A' (PEnt.encode l).length c') (PEnt.encode l).length (bs (PEnt.encode l)) ∧ Below w.heap.size w w' := by
  have R0 := Lib.hid h.tight
  have HLn := Lib.hid h.elen
  clear h
  go_enter Try.func18, Try.ntmps18
  go_wp2_with fail
  go_loopw [3, 5, 8] (fun s3 _ s8 wr => ∃ (i m c' : Nat) (A' : Option Addr), i ≤ n ∧ m ≤ 86 * i ∧ s8 = .int .i64 i ∧ s3 = .slice A' m c' ∧ Hid ((l.take i).all PEnt.may = true) ∧
      Hid (wr.ownsRow w.heap.size 5 1 (.slice A' m c') m (bs (PEnt.enc (l.take i)))) ∧ Hid (Below w.heap.size w wr))
    (fun _ _ s8 _ => n - (intOf s8).toNat)
  case atStart => exact ⟨0, 0, 0, none, by omega, by omega, rfl, rfl, Lib.hid (by simp), Lib.hid (World.ownsRow_nil _ _ _ _), Lib.hid (Below.refl _ _)⟩
  case round =>
    obtain ⟨i, m, c1, A1, hi, hm, rfl, rfl, HA, O, BL⟩ := hrel
    by_cases hlt : i < n
    · obtain ⟨b, o, e, rfl, -, he, hmem, d0, d1, d2, d3, d4, d5, d6⟩ := (R0.out.below BL.out).ent hlt
      have HE := Lib.hid he
      have HM := Lib.hid hmem
      clear he hmem
      go_wp2_with fail
      clear d0 d1 d2 d3 d4 d5 d6
      have b1 := (Below.refl wr.heap.size wr).alloc (Nat.le_refl _) (.cells #[.int .i64 e.fr, .int .i64 e.boot, .int .i64 e.seq, .int .i64 e.ord, .int .i64 e.lev, .int .i64 e.stamp, .string e.data] 23)
      have K1 := Blk.newEnt wr 23 e
      generalize wr.alloc (.cells #[.int .i64 e.fr, .int .i64 e.boot, .int .i64 e.seq, .int .i64 e.ord, .int .i64 e.lev, .int .i64 e.stamp, .string e.data] 23) = w1 at *
      cases hy : PEnt.may e
      · have HB := Lib.hid (encode_bad HM.out hy)
        refine (May_c w1 e).mono ?_
        rw [hy]
        rintro x w2 ⟨rfl, b2⟩
        have B2 := Lib.hid ((BL.out.trans (b1.mono BL.out.size)).trans (b2.mono (Nat.le_trans BL.out.size b1.size)))
        clear b1 b2 K1 hy
        go_wp2_with fail
        go_ret
        refine ⟨none, 0, ?_, ?_, B2.out⟩
        · rw [HB.out]; rfl
        · rw [HB.out]; exact World.ownsRow_nil _ _ _ _
      · have hmay := (PEnt.may_iff e).1 hy
        have HS1 := Lib.hid (show (l.take (i + 1)).all PEnt.may = true by rw [all_snoc HE.out, HA.out, hy]; rfl)
        have HS2 := Lib.hid (enc_snoc HE.out)
        have HY := Lib.hid hmay
        refine (May_c w1 e).mono ?_
        rw [hy]
        rintro x w2 ⟨rfl, b2⟩
        have B2 := Lib.hid ((BL.out.trans (b1.mono BL.out.size)).trans (b2.mono (Nat.le_trans BL.out.size b1.size)))
        have O2 := Lib.hid (own_below (own_below O.out b1) b2)
        obtain ⟨d0, d1, d2, d3, d4, d5, d6⟩ := (K1.past b2).ent
        clear b1 b2 K1 hy hmay O BL
        go_wp2_with fail
        have hd16 := HY.out.2.2.2.2.2.2
        have hel := PEnt.encE_len HY.out.fit (by omega)
        have HEL := Lib.hid (show (PEnt.encE e).length ≤ 86 by omega)
        refine (encodeOne_c w2 e HY.out.fit (by omega)).mono ?_
        clear hel
        rintro x w3 ⟨A3, c3, rfl, hown, b3⟩
        have B3 := Lib.hid (B2.out.trans (b3.mono B2.out.size))
        have O3 := Lib.hid (own_below O2.out b3)
        have R3 := Lib.hid (Rd.of_own hown)
        clear hown b3 d0 d1 d2 d3 d4 d5 d6 O2 B2
        generalize hk : (PEnt.encE e).length = k at *
        have HK := Lib.hid hk
        clear hk
        go_wp2_with (at_builtin; go_must (refine wpList_app rfl (.tmp 15) (.tmp 17) _ rfl w.heap.size 5 _ 1 1 Try.underlying30 byte_info rfl (by omega) _ m (bs (PEnt.enc (l.take i))) rfl O3.out _ A3 c3 k (bs (PEnt.encE e)) rfl R3.out (bs_one _) ?c1 ?c2 ?c3 ?_))
        case c1 => have := HEL.out; unfold maxLen; omega
        case c2 => have := HEL.out; omega
        case c3 => exact B3.out.size
        intro A4 c4 w4 hown4 hgrow4 hbel4
        have B4 := Lib.hid (B3.out.trans hbel4)
        have O4 := Lib.hid hown4
        clear hown4 hgrow4 hbel4 O3 R3 B3
        go_wp2_with fail
        go_roundw
        case rel => exact ⟨i + 1, m + k, c4, A4, by omega, by have := HEL.out; omega, by go_num, rfl, HS1, Lib.hid (by rw [HS2.out, bs_append]; exact O4.out), B4⟩
        case measure => simp [intOf]; omega
    · obtain rfl : i = n := by omega
      have ht : l.take i = l := List.take_of_length_le (by rw [HLn.out]; omega)
      rw [ht] at HA O
      have HG := Lib.hid (encode_good HA.out)
      have hl := O.out.1
      rw [bs_length] at hl
      have HL2 := Lib.hid (show (PEnt.enc l).length = m by omega)
      clear ht hl
      go_wp2_with fail
      go_ret
      refine ⟨A1, c1, ?_, ?_, BL.out⟩
      · rw [HG.out, HL2.out]; rfl
      · rw [HG.out, HL2.out]; exact O.out
end Go.Proofs.Ytoflbgmmnljloaa
