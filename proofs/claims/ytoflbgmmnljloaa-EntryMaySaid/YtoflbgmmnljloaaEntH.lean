/- Contract of the document's Entries. -/
import Derived.Test.YtoflbgmmnljloaaEntB
import Derived.Test.YtoflbgmmnljloaaEntE
import Derived.Test.YtoflbgmmnljloaaRefNumP
import Derived.Test.YtoflbgmmnljloaaInt
namespace Go.Proofs.Ytoflbgmmnljloaa
open Go.RowKit

/-- A block of another type, behind a call that made a row of one's own grow. -/
theorem Blk.grown_own {w w' : World} {g base k n : Nat} {t e : TypeId} {v : Value} {ys xs : List Value} (h : Blk w g t ys) (ho : w.ownsRow base e k v n xs) (hg : w.grownBy w' v.ownBlock) (hne : t ≠ e) : Blk w' g t ys := by
  refine (hg.block g h.lt ?_).trans h
  rcases ho.2 with ⟨hv, _⟩ | ⟨g', cap, cur, hv, _, hh, _⟩
  · rw [hv]; simp [Value.ownBlock]
  · rw [hv]
    simp only [Value.ownBlock]
    intro hx
    have hx : g = g' := by injection hx
    subst hx
    have := h.symm.trans hh
    simp at this
    exact hne this.2

set_option maxHeartbeats 4000000 in
set_option maxRecDepth 100000 in
theorem rEntries_c (w : World) (B : Nat) (A : Option Addr) (c n : Nat) (l : List Ent) (h : Rd w B A c 7 n (els l)) (hn : n ≤ 1000000) :
    Calls Try.prog 19 #[.slice A n c] w fun x w' => ∃ A' c', x = .returned (.slice A' (PEnt.encode l).length c') ∧
      w'.ownsRow w.heap.size 5 1 (.slice A' (PEnt.encode l).length c') (PEnt.encode l).length (bs (PEnt.encode l)) ∧ Below w.heap.size w w' := by
  have R0 := Lib.hid h.tight
  have HLn := Lib.hid h.elen
  clear h
  go_enter Try.func19, Try.ntmps19
  go_wp2_with fail
  go_loopw [3, 4, 5, 6, 7] (fun s3 s4 _ _ _ wr => ∃ (i m c' : Nat) (A' : Option Addr), i ≤ n ∧ m ≤ 86 * i ∧ s4 = .int .i64 i ∧ s3 = .slice A' m c' ∧ Hid ((l.take i).all PEnt.may = true) ∧
      Hid (wr.ownsRow w.heap.size 5 1 (.slice A' m c') m (bs (PEnt.enc (l.take i)))) ∧ Hid (Below w.heap.size w wr))
    (fun _ s4 _ _ _ _ => n - (intOf s4).toNat)
  case atStart => exact ⟨0, 0, 0, none, by omega, by omega, rfl, rfl, Lib.hid (by simp), Lib.hid (World.ownsRow_nil _ _ _ _), Lib.hid (Below.refl _ _)⟩
  case round =>
    obtain ⟨i, m, c1, A1, hi, hm, rfl, rfl, HA, O, BL⟩ := hrel
    by_cases hlt : i < n
    · obtain ⟨b, o, e, rfl, -, he, hmem, d0, d1, d2, d3, d4, d5, d6⟩ := (R0.out.below BL.out).ent hlt
      have HE := Lib.hid he
      have HM := Lib.hid hmem
      clear he hmem
      go_wp2_with fail
      clear d0 d1 d2 d3 d4 d5 d6
      have b1 := (Below.refl wr.heap.size wr).alloc (Nat.le_refl _) (.cells #[.int .i64 e.fr, .int .i64 e.boot, .int .i64 e.seq, .int .i64 e.ord, .int .i64 e.lev, .int .i64 e.stamp, .string e.data] 23)
      have K1 := Blk.newEnt wr 23 e
      generalize wr.alloc (.cells #[.int .i64 e.fr, .int .i64 e.boot, .int .i64 e.seq, .int .i64 e.ord, .int .i64 e.lev, .int .i64 e.stamp, .string e.data] 23) = w1 at *
      cases hy : PEnt.may e
      · have HB := Lib.hid (encode_bad HM.out hy)
        refine (rMay_c w1 e).mono ?_
        rw [hy]
        rintro x w2 ⟨rfl, b2⟩
        have B2 := Lib.hid ((BL.out.trans (b1.mono BL.out.size)).trans (b2.mono (Nat.le_trans BL.out.size b1.size)))
        clear b1 b2 K1 hy
        go_wp2_with fail
        go_ret
        refine ⟨none, 0, ?_, ?_, B2.out⟩
        · rw [HB.out]; rfl
        · rw [HB.out]; exact World.ownsRow_nil _ _ _ _
      · have hmay := (PEnt.may_iff e).1 hy
        have HS1 := Lib.hid (show (l.take (i + 1)).all PEnt.may = true by rw [all_snoc HE.out, HA.out, hy]; rfl)
        have HS2 := Lib.hid (enc_snoc HE.out)
        have HY := Lib.hid hmay
        refine (rMay_c w1 e).mono ?_
        rw [hy]
        rintro x w2 ⟨rfl, b2⟩
        have B2 := Lib.hid ((BL.out.trans (b1.mono BL.out.size)).trans (b2.mono (Nat.le_trans BL.out.size b1.size)))
        have O2 := Lib.hid (own_below (own_below O.out b1) b2)
        have K2 := Lib.hid (K1.past b2)
        obtain ⟨d0, d1, d2, d3, d4, d5, d6⟩ := K2.out.ent
        generalize wr.heap.size = g5 at *
        clear b1 b2 K1 hy hmay O BL
        have HNF := Lib.hid (PEnt.nums_fit HY.out.fit)
        have HL := Lib.hid (show (PEnt.nums e).length = 6 from rfl)
        have R6 := Lib.hid (show Blk (w2.alloc (.cells #[.int .i64 e.fr, .int .i64 e.boot, .int .i64 e.seq, .int .i64 e.ord, .int .i64 e.lev, .int .i64 e.stamp] 2)) w2.heap.size 2 (is (PEnt.nums e)) from
          Blk.new w2 #[.int .i64 e.fr, .int .i64 e.boot, .int .i64 e.seq, .int .i64 e.ord, .int .i64 e.lev, .int .i64 e.stamp] 2)
        have B3 := Lib.hid (B2.out.alloc B2.out.size (.cells #[.int .i64 e.fr, .int .i64 e.boot, .int .i64 e.seq, .int .i64 e.ord, .int .i64 e.lev, .int .i64 e.stamp] 2))
        have O3 := Lib.hid (own_below O2.out ((Below.refl _ w2).alloc (Nat.le_refl _) (.cells #[.int .i64 e.fr, .int .i64 e.boot, .int .i64 e.seq, .int .i64 e.ord, .int .i64 e.lev, .int .i64 e.stamp] 2)))
        have K3 := Lib.hid (K2.out.alloc (.cells #[.int .i64 e.fr, .int .i64 e.boot, .int .i64 e.seq, .int .i64 e.ord, .int .i64 e.lev, .int .i64 e.stamp] 2))
        clear B2 O2 K2
        go_wp2_with fail
        clear d0 d1 d2 d3 d4 d5 d6
        generalize w2.alloc (.cells #[.int .i64 e.fr, .int .i64 e.boot, .int .i64 e.seq, .int .i64 e.ord, .int .i64 e.lev, .int .i64 e.stamp] 2) = w3 at *
        generalize w2.heap.size = g6 at *
        go_loopw [3, 7] (fun s3 s7 wk => ∃ (k q c' : Nat) (A' : Option Addr), k ≤ 6 ∧ q ≤ 86 * i + 10 * k ∧ s7 = .int .i64 k ∧ s3 = .slice A' q c' ∧
            Hid (wk.ownsRow w.heap.size 5 1 (.slice A' q c') q (bs (PEnt.enc (l.take i) ++ PEnt.encN ((PEnt.nums e).take k)))) ∧ Hid (Blk wk g6 2 (is (PEnt.nums e))) ∧ Hid (Blk wk g5 23 (ecs e)) ∧ Hid (Below w.heap.size w wk))
          (fun _ s7 _ => 6 - (intOf s7).toNat)
        case atStart => exact ⟨0, m, c1, A1, by omega, by omega, rfl, rfl, Lib.hid (by simpa [PEnt.encN] using O3.out), R6, K3, B3⟩
        case round =>
          clear R6 K3 B3 O3
          obtain ⟨k, q, c2, A2, hk, hq, rfl, rfl, O4, R4, K4, B4⟩ := hrel
          by_cases hk6 : k < 6
          · obtain ⟨x, hx2⟩ : ∃ x, (PEnt.nums e)[k]? = some x := ⟨_, List.getElem?_eq_getElem (by rw [HL.out]; exact hk6)⟩
            have hcx := R4.out.cell (i := k) (u := .int .i64 x) (by rw [is, List.getElem?_map, hx2]; rfl)
            have hxf := HNF.out x (List.mem_of_getElem? hx2)
            have HS := Lib.hid (encN_snoc hx2)
            have ht := PNum.sev_ten (PNum.zig x) (PNum.zig_lt x hxf.1 hxf.2)
            have HT := Lib.hid ht
            have HFX := Lib.hid hxf
            clear hx2 ht hxf
            go_wp2_with fail
            refine (rPut_c wr x HFX.out.1 HFX.out.2).mono ?_
            rintro y w4 ⟨A5, c5, rfl, hown, b5⟩
            have R5 := Lib.hid (Rd.of_own hown)
            have B5 := Lib.hid (B4.out.trans (b5.mono B4.out.size))
            have O5 := Lib.hid (own_below O4.out b5)
            have R45 := Lib.hid (R4.out.past b5)
            have K5 := Lib.hid (K4.out.past b5)
            clear hown b5 R4 O4 K4 B4 hcx
            generalize hj : (PNum.sev (PNum.zig x)).length = j at *
            clear hj
            go_wp2_with (at_builtin; go_must (refine wpList_app rfl (.tmp 40) (.tmp 45) _ rfl w.heap.size 5 _ 1 1 Try.underlying30 byte_info rfl (by omega) _ q _ rfl O5.out _ A5 c5 j (bs (PNum.sev (PNum.zig x))) rfl R5.out (bs_one _) ?c1 ?c2 ?c3 ?_))
            case c1 => have := HT.out; unfold maxLen; omega
            case c2 => have := HT.out; omega
            case c3 => exact B5.out.size
            intro A6 c6 w6 hown6 hgrow6 hbel6
            have R6 := Lib.hid (R45.out.grown_own O5.out hgrow6 (by decide))
            have K6 := Lib.hid (K5.out.grown_own O5.out hgrow6 (by decide))
            have B6 := Lib.hid (B5.out.trans hbel6)
            have O6 := Lib.hid hown6
            clear hown6 hgrow6 hbel6 R45 K5 B5 O5 R5
            go_wp2_with fail
            go_roundw
            case rel => exact ⟨k + 1, q + j, c6, A6, by omega, by have := HT.out; omega, by go_num, rfl, Lib.hid (by rw [HS.out, ← List.append_assoc, bs_append]; exact O6.out), R6, K6, B6⟩
            case measure => simp [intOf]; omega
          · obtain rfl : k = 6 := by omega
            have hN : (PEnt.nums e).take 6 = PEnt.nums e := List.take_of_length_le (by rw [HL.out]; omega)
            rw [hN] at O4
            obtain ⟨-, -, -, -, -, -, d6⟩ := K4.out.ent
            have hd16 := HY.out.2.2.2.2.2.2
            have HD16 := Lib.hid hd16
            have ht := PNum.sev_ten (PNum.zig e.data.size) (PNum.zig_lt _ (by omega) (by omega))
            have HT := Lib.hid ht
            clear hN hd16 ht R4 K4
            go_wp2_with fail
            refine (rPutText_c wr e.data (by have := HD16.out; omega)).mono ?_
            rintro y w4 ⟨A5, c5, rfl, hown, b5⟩
            have R5 := Lib.hid (Rd.of_own hown)
            have B5 := Lib.hid (B4.out.trans (b5.mono B4.out.size))
            have O5 := Lib.hid (own_below O4.out b5)
            clear hown b5 O4 B4 d6
            generalize hj : (PNum.sev (PNum.zig e.data.size)).length + e.data.size = j at *
            have HJ := Lib.hid (show j ≤ 26 by have := HT.out; have := HD16.out; omega)
            clear hj
            go_wp2_with (at_builtin; go_must (refine wpList_app rfl (.tmp 47) (.tmp 50) _ rfl w.heap.size 5 _ 1 1 Try.underlying30 byte_info rfl (by omega) _ q _ rfl O5.out _ A5 c5 j _ rfl R5.out (bs_one _) ?c1 ?c2 ?c3 ?_))
            case c1 => have := HJ.out; unfold maxLen; omega
            case c2 => have := HJ.out; omega
            case c3 => exact B5.out.size
            intro A6 c6 w6 hown6 hgrow6 hbel6
            have B6 := Lib.hid (B5.out.trans hbel6)
            have O6 := Lib.hid hown6
            clear hown6 hgrow6 hbel6 B5 O5 R5
            go_wp2_with fail
            go_roundw
            case rel => exact ⟨i + 1, q + j, c6, A6, by omega, by have := HJ.out; omega, by go_num, rfl, HS1, Lib.hid (by
              rw [HS2.out]; show World.ownsRow _ _ _ _ _ _ (bs (_ ++ (PEnt.encN (PEnt.nums e) ++ _)))
              rw [← List.append_assoc, bs_append]; exact O6.out), B6⟩
            case measure => simp [intOf]; omega
    · obtain rfl : i = n := by omega
      have ht : l.take i = l := List.take_of_length_le (by rw [HLn.out]; omega)
      rw [ht] at HA O
      have HG := Lib.hid (encode_good HA.out)
      have hl := O.out.1
      rw [bs_length] at hl
      have HL2 := Lib.hid (show (PEnt.enc l).length = m by omega)
      clear ht hl
      go_wp2_with fail
      go_ret
      refine ⟨A1, c1, ?_, ?_, BL.out⟩
      · rw [HG.out, HL2.out]; rfl
      · rw [HG.out, HL2.out]; exact O.out
end Go.Proofs.Ytoflbgmmnljloaa
