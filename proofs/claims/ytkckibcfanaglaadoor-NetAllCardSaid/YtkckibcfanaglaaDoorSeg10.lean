/- Contracts of curfewref1's Put, PutText, Get, GetText. -/
import Derived.Test.YtkckibcfanaglaaDoorSeg6
import Derived.Test.YtkckibcfanaglaaDoorSeg8
import Derived.Test.YtkckibcfanaglaaDoorSeg3
import Derived.Test.YtkckibcfanaglaaDoorSeg9
import Derived.Test.YtkckibcfanaglaaDoorSeg2
namespace Go.Proofs.YtkckibcfanaglaaDoor
open Go.RowKit

theorem zig_lib (x : Int) : Lib.zigzag x = PNum.zig x := by unfold Lib.zigzag PNum.zig; split <;> split <;> omega
theorem low_seven (v : Nat) : IntKind.u8.wrap ((v : Int) % 128 + 128) = ((v % 128 + 128 : Nat) : Int) := by rw [IntKind.wrap_u8']; omega

set_option maxRecDepth 100000 in
theorem rPut_c (w : World) (x : Int) (h1 : -9223372036854775808 ≤ x) (h2 : x ≤ 9223372036854775807) :
    Calls Tryd.prog 25 #[.int .i64 x] w fun e w' => ∃ A' c', e = .returned (.slice A' (PNum.sev (PNum.zig x)).length c') ∧
      w'.ownsRow w.heap.size 5 1 (.slice A' (PNum.sev (PNum.zig x)).length c') (PNum.sev (PNum.zig x)).length (bs (PNum.sev (PNum.zig x))) ∧ Below w.heap.size w w' := by
  have hz := PNum.zig_lt x h1 h2
  have hten := PNum.sev_ten _ hz
  have HT := Lib.hid hten; clear hten
  have HZ := Lib.hid hz; clear hz
  have hpos : ¬ x < 0 → IntKind.u64.wrap (IntKind.u64.wrap x * 2) = ((PNum.zig x : Nat) : Int) := by
    intro h
    rw [IntKind.wrap_u64, IntKind.wrap_u64]; unfold PNum.zig; rw [if_neg h]; omega
  have hneg : x < 0 → bits .xor .u64 IntKind.u64.max (IntKind.u64.wrap (IntKind.u64.wrap x * 2)) = ((PNum.zig x : Nat) : Int) := by
    intro h; rw [Lib.zigzag_neg h1 h, zig_lib]
  have hdbl : ¬ x < 0 → x * 2 = ((PNum.zig x : Nat) : Int) := by intro h; unfold PNum.zig; rw [if_neg h]; omega
  have HD := Lib.hid hdbl; clear hdbl
  generalize PNum.zig x = U at *
  by_cases hn : x < 0
  all_goals
    first | (have hU := hneg hn) | (have hU := hpos hn)
    clear hpos hneg
    go_enter Tryd.func25, Tryd.ntmps25
    go_wp2
    clear hU
    go_loopw [3, 4] (fun s3 s4 wr => ∃ (A' : Option Addr) (c' n' v : Nat) (m : List Int), s4 = .slice A' n' c' ∧ s3 = .int .u64 v ∧ v < 18446744073709551616 ∧ n' ≤ 10 ∧
        wr.ownsRow w.heap.size 5 1 (.slice A' n' c') n' (bs m) ∧ n' + (PNum.sev v).length = (PNum.sev U).length ∧ m ++ PNum.sev v = PNum.sev U ∧ Below w.heap.size w wr)
      (fun s3 _ _ => (intOf s3).toNat)
    case atStart => exact ⟨none, 0, 0, U, [], rfl, by first | rfl | exact congrArg (Value.int .u64) (HD.out hn), HZ.out, by omega, World.ownsRow_nil _ _ _ _, by simp, rfl, Below.refl _ _⟩
    case round =>
      obtain ⟨A', c', n', v, m, rfl, rfl, hv, hn', hown', hlen, hm, hbel⟩ := hrel
      have hq : IntKind.u64.wrap ((v : Int) / 128) = ((v / 128 : Nat) : Int) := by rw [IntKind.wrap_u64]; omega
      have HV := Lib.hid hv; clear hv
      have HL := Lib.hid hlen; clear hlen
      have HM := Lib.hid hm; clear hm
      have hsz := hbel.size
      by_cases hlt : 128 ≤ v
      · have hs := PNum.sev_hi hlt
        have HS := Lib.hid hs; clear hs
        have hb := low_seven v
        go_wp2_with (at_builtin; go_must (refine wpList_push rfl (.tmp 14) (.tmp 19) _ rfl w.heap.size 5 _ 1 Tryd.underlying35 byte_info rfl A' c' n' (bs m) rfl hown' rfl rfl ?c2 ?c3 ?c4 ?_))
        case c2 => unfold maxLen; omega
        case c3 => omega
        case c4 => omega
        intro A2 c2 w2 hown2 hgrow2 hbel2
        go_wp2
        go_roundw
        case rel =>
          have h1 := HL.out; have h2 := HM.out; have h3 := HS.out; have h4 := HT.out
          have h5 := PNum.sev_pos (v / 128)
          rw [h3] at h1 h2
          refine ⟨A2, c2, n' + 1, v / 128, m ++ [((v % 128 + 128 : Nat) : Int)], rfl, by go_num, by have := HV.out; omega, ?_, ?_, by simp at h1; omega, by simpa using h2, hbel.trans hbel2⟩
          · simp at h1; omega
          · simpa [bs] using hown2
        case measure => simp [intOf]; omega
      · go_wp2_with (at_builtin; go_must (refine wpList_push rfl (.tmp 23) (.tmp 26) _ rfl w.heap.size 5 _ 1 Tryd.underlying35 byte_info rfl A' c' n' (bs m) rfl hown' rfl rfl ?c2 ?c3 ?c4 ?_))
        case c2 => unfold maxLen; omega
        case c3 => omega
        case c4 => omega
        intro A2 c2 w2 hown2 hgrow2 hbel2
        go_wp2
        go_ret
        have h1 := HL.out; have h2 := HM.out
        rw [PNum.sev_lo (by omega)] at h1 h2
        simp at h1
        refine ⟨A2, c2, ?_, ?_, hbel.trans hbel2⟩
        · rw [← h1]; rfl
        · rw [← h1, ← h2]
          have e : ((v : Int) % 256) = v := by omega
          simpa [bs, e] using hown2

end Go.Proofs.YtkckibcfanaglaaDoor

/- Contract of curfewref1's PutText. -/
namespace Go.Proofs.YtkckibcfanaglaaDoor
open Go.RowKit

set_option maxRecDepth 100000 in
theorem rPutText_c (w : World) (s : ByteArray) (hs : s.size ≤ 500000000000) :
    Calls Tryd.prog 36 #[.string s] w fun e w' => ∃ A' c', e = .returned (.slice A' ((PNum.sev (PNum.zig s.size)).length + s.size) c') ∧
      w'.ownsRow w.heap.size 5 1 (.slice A' ((PNum.sev (PNum.zig s.size)).length + s.size) c') ((PNum.sev (PNum.zig s.size)).length + s.size) (bs (PNum.sev (PNum.zig s.size) ++ sb s)) ∧ Below w.heap.size w w' := by
  have hz : PNum.zig s.size < 18446744073709551616 := PNum.zig_lt _ (by omega) (by omega)
  have ht := PNum.sev_ten _ hz
  have HT := Lib.hid ht; clear ht
  clear hz
  go_enter Tryd.func36, Tryd.ntmps36
  go_wp2_with fail
  refine (rPut_c w s.size (by omega) (by omega)).mono ?_
  rintro e w1 ⟨A1, c1, rfl, hown1, hb1⟩
  have hsz := hb1.size
  go_wp2_with (at_builtin; go_must (refine wpList_appStr rfl (.tmp 5) (.tmp 6) _ _ rfl w.heap.size 5 Tryd.underlying35 Tryd.underlying9 byte_info _ _ _ rfl hown1 s rfl ?c1 ?c2 ?c3 ?_))
  case c1 => have := HT.out; unfold maxLen; omega
  case c2 => have := HT.out; omega
  case c3 => omega
  intro A3 c3 w3 hown3 hg3 hb3
  go_wp2_with fail
  go_ret
  refine ⟨A3, c3, rfl, ?_, hb1.trans hb3⟩
  rw [bs_append]
  exact hown3

end Go.Proofs.YtkckibcfanaglaaDoor

/- Contract of the document's Entries. -/
namespace Go.Proofs.YtkckibcfanaglaaDoor
open Go.RowKit

/-- A block of another type, behind a call that made a row of one's own grow. -/
theorem Blk.grown_own {w w' : World} {g base k n : Nat} {t e : TypeId} {v : Value} {ys xs : List Value} (h : Blk w g t ys) (ho : w.ownsRow base e k v n xs) (hg : w.grownBy w' v.ownBlock) (hne : t ≠ e) : Blk w' g t ys := by
  refine (hg.block g h.lt ?_).trans h
  rcases ho.2 with ⟨hv, _⟩ | ⟨g', cap, cur, hv, _, hh, _⟩
  · rw [hv]; simp [Value.ownBlock]
  · rw [hv]
    simp only [Value.ownBlock]
    intro hx
    have hx : g = g' := by injection hx
    subst hx
    have := h.symm.trans hh
    simp at this
    exact hne this.2

set_option maxHeartbeats 4000000 in
set_option maxRecDepth 100000 in
theorem rEntries_c (w : World) (B : Nat) (A : Option Addr) (c n : Nat) (l : List Ent) (h : Rd w B A c 7 n (els l)) (hn : n ≤ 1000000) :
    Calls Tryd.prog 27 #[.slice A n c] w fun x w' => ∃ A' c', x = .returned (.slice A' (PEnt.encode l).length c') ∧
      w'.ownsRow w.heap.size 5 1 (.slice A' (PEnt.encode l).length c') (PEnt.encode l).length (bs (PEnt.encode l)) ∧ Below w.heap.size w w' := by
  have R0 := Lib.hid h.tight
  have HLn := Lib.hid h.elen
  clear h
  go_enter Tryd.func27, Tryd.ntmps27
  go_wp2_with fail
  go_loopw [3, 4, 5, 6, 7] (fun s3 s4 _ _ _ wr => ∃ (i m c' : Nat) (A' : Option Addr), i ≤ n ∧ m ≤ 86 * i ∧ s4 = .int .i64 i ∧ s3 = .slice A' m c' ∧ Hid ((l.take i).all PEnt.may = true) ∧
      Hid (wr.ownsRow w.heap.size 5 1 (.slice A' m c') m (bs (PEnt.enc (l.take i)))) ∧ Hid (Below w.heap.size w wr))
    (fun _ s4 _ _ _ _ => n - (intOf s4).toNat)
  case atStart => exact ⟨0, 0, 0, none, by omega, by omega, rfl, rfl, Lib.hid (by simp), Lib.hid (World.ownsRow_nil _ _ _ _), Lib.hid (Below.refl _ _)⟩
  case round =>
    obtain ⟨i, m, c1, A1, hi, hm, rfl, rfl, HA, O, BL⟩ := hrel
    by_cases hlt : i < n
    · obtain ⟨b, o, e, rfl, -, he, hmem, d0, d1, d2, d3, d4, d5, d6⟩ := (R0.out.below BL.out).ent hlt
      have HE := Lib.hid he
      have HM := Lib.hid hmem
      clear he hmem
      go_wp2_with fail
      clear d0 d1 d2 d3 d4 d5 d6
      have b1 := (Below.refl wr.heap.size wr).alloc (Nat.le_refl _) (.cells #[.int .i64 e.fr, .int .i64 e.boot, .int .i64 e.seq, .int .i64 e.ord, .int .i64 e.lev, .int .i64 e.stamp, .string e.data] 53)
      have K1 := Blk.newEnt wr 53 e
      generalize wr.alloc (.cells #[.int .i64 e.fr, .int .i64 e.boot, .int .i64 e.seq, .int .i64 e.ord, .int .i64 e.lev, .int .i64 e.stamp, .string e.data] 53) = w1 at *
      cases hy : PEnt.may e
      · have HB := Lib.hid (encode_bad HM.out hy)
        refine (rMay_c w1 e).mono ?_
        rw [hy]
        rintro x w2 ⟨rfl, b2⟩
        have B2 := Lib.hid ((BL.out.trans (b1.mono BL.out.size)).trans (b2.mono (Nat.le_trans BL.out.size b1.size)))
        clear b1 b2 K1 hy
        go_wp2_with fail
        go_ret
        refine ⟨none, 0, ?_, ?_, B2.out⟩
        · rw [HB.out]; rfl
        · rw [HB.out]; exact World.ownsRow_nil _ _ _ _
      · have hmay := (PEnt.may_iff e).1 hy
        have HS1 := Lib.hid (show (l.take (i + 1)).all PEnt.may = true by rw [all_snoc HE.out, HA.out, hy]; rfl)
        have HS2 := Lib.hid (enc_snoc HE.out)
        have HY := Lib.hid hmay
        refine (rMay_c w1 e).mono ?_
        rw [hy]
        rintro x w2 ⟨rfl, b2⟩
        have B2 := Lib.hid ((BL.out.trans (b1.mono BL.out.size)).trans (b2.mono (Nat.le_trans BL.out.size b1.size)))
        have O2 := Lib.hid (own_below (own_below O.out b1) b2)
        have K2 := Lib.hid (K1.past b2)
        obtain ⟨d0, d1, d2, d3, d4, d5, d6⟩ := K2.out.ent
        generalize wr.heap.size = g5 at *
        clear b1 b2 K1 hy hmay O BL
        have HNF := Lib.hid (PEnt.nums_fit HY.out.fit)
        have HL := Lib.hid (show (PEnt.nums e).length = 6 from rfl)
        have R6 := Lib.hid (show Blk (w2.alloc (.cells #[.int .i64 e.fr, .int .i64 e.boot, .int .i64 e.seq, .int .i64 e.ord, .int .i64 e.lev, .int .i64 e.stamp] 2)) w2.heap.size 2 (is (PEnt.nums e)) from
          Blk.new w2 #[.int .i64 e.fr, .int .i64 e.boot, .int .i64 e.seq, .int .i64 e.ord, .int .i64 e.lev, .int .i64 e.stamp] 2)
        have B3 := Lib.hid (B2.out.alloc B2.out.size (.cells #[.int .i64 e.fr, .int .i64 e.boot, .int .i64 e.seq, .int .i64 e.ord, .int .i64 e.lev, .int .i64 e.stamp] 2))
        have O3 := Lib.hid (own_below O2.out ((Below.refl _ w2).alloc (Nat.le_refl _) (.cells #[.int .i64 e.fr, .int .i64 e.boot, .int .i64 e.seq, .int .i64 e.ord, .int .i64 e.lev, .int .i64 e.stamp] 2)))
        have K3 := Lib.hid (K2.out.alloc (.cells #[.int .i64 e.fr, .int .i64 e.boot, .int .i64 e.seq, .int .i64 e.ord, .int .i64 e.lev, .int .i64 e.stamp] 2))
        clear B2 O2 K2
        go_wp2_with fail
        clear d0 d1 d2 d3 d4 d5 d6
        generalize w2.alloc (.cells #[.int .i64 e.fr, .int .i64 e.boot, .int .i64 e.seq, .int .i64 e.ord, .int .i64 e.lev, .int .i64 e.stamp] 2) = w3 at *
        generalize w2.heap.size = g6 at *
        go_loopw [3, 7] (fun s3 s7 wk => ∃ (k q c' : Nat) (A' : Option Addr), k ≤ 6 ∧ q ≤ 86 * i + 10 * k ∧ s7 = .int .i64 k ∧ s3 = .slice A' q c' ∧
            Hid (wk.ownsRow w.heap.size 5 1 (.slice A' q c') q (bs (PEnt.enc (l.take i) ++ PEnt.encN ((PEnt.nums e).take k)))) ∧ Hid (Blk wk g6 2 (is (PEnt.nums e))) ∧ Hid (Blk wk g5 53 (ecs e)) ∧ Hid (Below w.heap.size w wk))
          (fun _ s7 _ => 6 - (intOf s7).toNat)
        case atStart => exact ⟨0, m, c1, A1, by omega, by omega, rfl, rfl, Lib.hid (by simpa [PEnt.encN] using O3.out), R6, K3, B3⟩
        case round =>
          clear R6 K3 B3 O3
          obtain ⟨k, q, c2, A2, hk, hq, rfl, rfl, O4, R4, K4, B4⟩ := hrel
          by_cases hk6 : k < 6
          · obtain ⟨x, hx2⟩ : ∃ x, (PEnt.nums e)[k]? = some x := ⟨_, List.getElem?_eq_getElem (by rw [HL.out]; exact hk6)⟩
            have hcx := R4.out.cell (i := k) (u := .int .i64 x) (by rw [is, List.getElem?_map, hx2]; rfl)
            have hxf := HNF.out x (List.mem_of_getElem? hx2)
            have HS := Lib.hid (encN_snoc hx2)
            have ht := PNum.sev_ten (PNum.zig x) (PNum.zig_lt x hxf.1 hxf.2)
            have HT := Lib.hid ht
            have HFX := Lib.hid hxf
            clear hx2 ht hxf
            go_wp2_with fail
            refine (rPut_c wr x HFX.out.1 HFX.out.2).mono ?_
            rintro y w4 ⟨A5, c5, rfl, hown, b5⟩
            have R5 := Lib.hid (Rd.of_own hown)
            have B5 := Lib.hid (B4.out.trans (b5.mono B4.out.size))
            have O5 := Lib.hid (own_below O4.out b5)
            have R45 := Lib.hid (R4.out.past b5)
            have K5 := Lib.hid (K4.out.past b5)
            clear hown b5 R4 O4 K4 B4 hcx
            generalize hj : (PNum.sev (PNum.zig x)).length = j at *
            clear hj
            go_wp2_with (at_builtin; go_must (refine wpList_app rfl (.tmp 40) (.tmp 45) _ rfl w.heap.size 5 _ 1 1 Tryd.underlying35 byte_info rfl (by omega) _ q _ rfl O5.out _ A5 c5 j (bs (PNum.sev (PNum.zig x))) rfl R5.out (bs_one _) ?c1 ?c2 ?c3 ?_))
            case c1 => have := HT.out; unfold maxLen; omega
            case c2 => have := HT.out; omega
            case c3 => exact B5.out.size
            intro A6 c6 w6 hown6 hgrow6 hbel6
            have R6 := Lib.hid (R45.out.grown_own O5.out hgrow6 (by decide))
            have K6 := Lib.hid (K5.out.grown_own O5.out hgrow6 (by decide))
            have B6 := Lib.hid (B5.out.trans hbel6)
            have O6 := Lib.hid hown6
            clear hown6 hgrow6 hbel6 R45 K5 B5 O5 R5
            go_wp2_with fail
            go_roundw
            case rel => exact ⟨k + 1, q + j, c6, A6, by omega, by have := HT.out; omega, by go_num, rfl, Lib.hid (by rw [HS.out, ← List.append_assoc, bs_append]; exact O6.out), R6, K6, B6⟩
            case measure => simp [intOf]; omega
          · obtain rfl : k = 6 := by omega
            have hN : (PEnt.nums e).take 6 = PEnt.nums e := List.take_of_length_le (by rw [HL.out]; omega)
            rw [hN] at O4
            obtain ⟨-, -, -, -, -, -, d6⟩ := K4.out.ent
            have hd16 := HY.out.2.2.2.2.2.2
            have HD16 := Lib.hid hd16
            have ht := PNum.sev_ten (PNum.zig e.data.size) (PNum.zig_lt _ (by omega) (by omega))
            have HT := Lib.hid ht
            clear hN hd16 ht R4 K4
            go_wp2_with fail
            refine (rPutText_c wr e.data (by have := HD16.out; omega)).mono ?_
            rintro y w4 ⟨A5, c5, rfl, hown, b5⟩
            have R5 := Lib.hid (Rd.of_own hown)
            have B5 := Lib.hid (B4.out.trans (b5.mono B4.out.size))
            have O5 := Lib.hid (own_below O4.out b5)
            clear hown b5 O4 B4 d6
            generalize hj : (PNum.sev (PNum.zig e.data.size)).length + e.data.size = j at *
            have HJ := Lib.hid (show j ≤ 26 by have := HT.out; have := HD16.out; omega)
            clear hj
            go_wp2_with (at_builtin; go_must (refine wpList_app rfl (.tmp 47) (.tmp 50) _ rfl w.heap.size 5 _ 1 1 Tryd.underlying35 byte_info rfl (by omega) _ q _ rfl O5.out _ A5 c5 j _ rfl R5.out (bs_one _) ?c1 ?c2 ?c3 ?_))
            case c1 => have := HJ.out; unfold maxLen; omega
            case c2 => have := HJ.out; omega
            case c3 => exact B5.out.size
            intro A6 c6 w6 hown6 hgrow6 hbel6
            have B6 := Lib.hid (B5.out.trans hbel6)
            have O6 := Lib.hid hown6
            clear hown6 hgrow6 hbel6 B5 O5 R5
            go_wp2_with fail
            go_roundw
            case rel => exact ⟨i + 1, q + j, c6, A6, by omega, by have := HJ.out; omega, by go_num, rfl, HS1, Lib.hid (by
              rw [HS2.out]; show World.ownsRow _ _ _ _ _ _ (bs (_ ++ (PEnt.encN (PEnt.nums e) ++ _)))
              rw [← List.append_assoc, bs_append]; exact O6.out), B6⟩
            case measure => simp [intOf]; omega
    · obtain rfl : i = n := by omega
      have ht : l.take i = l := List.take_of_length_le (by rw [HLn.out]; omega)
      rw [ht] at HA O
      have HG := Lib.hid (encode_good HA.out)
      have hl := O.out.1
      rw [bs_length] at hl
      have HL2 := Lib.hid (show (PEnt.enc l).length = m by omega)
      clear ht hl
      go_wp2_with fail
      go_ret
      refine ⟨A1, c1, ?_, ?_, BL.out⟩
      · rw [HG.out, HL2.out]; rfl
      · rw [HG.out, HL2.out]; exact O.out
end Go.Proofs.YtkckibcfanaglaaDoor

/- Contract of the document's Bytes. -/
namespace Go.Proofs.YtkckibcfanaglaaDoor
open Go.RowKit

set_option maxHeartbeats 8000000 in
set_option maxRecDepth 100000 in
theorem rBytes_c (w : World) (m : Msg) (A : Option Addr) (c : Nat) (h : Rd w w.heap.size A c 7 m.es.length (els m.es)) :
    Calls Tryd.prog 15 #[mv m A c] w fun x w' => ∃ (A' : Option Addr) (c' : Nat), x = .returned (.slice A' (PMsg.enc m).length c') ∧
      w'.ownsRow w.heap.size 5 1 (.slice A' (PMsg.enc m).length c') (PMsg.enc m).length (bs (PMsg.enc m)) ∧ Below w.heap.size w w' := by
  have b1 := (Below.refl w.heap.size w).alloc (Nat.le_refl _) (.cells #[.int .i64 m.kind, .int .i64 m.fr, .int .i64 m.dst, .int .i64 m.boot, .int .i64 m.view, .int .i64 m.last, .int .i64 m.mem, .int .i64 m.pos, .slice A m.es.length c, .int .i64 m.com, .int .i64 m.num, .int .i64 m.clk, .bool m.yes] 31)
  have K0 := Blk.new w #[.int .i64 m.kind, .int .i64 m.fr, .int .i64 m.dst, .int .i64 m.boot, .int .i64 m.view, .int .i64 m.last, .int .i64 m.mem, .int .i64 m.pos, .slice A m.es.length c, .int .i64 m.com, .int .i64 m.num, .int .i64 m.clk, .bool m.yes] 31
  have R0 := Lib.hid h
  have HL := Lib.hid (PMsg.ns_length m)
  clear h
  show Calls _ _ #[.agg #[.int .i64 m.kind, .int .i64 m.fr, .int .i64 m.dst, .int .i64 m.boot, .int .i64 m.view, .int .i64 m.last, .int .i64 m.mem, .int .i64 m.pos, .slice A m.es.length c, .int .i64 m.com, .int .i64 m.num, .int .i64 m.clk, .bool m.yes]] _ _
  go_enter Tryd.func15, Tryd.ntmps15
  go_wp2_with fail
  generalize w.alloc (.cells #[.int .i64 m.kind, .int .i64 m.fr, .int .i64 m.dst, .int .i64 m.boot, .int .i64 m.view, .int .i64 m.last, .int .i64 m.mem, .int .i64 m.pos, .slice A m.es.length c, .int .i64 m.com, .int .i64 m.num, .int .i64 m.clk, .bool m.yes] 31) = w1 at *
  have BL1 := Lib.hid b1
  have K1 := Lib.hid (show Blk w1 w.heap.size 31 (mcs m A c) from K0)
  clear b1 K0
  refine (rMayM_c w1 m A c ((R0.out.past BL1.out).tight)).mono ?_
  cases hy : PMsg.may m
  · have HE := Lib.hid (PMsg.enc_no hy)
    rintro x w2 ⟨rfl, b2⟩
    have B2 := Lib.hid (BL1.out.trans (b2.mono BL1.out.size))
    clear b2 hy K1
    go_wp2_with fail
    go_ret
    exact ⟨none, 0, by rw [HE.out]; rfl, by rw [HE.out]; exact World.ownsRow_nil _ _ _ _, B2.out⟩
  · have HE := Lib.hid (PMsg.enc_yes hy)
    have hM := (PMsg.may_iff m).1 hy
    have HNF := Lib.hid (PMsg.ns_fit hM)
    have HES := Lib.hid hM.2.2.2.2.2.2.2.2.2.2.2.2
    have HBL := Lib.hid (PMsg.body_len hM)
    have HBD := Lib.hid (show PMsg.body m = PEnt.encN (PMsg.ns m) ++ PEnt.enc m.es from rfl)
    have HBB := Lib.hid (PMsg.body_byte m)
    rintro x w2 ⟨rfl, b2⟩
    have BL2 := Lib.hid (BL1.out.trans (b2.mono BL1.out.size))
    have K2 := Lib.hid (K1.out.past b2)
    clear b2 hy hM K1 BL1
    have c0 := K2.out.cell (i := 0) rfl
    have c1 := K2.out.cell (i := 1) rfl
    have c2 := K2.out.cell (i := 2) rfl
    have c3 := K2.out.cell (i := 3) rfl
    have c4 := K2.out.cell (i := 4) rfl
    have c5 := K2.out.cell (i := 5) rfl
    have c6 := K2.out.cell (i := 6) rfl
    have c7 := K2.out.cell (i := 7) rfl
    have c8 := K2.out.cell (i := 8) rfl
    have c9 := K2.out.cell (i := 9) rfl
    have c10 := K2.out.cell (i := 10) rfl
    have c11 := K2.out.cell (i := 11) rfl
    have c12 := K2.out.cell (i := 12) rfl
    have HNS := Lib.hid (show PMsg.ns m = [m.kind, m.fr, m.dst, m.boot, m.view, m.last, m.mem, m.pos, m.com, m.num, m.clk, PMsg.bit m.yes, (m.es.length : Int)] from rfl)
    generalize PMsg.ns m = N at *
    generalize PMsg.body m = Y at *
    cases hyes : m.yes
    · rw [hyes] at c12
      have HNV := Lib.hid (show is N = [.int .i64 m.kind, .int .i64 m.fr, .int .i64 m.dst, .int .i64 m.boot, .int .i64 m.view, .int .i64 m.last, .int .i64 m.mem, .int .i64 m.pos, .int .i64 m.com, .int .i64 m.num, .int .i64 m.clk, .int .i64 0, .int .i64 (m.es.length : Int)] by rw [HNS.out, hyes]; rfl)
      have B3 := Lib.hid (BL2.out.alloc BL2.out.size (.cells #[.int .i64 m.kind, .int .i64 m.fr, .int .i64 m.dst, .int .i64 m.boot, .int .i64 m.view, .int .i64 m.last, .int .i64 m.mem, .int .i64 m.pos, .int .i64 m.com, .int .i64 m.num, .int .i64 m.clk, .int .i64 0, .int .i64 (m.es.length : Int)] 2))
      have K3 := Lib.hid (K2.out.alloc (.cells #[.int .i64 m.kind, .int .i64 m.fr, .int .i64 m.dst, .int .i64 m.boot, .int .i64 m.view, .int .i64 m.last, .int .i64 m.mem, .int .i64 m.pos, .int .i64 m.com, .int .i64 m.num, .int .i64 m.clk, .int .i64 0, .int .i64 (m.es.length : Int)] 2))
      have R3 := Lib.hid (show Blk (w2.alloc (.cells #[.int .i64 m.kind, .int .i64 m.fr, .int .i64 m.dst, .int .i64 m.boot, .int .i64 m.view, .int .i64 m.last, .int .i64 m.mem, .int .i64 m.pos, .int .i64 m.com, .int .i64 m.num, .int .i64 m.clk, .int .i64 0, .int .i64 (m.es.length : Int)] 2)) w2.heap.size 2 (is N) by rw [HNV.out]; exact Blk.new w2 #[.int .i64 m.kind, .int .i64 m.fr, .int .i64 m.dst, .int .i64 m.boot, .int .i64 m.view, .int .i64 m.last, .int .i64 m.mem, .int .i64 m.pos, .int .i64 m.com, .int .i64 m.num, .int .i64 m.clk, .int .i64 0, .int .i64 (m.es.length : Int)] 2)
      clear hyes
      go_wp2_with fail
      clear c0 c1 c2 c3 c4 c5 c6 c7 c8 c9 c10 c11 c12 K2 BL2 HNV HNS
      generalize w2.alloc (.cells #[.int .i64 m.kind, .int .i64 m.fr, .int .i64 m.dst, .int .i64 m.boot, .int .i64 m.view, .int .i64 m.last, .int .i64 m.mem, .int .i64 m.pos, .int .i64 m.com, .int .i64 m.num, .int .i64 m.clk, .int .i64 0, .int .i64 (m.es.length : Int)] 2) = w3 at *
      generalize w2.heap.size = g6 at *
      go_loopw [5, 6] (fun s5 s6 wr => ∃ (i q c' : Nat) (A' : Option Addr), i ≤ 13 ∧ q ≤ 10 * i ∧ s6 = .int .i64 i ∧ s5 = .slice A' q c' ∧ Hid (wr.ownsRow w.heap.size 5 1 (.slice A' q c') q (bs (PEnt.encN (N.take i)))) ∧ Hid (Below w.heap.size w wr) ∧ Hid (Blk wr w.heap.size 31 (mcs m A c)) ∧ Hid (Blk wr g6 2 (is N)))
        (fun _ s6 _ => 13 - (intOf s6).toNat)
      case atStart => exact ⟨0, 0, 0, none, by omega, by omega, rfl, rfl, Lib.hid (World.ownsRow_nil _ _ _ _), B3, K3, R3⟩
      case round =>
        clear B3 K3 R3
        obtain ⟨i, q, c1, A1, hi, hq, rfl, rfl, O, B, K, R⟩ := hrel
        by_cases hlt : i < 13
        · obtain ⟨x, hx⟩ : ∃ x, N[i]? = some x := ⟨_, List.getElem?_eq_getElem (by rw [HL.out]; exact hlt)⟩
          have hcx := R.out.cell (i := i) (u := .int .i64 x) (by rw [is, List.getElem?_map, hx]; rfl)
          have hxf := HNF.out x (List.mem_of_getElem? hx)
          have HS := Lib.hid (encN_snoc hx)
          have ht := PNum.sev_ten (PNum.zig x) (PNum.zig_lt x hxf.1 hxf.2)
          have HT1 := Lib.hid ht
          have HFX := Lib.hid hxf
          clear hx ht hxf
          go_wp2_with fail
          refine (rPut_c wr x HFX.out.1 HFX.out.2).mono ?_
          rintro e w4 ⟨A5, c5, rfl, hown, b5⟩
          have R5 := Lib.hid (Rd.of_own hown)
          have B5 := Lib.hid (B.out.trans (b5.mono B.out.size))
          have O5 := Lib.hid (own_below O.out b5)
          have K5 := Lib.hid (K.out.past b5)
          have G5 := Lib.hid (R.out.past b5)
          clear hown b5 O B K R hcx
          generalize hj : (PNum.sev (PNum.zig x)).length = j at *
          clear hj
          go_wp2_with (at_builtin; go_must (refine wpList_app rfl (.tmp 45) (.tmp 50) _ rfl w.heap.size 5 _ 1 1 Tryd.underlying35 byte_info rfl (by omega) _ q _ rfl O5.out _ A5 c5 j (bs (PNum.sev (PNum.zig x))) rfl R5.out (bs_one _) ?c1 ?c2 ?c3 ?_))
          case c1 => have := HT1.out; unfold maxLen; omega
          case c2 => have := HT1.out; omega
          case c3 => exact B5.out.size
          intro A6 c6 w6 hown6 hgrow6 hbel6
          have K6 := Lib.hid (K5.out.grown_own O5.out hgrow6 (by decide))
          have G6 := Lib.hid (G5.out.grown_own O5.out hgrow6 (by decide))
          have B6 := Lib.hid (B5.out.trans hbel6)
          have O6 := Lib.hid hown6
          clear hown6 hgrow6 hbel6 K5 G5 B5 O5 R5
          go_wp2_with fail
          go_roundw
          case rel => exact ⟨i + 1, q + j, c6, A6, by omega, by have := HT1.out; omega, by go_num, rfl, Lib.hid (by rw [HS.out, bs_append]; exact O6.out), B6, K6, G6⟩
          case measure => simp [intOf]; omega
        · obtain rfl : i = 13 := by omega
          have hN : N.take 13 = N := List.take_of_length_le (by rw [HL.out]; omega)
          rw [hN] at O
          have c8 := K.out.cell (i := 8) rfl
          have RE := Lib.hid ((R0.out.past B.out).tight)
          clear hN K R
          go_wp2_with fail
          clear c8
          refine (rEntries_c wr _ A c m.es.length m.es RE.out (by have := HES.out.1; omega)).mono ?_
          rw [encode_good HES.out.2]
          rintro e w2 ⟨A2, c2, rfl, hown, b2⟩
          have B2 := Lib.hid (B.out.trans (b2.mono B.out.size))
          have O2 := Lib.hid (own_below O.out b2)
          have R2 := Lib.hid (Rd.of_own hown)
          have HQ := Lib.hid (show q + (PEnt.enc m.es).length = Y.length by
            rw [HBD.out, List.length_append]
            have := (Rd.of_own O.out).blen
            omega)
          have HYL := HBL.out
          clear hown b2 O B RE
          generalize hj : (PEnt.enc m.es).length = j at *
          have HJ := Lib.hid (show j ≤ 5290 by have := HQ.out; omega)
          clear hj
          go_wp2_with (at_builtin; go_must (refine wpList_app rfl (.tmp 52) (.tmp 55) _ rfl w.heap.size 5 _ 1 1 Tryd.underlying35 byte_info rfl (by omega) _ q _ rfl O2.out _ A2 c2 j _ rfl R2.out (bs_one _) ?c1 ?c2 ?c3 ?_))
          case c1 => have := HJ.out; unfold maxLen; omega
          case c2 => have := HJ.out; omega
          case c3 => exact B2.out.size
          intro A6 c6 w6 hown6 hgrow6 hbel6
          have B6 := Lib.hid (B2.out.trans hbel6)
          rw [← bs_append, ← HBD.out, HQ.out] at hown6
          have R6 := Lib.hid (Rd.of_own hown6)
          have hq2 := HQ.out
          clear hown6 hgrow6 hbel6 B2 O2 R2
          go_wp2_with fail
          rw [hq2]
          refine (rSeal_c w6 _ A6 c6 Y.length Y R6.out HBB.out (by omega)).mono ?_
          rintro e w7 ⟨A7, c7, rfl, hown, b7⟩
          have B7 := Lib.hid (B6.out.trans (b7.mono B6.out.size))
          have O7 := Lib.hid (own_from hown B6.out.size)
          have HEL := Lib.hid (show (PMsg.enc m).length = Y.length + 4 by rw [HE.out, sealed_length])
          clear hown b7
          go_wp2_with fail
          go_ret
          refine ⟨A7, c7, by rw [HEL.out]; rfl, ?_, B7.out⟩
          rw [HEL.out, HE.out]
          exact O7.out
    · rw [hyes] at c12
      have HNV := Lib.hid (show is N = [.int .i64 m.kind, .int .i64 m.fr, .int .i64 m.dst, .int .i64 m.boot, .int .i64 m.view, .int .i64 m.last, .int .i64 m.mem, .int .i64 m.pos, .int .i64 m.com, .int .i64 m.num, .int .i64 m.clk, .int .i64 1, .int .i64 (m.es.length : Int)] by rw [HNS.out, hyes]; rfl)
      have B3 := Lib.hid (BL2.out.alloc BL2.out.size (.cells #[.int .i64 m.kind, .int .i64 m.fr, .int .i64 m.dst, .int .i64 m.boot, .int .i64 m.view, .int .i64 m.last, .int .i64 m.mem, .int .i64 m.pos, .int .i64 m.com, .int .i64 m.num, .int .i64 m.clk, .int .i64 1, .int .i64 (m.es.length : Int)] 2))
      have K3 := Lib.hid (K2.out.alloc (.cells #[.int .i64 m.kind, .int .i64 m.fr, .int .i64 m.dst, .int .i64 m.boot, .int .i64 m.view, .int .i64 m.last, .int .i64 m.mem, .int .i64 m.pos, .int .i64 m.com, .int .i64 m.num, .int .i64 m.clk, .int .i64 1, .int .i64 (m.es.length : Int)] 2))
      have R3 := Lib.hid (show Blk (w2.alloc (.cells #[.int .i64 m.kind, .int .i64 m.fr, .int .i64 m.dst, .int .i64 m.boot, .int .i64 m.view, .int .i64 m.last, .int .i64 m.mem, .int .i64 m.pos, .int .i64 m.com, .int .i64 m.num, .int .i64 m.clk, .int .i64 1, .int .i64 (m.es.length : Int)] 2)) w2.heap.size 2 (is N) by rw [HNV.out]; exact Blk.new w2 #[.int .i64 m.kind, .int .i64 m.fr, .int .i64 m.dst, .int .i64 m.boot, .int .i64 m.view, .int .i64 m.last, .int .i64 m.mem, .int .i64 m.pos, .int .i64 m.com, .int .i64 m.num, .int .i64 m.clk, .int .i64 1, .int .i64 (m.es.length : Int)] 2)
      clear hyes
      go_wp2_with fail
      clear c0 c1 c2 c3 c4 c5 c6 c7 c8 c9 c10 c11 c12 K2 BL2 HNV HNS
      generalize w2.alloc (.cells #[.int .i64 m.kind, .int .i64 m.fr, .int .i64 m.dst, .int .i64 m.boot, .int .i64 m.view, .int .i64 m.last, .int .i64 m.mem, .int .i64 m.pos, .int .i64 m.com, .int .i64 m.num, .int .i64 m.clk, .int .i64 1, .int .i64 (m.es.length : Int)] 2) = w3 at *
      generalize w2.heap.size = g6 at *
      go_loopw [5, 6] (fun s5 s6 wr => ∃ (i q c' : Nat) (A' : Option Addr), i ≤ 13 ∧ q ≤ 10 * i ∧ s6 = .int .i64 i ∧ s5 = .slice A' q c' ∧ Hid (wr.ownsRow w.heap.size 5 1 (.slice A' q c') q (bs (PEnt.encN (N.take i)))) ∧ Hid (Below w.heap.size w wr) ∧ Hid (Blk wr w.heap.size 31 (mcs m A c)) ∧ Hid (Blk wr g6 2 (is N)))
        (fun _ s6 _ => 13 - (intOf s6).toNat)
      case atStart => exact ⟨0, 0, 0, none, by omega, by omega, rfl, rfl, Lib.hid (World.ownsRow_nil _ _ _ _), B3, K3, R3⟩
      case round =>
        clear B3 K3 R3
        obtain ⟨i, q, c1, A1, hi, hq, rfl, rfl, O, B, K, R⟩ := hrel
        by_cases hlt : i < 13
        · obtain ⟨x, hx⟩ : ∃ x, N[i]? = some x := ⟨_, List.getElem?_eq_getElem (by rw [HL.out]; exact hlt)⟩
          have hcx := R.out.cell (i := i) (u := .int .i64 x) (by rw [is, List.getElem?_map, hx]; rfl)
          have hxf := HNF.out x (List.mem_of_getElem? hx)
          have HS := Lib.hid (encN_snoc hx)
          have ht := PNum.sev_ten (PNum.zig x) (PNum.zig_lt x hxf.1 hxf.2)
          have HT1 := Lib.hid ht
          have HFX := Lib.hid hxf
          clear hx ht hxf
          go_wp2_with fail
          refine (rPut_c wr x HFX.out.1 HFX.out.2).mono ?_
          rintro e w4 ⟨A5, c5, rfl, hown, b5⟩
          have R5 := Lib.hid (Rd.of_own hown)
          have B5 := Lib.hid (B.out.trans (b5.mono B.out.size))
          have O5 := Lib.hid (own_below O.out b5)
          have K5 := Lib.hid (K.out.past b5)
          have G5 := Lib.hid (R.out.past b5)
          clear hown b5 O B K R hcx
          generalize hj : (PNum.sev (PNum.zig x)).length = j at *
          clear hj
          go_wp2_with (at_builtin; go_must (refine wpList_app rfl (.tmp 45) (.tmp 50) _ rfl w.heap.size 5 _ 1 1 Tryd.underlying35 byte_info rfl (by omega) _ q _ rfl O5.out _ A5 c5 j (bs (PNum.sev (PNum.zig x))) rfl R5.out (bs_one _) ?c1 ?c2 ?c3 ?_))
          case c1 => have := HT1.out; unfold maxLen; omega
          case c2 => have := HT1.out; omega
          case c3 => exact B5.out.size
          intro A6 c6 w6 hown6 hgrow6 hbel6
          have K6 := Lib.hid (K5.out.grown_own O5.out hgrow6 (by decide))
          have G6 := Lib.hid (G5.out.grown_own O5.out hgrow6 (by decide))
          have B6 := Lib.hid (B5.out.trans hbel6)
          have O6 := Lib.hid hown6
          clear hown6 hgrow6 hbel6 K5 G5 B5 O5 R5
          go_wp2_with fail
          go_roundw
          case rel => exact ⟨i + 1, q + j, c6, A6, by omega, by have := HT1.out; omega, by go_num, rfl, Lib.hid (by rw [HS.out, bs_append]; exact O6.out), B6, K6, G6⟩
          case measure => simp [intOf]; omega
        · obtain rfl : i = 13 := by omega
          have hN : N.take 13 = N := List.take_of_length_le (by rw [HL.out]; omega)
          rw [hN] at O
          have c8 := K.out.cell (i := 8) rfl
          have RE := Lib.hid ((R0.out.past B.out).tight)
          clear hN K R
          go_wp2_with fail
          clear c8
          refine (rEntries_c wr _ A c m.es.length m.es RE.out (by have := HES.out.1; omega)).mono ?_
          rw [encode_good HES.out.2]
          rintro e w2 ⟨A2, c2, rfl, hown, b2⟩
          have B2 := Lib.hid (B.out.trans (b2.mono B.out.size))
          have O2 := Lib.hid (own_below O.out b2)
          have R2 := Lib.hid (Rd.of_own hown)
          have HQ := Lib.hid (show q + (PEnt.enc m.es).length = Y.length by
            rw [HBD.out, List.length_append]
            have := (Rd.of_own O.out).blen
            omega)
          have HYL := HBL.out
          clear hown b2 O B RE
          generalize hj : (PEnt.enc m.es).length = j at *
          have HJ := Lib.hid (show j ≤ 5290 by have := HQ.out; omega)
          clear hj
          go_wp2_with (at_builtin; go_must (refine wpList_app rfl (.tmp 52) (.tmp 55) _ rfl w.heap.size 5 _ 1 1 Tryd.underlying35 byte_info rfl (by omega) _ q _ rfl O2.out _ A2 c2 j _ rfl R2.out (bs_one _) ?c1 ?c2 ?c3 ?_))
          case c1 => have := HJ.out; unfold maxLen; omega
          case c2 => have := HJ.out; omega
          case c3 => exact B2.out.size
          intro A6 c6 w6 hown6 hgrow6 hbel6
          have B6 := Lib.hid (B2.out.trans hbel6)
          rw [← bs_append, ← HBD.out, HQ.out] at hown6
          have R6 := Lib.hid (Rd.of_own hown6)
          have hq2 := HQ.out
          clear hown6 hgrow6 hbel6 B2 O2 R2
          go_wp2_with fail
          rw [hq2]
          refine (rSeal_c w6 _ A6 c6 Y.length Y R6.out HBB.out (by omega)).mono ?_
          rintro e w7 ⟨A7, c7, rfl, hown, b7⟩
          have B7 := Lib.hid (B6.out.trans (b7.mono B6.out.size))
          have O7 := Lib.hid (own_from hown B6.out.size)
          have HEL := Lib.hid (show (PMsg.enc m).length = Y.length + 4 by rw [HE.out, sealed_length])
          clear hown b7
          go_wp2_with fail
          go_ret
          refine ⟨A7, c7, by rw [HEL.out]; rfl, ?_, B7.out⟩
          rw [HEL.out, HE.out]
          exact O7.out
end Go.Proofs.YtkckibcfanaglaaDoor

