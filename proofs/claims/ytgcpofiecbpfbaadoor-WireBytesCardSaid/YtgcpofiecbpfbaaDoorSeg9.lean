/- Contracts of curfewref1's Put, PutText, Get, GetText. -/
import Derived.Test.YtgcpofiecbpfbaaDoorSeg2
import Derived.Test.YtgcpofiecbpfbaaDoorSeg7
import Derived.Test.YtgcpofiecbpfbaaDoorSeg3
import Derived.Test.YtgcpofiecbpfbaaDoorSeg8
import Derived.Test.YtgcpofiecbpfbaaDoorRows
import Derived.Test.YtgcpofiecbpfbaaDoorSeg1
import Derived.Laws.StructEq
import Derived.Test.YtgcpofiecbpfbaaDoorSeg5
import Derived.Lib.LaidTab
import Derived.LaidMore
namespace Go.Proofs.YtgcpofiecbpfbaaDoor
open Go.RowKit

theorem zig_lib (x : Int) : Lib.zigzag x = PNum.zig x := by unfold Lib.zigzag PNum.zig; split <;> split <;> omega
theorem low_seven (v : Nat) : IntKind.u8.wrap ((v : Int) % 128 + 128) = ((v % 128 + 128 : Nat) : Int) := by rw [IntKind.wrap_u8']; omega

set_option maxRecDepth 100000 in
theorem rPut_c (w : World) (x : Int) (h1 : -9223372036854775808 ≤ x) (h2 : x ≤ 9223372036854775807) :
    Calls Tryd.prog 33 #[.int .i64 x] w fun e w' => ∃ A' c', e = .returned (.slice A' (PNum.sev (PNum.zig x)).length c') ∧
      w'.ownsRow w.heap.size 5 1 (.slice A' (PNum.sev (PNum.zig x)).length c') (PNum.sev (PNum.zig x)).length (bs (PNum.sev (PNum.zig x))) ∧ Below w.heap.size w w' := by
  have hz := PNum.zig_lt x h1 h2
  have hten := PNum.sev_ten _ hz
  have HT := Lib.hid hten; clear hten
  have HZ := Lib.hid hz; clear hz
  have hpos : ¬ x < 0 → IntKind.u64.wrap (IntKind.u64.wrap x * 2) = ((PNum.zig x : Nat) : Int) := by
    intro h
    rw [IntKind.wrap_u64, IntKind.wrap_u64]; unfold PNum.zig; rw [if_neg h]; omega
  have hneg : x < 0 → bits .xor .u64 IntKind.u64.max (IntKind.u64.wrap (IntKind.u64.wrap x * 2)) = ((PNum.zig x : Nat) : Int) := by
    intro h; rw [Lib.zigzag_neg h1 h, zig_lib]
  have hdbl : ¬ x < 0 → x * 2 = ((PNum.zig x : Nat) : Int) := by intro h; unfold PNum.zig; rw [if_neg h]; omega
  have HD := Lib.hid hdbl; clear hdbl
  generalize PNum.zig x = U at *
  by_cases hn : x < 0
  all_goals
    first | (have hU := hneg hn) | (have hU := hpos hn)
    clear hpos hneg
    go_enter Tryd.func33, Tryd.ntmps33
    go_wp2
    clear hU
    go_loopw [3, 4] (fun s3 s4 wr => ∃ (A' : Option Addr) (c' n' v : Nat) (m : List Int), s4 = .slice A' n' c' ∧ s3 = .int .u64 v ∧ v < 18446744073709551616 ∧ n' ≤ 10 ∧
        wr.ownsRow w.heap.size 5 1 (.slice A' n' c') n' (bs m) ∧ n' + (PNum.sev v).length = (PNum.sev U).length ∧ m ++ PNum.sev v = PNum.sev U ∧ Below w.heap.size w wr)
      (fun s3 _ _ => (intOf s3).toNat)
    case atStart => exact ⟨none, 0, 0, U, [], rfl, by first | rfl | exact congrArg (Value.int .u64) (HD.out hn), HZ.out, by omega, World.ownsRow_nil _ _ _ _, by simp, rfl, Below.refl _ _⟩
    case round =>
      obtain ⟨A', c', n', v, m, rfl, rfl, hv, hn', hown', hlen, hm, hbel⟩ := hrel
      have hq : IntKind.u64.wrap ((v : Int) / 128) = ((v / 128 : Nat) : Int) := by rw [IntKind.wrap_u64]; omega
      have HV := Lib.hid hv; clear hv
      have HL := Lib.hid hlen; clear hlen
      have HM := Lib.hid hm; clear hm
      have hsz := hbel.size
      by_cases hlt : 128 ≤ v
      · have hs := PNum.sev_hi hlt
        have HS := Lib.hid hs; clear hs
        have hb := low_seven v
        go_wp2_with (at_builtin; go_must (refine wpList_push rfl (.tmp 14) (.tmp 19) _ rfl w.heap.size 5 _ 1 Tryd.underlying29 byte_info rfl A' c' n' (bs m) rfl hown' rfl rfl ?c2 ?c3 ?c4 ?_))
        case c2 => unfold maxLen; omega
        case c3 => omega
        case c4 => omega
        intro A2 c2 w2 hown2 hgrow2 hbel2
        go_wp2
        go_roundw
        case rel =>
          have h1 := HL.out; have h2 := HM.out; have h3 := HS.out; have h4 := HT.out
          have h5 := PNum.sev_pos (v / 128)
          rw [h3] at h1 h2
          refine ⟨A2, c2, n' + 1, v / 128, m ++ [((v % 128 + 128 : Nat) : Int)], rfl, by go_num, by have := HV.out; omega, ?_, ?_, by simp at h1; omega, by simpa using h2, hbel.trans hbel2⟩
          · simp at h1; omega
          · simpa [bs] using hown2
        case measure => simp [intOf]; omega
      · go_wp2_with (at_builtin; go_must (refine wpList_push rfl (.tmp 23) (.tmp 26) _ rfl w.heap.size 5 _ 1 Tryd.underlying29 byte_info rfl A' c' n' (bs m) rfl hown' rfl rfl ?c2 ?c3 ?c4 ?_))
        case c2 => unfold maxLen; omega
        case c3 => omega
        case c4 => omega
        intro A2 c2 w2 hown2 hgrow2 hbel2
        go_wp2
        go_ret
        have h1 := HL.out; have h2 := HM.out
        rw [PNum.sev_lo (by omega)] at h1 h2
        simp at h1
        refine ⟨A2, c2, ?_, ?_, hbel.trans hbel2⟩
        · rw [← h1]; rfl
        · rw [← h1, ← h2]
          have e : ((v : Int) % 256) = v := by omega
          simpa [bs, e] using hown2

end Go.Proofs.YtgcpofiecbpfbaaDoor

/- Contract of curfewref1's PutText. -/
namespace Go.Proofs.YtgcpofiecbpfbaaDoor
open Go.RowKit

set_option maxRecDepth 100000 in
theorem rPutText_c (w : World) (s : ByteArray) (hs : s.size ≤ 500000000000) :
    Calls Tryd.prog 52 #[.string s] w fun e w' => ∃ A' c', e = .returned (.slice A' ((PNum.sev (PNum.zig s.size)).length + s.size) c') ∧
      w'.ownsRow w.heap.size 5 1 (.slice A' ((PNum.sev (PNum.zig s.size)).length + s.size) c') ((PNum.sev (PNum.zig s.size)).length + s.size) (bs (PNum.sev (PNum.zig s.size) ++ sb s)) ∧ Below w.heap.size w w' := by
  have hz : PNum.zig s.size < 18446744073709551616 := PNum.zig_lt _ (by omega) (by omega)
  have ht := PNum.sev_ten _ hz
  have HT := Lib.hid ht; clear ht
  clear hz
  go_enter Tryd.func52, Tryd.ntmps52
  go_wp2_with fail
  refine (rPut_c w s.size (by omega) (by omega)).mono ?_
  rintro e w1 ⟨A1, c1, rfl, hown1, hb1⟩
  have hsz := hb1.size
  go_wp2_with (at_builtin; go_must (refine wpList_appStr rfl (.tmp 5) (.tmp 6) _ _ rfl w.heap.size 5 Tryd.underlying29 Tryd.underlying9 byte_info _ _ _ rfl hown1 s rfl ?c1 ?c2 ?c3 ?_))
  case c1 => have := HT.out; unfold maxLen; omega
  case c2 => have := HT.out; omega
  case c3 => omega
  intro A3 c3 w3 hown3 hg3 hb3
  go_wp2_with fail
  go_ret
  refine ⟨A3, c3, rfl, ?_, hb1.trans hb3⟩
  rw [bs_append]
  exact hown3

end Go.Proofs.YtgcpofiecbpfbaaDoor

/- Contract of the document's Entries. -/
namespace Go.Proofs.YtgcpofiecbpfbaaDoor
open Go.RowKit

/-- A block of another type, behind a call that made a row of one's own grow. -/
theorem Blk.grown_own {w w' : World} {g base k n : Nat} {t e : TypeId} {v : Value} {ys xs : List Value} (h : Blk w g t ys) (ho : w.ownsRow base e k v n xs) (hg : w.grownBy w' v.ownBlock) (hne : t ≠ e) : Blk w' g t ys := by
  refine (hg.block g h.lt ?_).trans h
  rcases ho.2 with ⟨hv, _⟩ | ⟨g', cap, cur, hv, _, hh, _⟩
  · rw [hv]; simp [Value.ownBlock]
  · rw [hv]
    simp only [Value.ownBlock]
    intro hx
    have hx : g = g' := by injection hx
    subst hx
    have := h.symm.trans hh
    simp at this
    exact hne this.2

set_option maxHeartbeats 4000000 in
set_option maxRecDepth 100000 in
theorem rEntries_c (w : World) (B : Nat) (A : Option Addr) (c n : Nat) (l : List Ent) (h : Rd w B A c 7 n (els l)) (hn : n ≤ 1000000) :
    Calls Tryd.prog 35 #[.slice A n c] w fun x w' => ∃ A' c', x = .returned (.slice A' (PEnt.encode l).length c') ∧
      w'.ownsRow w.heap.size 5 1 (.slice A' (PEnt.encode l).length c') (PEnt.encode l).length (bs (PEnt.encode l)) ∧ Below w.heap.size w w' := by
  have R0 := Lib.hid h.tight
  have HLn := Lib.hid h.elen
  clear h
  go_enter Tryd.func35, Tryd.ntmps35
  go_wp2_with fail
  go_loopw [3, 4, 5, 6, 7] (fun s3 s4 _ _ _ wr => ∃ (i m c' : Nat) (A' : Option Addr), i ≤ n ∧ m ≤ 86 * i ∧ s4 = .int .i64 i ∧ s3 = .slice A' m c' ∧ Hid ((l.take i).all PEnt.may = true) ∧
      Hid (wr.ownsRow w.heap.size 5 1 (.slice A' m c') m (bs (PEnt.enc (l.take i)))) ∧ Hid (Below w.heap.size w wr))
    (fun _ s4 _ _ _ _ => n - (intOf s4).toNat)
  case atStart => exact ⟨0, 0, 0, none, by omega, by omega, rfl, rfl, Lib.hid (by simp), Lib.hid (World.ownsRow_nil _ _ _ _), Lib.hid (Below.refl _ _)⟩
  case round =>
    obtain ⟨i, m, c1, A1, hi, hm, rfl, rfl, HA, O, BL⟩ := hrel
    by_cases hlt : i < n
    · obtain ⟨b, o, e, rfl, -, he, hmem, d0, d1, d2, d3, d4, d5, d6⟩ := (R0.out.below BL.out).ent hlt
      have HE := Lib.hid he
      have HM := Lib.hid hmem
      clear he hmem
      go_wp2_with fail
      clear d0 d1 d2 d3 d4 d5 d6
      have b1 := (Below.refl wr.heap.size wr).alloc (Nat.le_refl _) (.cells #[.int .i64 e.fr, .int .i64 e.boot, .int .i64 e.seq, .int .i64 e.ord, .int .i64 e.lev, .int .i64 e.stamp, .string e.data] 38)
      have K1 := Blk.newEnt wr 38 e
      generalize wr.alloc (.cells #[.int .i64 e.fr, .int .i64 e.boot, .int .i64 e.seq, .int .i64 e.ord, .int .i64 e.lev, .int .i64 e.stamp, .string e.data] 38) = w1 at *
      cases hy : PEnt.may e
      · have HB := Lib.hid (encode_bad HM.out hy)
        refine (rMay_c w1 e).mono ?_
        rw [hy]
        rintro x w2 ⟨rfl, b2⟩
        have B2 := Lib.hid ((BL.out.trans (b1.mono BL.out.size)).trans (b2.mono (Nat.le_trans BL.out.size b1.size)))
        clear b1 b2 K1 hy
        go_wp2_with fail
        go_ret
        refine ⟨none, 0, ?_, ?_, B2.out⟩
        · rw [HB.out]; rfl
        · rw [HB.out]; exact World.ownsRow_nil _ _ _ _
      · have hmay := (PEnt.may_iff e).1 hy
        have HS1 := Lib.hid (show (l.take (i + 1)).all PEnt.may = true by rw [all_snoc HE.out, HA.out, hy]; rfl)
        have HS2 := Lib.hid (enc_snoc HE.out)
        have HY := Lib.hid hmay
        refine (rMay_c w1 e).mono ?_
        rw [hy]
        rintro x w2 ⟨rfl, b2⟩
        have B2 := Lib.hid ((BL.out.trans (b1.mono BL.out.size)).trans (b2.mono (Nat.le_trans BL.out.size b1.size)))
        have O2 := Lib.hid (own_below (own_below O.out b1) b2)
        have K2 := Lib.hid (K1.past b2)
        obtain ⟨d0, d1, d2, d3, d4, d5, d6⟩ := K2.out.ent
        generalize wr.heap.size = g5 at *
        clear b1 b2 K1 hy hmay O BL
        have HNF := Lib.hid (PEnt.nums_fit HY.out.fit)
        have HL := Lib.hid (show (PEnt.nums e).length = 6 from rfl)
        have R6 := Lib.hid (show Blk (w2.alloc (.cells #[.int .i64 e.fr, .int .i64 e.boot, .int .i64 e.seq, .int .i64 e.ord, .int .i64 e.lev, .int .i64 e.stamp] 2)) w2.heap.size 2 (is (PEnt.nums e)) from
          Blk.new w2 #[.int .i64 e.fr, .int .i64 e.boot, .int .i64 e.seq, .int .i64 e.ord, .int .i64 e.lev, .int .i64 e.stamp] 2)
        have B3 := Lib.hid (B2.out.alloc B2.out.size (.cells #[.int .i64 e.fr, .int .i64 e.boot, .int .i64 e.seq, .int .i64 e.ord, .int .i64 e.lev, .int .i64 e.stamp] 2))
        have O3 := Lib.hid (own_below O2.out ((Below.refl _ w2).alloc (Nat.le_refl _) (.cells #[.int .i64 e.fr, .int .i64 e.boot, .int .i64 e.seq, .int .i64 e.ord, .int .i64 e.lev, .int .i64 e.stamp] 2)))
        have K3 := Lib.hid (K2.out.alloc (.cells #[.int .i64 e.fr, .int .i64 e.boot, .int .i64 e.seq, .int .i64 e.ord, .int .i64 e.lev, .int .i64 e.stamp] 2))
        clear B2 O2 K2
        go_wp2_with fail
        clear d0 d1 d2 d3 d4 d5 d6
        generalize w2.alloc (.cells #[.int .i64 e.fr, .int .i64 e.boot, .int .i64 e.seq, .int .i64 e.ord, .int .i64 e.lev, .int .i64 e.stamp] 2) = w3 at *
        generalize w2.heap.size = g6 at *
        go_loopw [3, 7] (fun s3 s7 wk => ∃ (k q c' : Nat) (A' : Option Addr), k ≤ 6 ∧ q ≤ 86 * i + 10 * k ∧ s7 = .int .i64 k ∧ s3 = .slice A' q c' ∧
            Hid (wk.ownsRow w.heap.size 5 1 (.slice A' q c') q (bs (PEnt.enc (l.take i) ++ PEnt.encN ((PEnt.nums e).take k)))) ∧ Hid (Blk wk g6 2 (is (PEnt.nums e))) ∧ Hid (Blk wk g5 38 (ecs e)) ∧ Hid (Below w.heap.size w wk))
          (fun _ s7 _ => 6 - (intOf s7).toNat)
        case atStart => exact ⟨0, m, c1, A1, by omega, by omega, rfl, rfl, Lib.hid (by simpa [PEnt.encN] using O3.out), R6, K3, B3⟩
        case round =>
          clear R6 K3 B3 O3
          obtain ⟨k, q, c2, A2, hk, hq, rfl, rfl, O4, R4, K4, B4⟩ := hrel
          by_cases hk6 : k < 6
          · obtain ⟨x, hx2⟩ : ∃ x, (PEnt.nums e)[k]? = some x := ⟨_, List.getElem?_eq_getElem (by rw [HL.out]; exact hk6)⟩
            have hcx := R4.out.cell (i := k) (u := .int .i64 x) (by rw [is, List.getElem?_map, hx2]; rfl)
            have hxf := HNF.out x (List.mem_of_getElem? hx2)
            have HS := Lib.hid (encN_snoc hx2)
            have ht := PNum.sev_ten (PNum.zig x) (PNum.zig_lt x hxf.1 hxf.2)
            have HT := Lib.hid ht
            have HFX := Lib.hid hxf
            clear hx2 ht hxf
            go_wp2_with fail
            refine (rPut_c wr x HFX.out.1 HFX.out.2).mono ?_
            rintro y w4 ⟨A5, c5, rfl, hown, b5⟩
            have R5 := Lib.hid (Rd.of_own hown)
            have B5 := Lib.hid (B4.out.trans (b5.mono B4.out.size))
            have O5 := Lib.hid (own_below O4.out b5)
            have R45 := Lib.hid (R4.out.past b5)
            have K5 := Lib.hid (K4.out.past b5)
            clear hown b5 R4 O4 K4 B4 hcx
            generalize hj : (PNum.sev (PNum.zig x)).length = j at *
            clear hj
            go_wp2_with (at_builtin; go_must (refine wpList_app rfl (.tmp 40) (.tmp 45) _ rfl w.heap.size 5 _ 1 1 Tryd.underlying29 byte_info rfl (by omega) _ q _ rfl O5.out _ A5 c5 j (bs (PNum.sev (PNum.zig x))) rfl R5.out (bs_one _) ?c1 ?c2 ?c3 ?_))
            case c1 => have := HT.out; unfold maxLen; omega
            case c2 => have := HT.out; omega
            case c3 => exact B5.out.size
            intro A6 c6 w6 hown6 hgrow6 hbel6
            have R6 := Lib.hid (R45.out.grown_own O5.out hgrow6 (by decide))
            have K6 := Lib.hid (K5.out.grown_own O5.out hgrow6 (by decide))
            have B6 := Lib.hid (B5.out.trans hbel6)
            have O6 := Lib.hid hown6
            clear hown6 hgrow6 hbel6 R45 K5 B5 O5 R5
            go_wp2_with fail
            go_roundw
            case rel => exact ⟨k + 1, q + j, c6, A6, by omega, by have := HT.out; omega, by go_num, rfl, Lib.hid (by rw [HS.out, ← List.append_assoc, bs_append]; exact O6.out), R6, K6, B6⟩
            case measure => simp [intOf]; omega
          · obtain rfl : k = 6 := by omega
            have hN : (PEnt.nums e).take 6 = PEnt.nums e := List.take_of_length_le (by rw [HL.out]; omega)
            rw [hN] at O4
            obtain ⟨-, -, -, -, -, -, d6⟩ := K4.out.ent
            have hd16 := HY.out.2.2.2.2.2.2
            have HD16 := Lib.hid hd16
            have ht := PNum.sev_ten (PNum.zig e.data.size) (PNum.zig_lt _ (by omega) (by omega))
            have HT := Lib.hid ht
            clear hN hd16 ht R4 K4
            go_wp2_with fail
            refine (rPutText_c wr e.data (by have := HD16.out; omega)).mono ?_
            rintro y w4 ⟨A5, c5, rfl, hown, b5⟩
            have R5 := Lib.hid (Rd.of_own hown)
            have B5 := Lib.hid (B4.out.trans (b5.mono B4.out.size))
            have O5 := Lib.hid (own_below O4.out b5)
            clear hown b5 O4 B4 d6
            generalize hj : (PNum.sev (PNum.zig e.data.size)).length + e.data.size = j at *
            have HJ := Lib.hid (show j ≤ 26 by have := HT.out; have := HD16.out; omega)
            clear hj
            go_wp2_with (at_builtin; go_must (refine wpList_app rfl (.tmp 47) (.tmp 50) _ rfl w.heap.size 5 _ 1 1 Tryd.underlying29 byte_info rfl (by omega) _ q _ rfl O5.out _ A5 c5 j _ rfl R5.out (bs_one _) ?c1 ?c2 ?c3 ?_))
            case c1 => have := HJ.out; unfold maxLen; omega
            case c2 => have := HJ.out; omega
            case c3 => exact B5.out.size
            intro A6 c6 w6 hown6 hgrow6 hbel6
            have B6 := Lib.hid (B5.out.trans hbel6)
            have O6 := Lib.hid hown6
            clear hown6 hgrow6 hbel6 B5 O5 R5
            go_wp2_with fail
            go_roundw
            case rel => exact ⟨i + 1, q + j, c6, A6, by omega, by have := HJ.out; omega, by go_num, rfl, HS1, Lib.hid (by
              rw [HS2.out]; show World.ownsRow _ _ _ _ _ _ (bs (_ ++ (PEnt.encN (PEnt.nums e) ++ _)))
              rw [← List.append_assoc, bs_append]; exact O6.out), B6⟩
            case measure => simp [intOf]; omega
    · obtain rfl : i = n := by omega
      have ht : l.take i = l := List.take_of_length_le (by rw [HLn.out]; omega)
      rw [ht] at HA O
      have HG := Lib.hid (encode_good HA.out)
      have hl := O.out.1
      rw [bs_length] at hl
      have HL2 := Lib.hid (show (PEnt.enc l).length = m by omega)
      clear ht hl
      go_wp2_with fail
      go_ret
      refine ⟨A1, c1, ?_, ?_, BL.out⟩
      · rw [HG.out, HL2.out]; rfl
      · rw [HG.out, HL2.out]; exact O.out
end Go.Proofs.YtgcpofiecbpfbaaDoor

/- Contract of the document's Bytes. -/
namespace Go.Proofs.YtgcpofiecbpfbaaDoor
open Go.RowKit

set_option maxHeartbeats 8000000 in
set_option maxRecDepth 100000 in
theorem rBytes_c (w : World) (m : Msg) (A : Option Addr) (c : Nat) (h : Rd w w.heap.size A c 7 m.es.length (els m.es)) :
    Calls Tryd.prog 16 #[mv m A c] w fun x w' => ∃ (A' : Option Addr) (c' : Nat), x = .returned (.slice A' (PMsg.enc m).length c') ∧
      w'.ownsRow w.heap.size 5 1 (.slice A' (PMsg.enc m).length c') (PMsg.enc m).length (bs (PMsg.enc m)) ∧ Below w.heap.size w w' := by
  have b1 := (Below.refl w.heap.size w).alloc (Nat.le_refl _) (.cells #[.int .i64 m.kind, .int .i64 m.fr, .int .i64 m.dst, .int .i64 m.boot, .int .i64 m.view, .int .i64 m.last, .int .i64 m.mem, .int .i64 m.pos, .slice A m.es.length c, .int .i64 m.com, .int .i64 m.num, .int .i64 m.clk, .bool m.yes] 24)
  have K0 := Blk.new w #[.int .i64 m.kind, .int .i64 m.fr, .int .i64 m.dst, .int .i64 m.boot, .int .i64 m.view, .int .i64 m.last, .int .i64 m.mem, .int .i64 m.pos, .slice A m.es.length c, .int .i64 m.com, .int .i64 m.num, .int .i64 m.clk, .bool m.yes] 24
  have R0 := Lib.hid h
  have HL := Lib.hid (PMsg.ns_length m)
  clear h
  show Calls _ _ #[.agg #[.int .i64 m.kind, .int .i64 m.fr, .int .i64 m.dst, .int .i64 m.boot, .int .i64 m.view, .int .i64 m.last, .int .i64 m.mem, .int .i64 m.pos, .slice A m.es.length c, .int .i64 m.com, .int .i64 m.num, .int .i64 m.clk, .bool m.yes]] _ _
  go_enter Tryd.func16, Tryd.ntmps16
  go_wp2_with fail
  generalize w.alloc (.cells #[.int .i64 m.kind, .int .i64 m.fr, .int .i64 m.dst, .int .i64 m.boot, .int .i64 m.view, .int .i64 m.last, .int .i64 m.mem, .int .i64 m.pos, .slice A m.es.length c, .int .i64 m.com, .int .i64 m.num, .int .i64 m.clk, .bool m.yes] 24) = w1 at *
  have BL1 := Lib.hid b1
  have K1 := Lib.hid (show Blk w1 w.heap.size 24 (mcs m A c) from K0)
  clear b1 K0
  refine (rMayM_c w1 m A c ((R0.out.past BL1.out).tight)).mono ?_
  cases hy : PMsg.may m
  · have HE := Lib.hid (PMsg.enc_no hy)
    rintro x w2 ⟨rfl, b2⟩
    have B2 := Lib.hid (BL1.out.trans (b2.mono BL1.out.size))
    clear b2 hy K1
    go_wp2_with fail
    go_ret
    exact ⟨none, 0, by rw [HE.out]; rfl, by rw [HE.out]; exact World.ownsRow_nil _ _ _ _, B2.out⟩
  · have HE := Lib.hid (PMsg.enc_yes hy)
    have hM := (PMsg.may_iff m).1 hy
    have HNF := Lib.hid (PMsg.ns_fit hM)
    have HES := Lib.hid hM.2.2.2.2.2.2.2.2.2.2.2.2
    have HBL := Lib.hid (PMsg.body_len hM)
    have HBD := Lib.hid (show PMsg.body m = PEnt.encN (PMsg.ns m) ++ PEnt.enc m.es from rfl)
    have HBB := Lib.hid (PMsg.body_byte m)
    rintro x w2 ⟨rfl, b2⟩
    have BL2 := Lib.hid (BL1.out.trans (b2.mono BL1.out.size))
    have K2 := Lib.hid (K1.out.past b2)
    clear b2 hy hM K1 BL1
    have c0 := K2.out.cell (i := 0) rfl
    have c1 := K2.out.cell (i := 1) rfl
    have c2 := K2.out.cell (i := 2) rfl
    have c3 := K2.out.cell (i := 3) rfl
    have c4 := K2.out.cell (i := 4) rfl
    have c5 := K2.out.cell (i := 5) rfl
    have c6 := K2.out.cell (i := 6) rfl
    have c7 := K2.out.cell (i := 7) rfl
    have c8 := K2.out.cell (i := 8) rfl
    have c9 := K2.out.cell (i := 9) rfl
    have c10 := K2.out.cell (i := 10) rfl
    have c11 := K2.out.cell (i := 11) rfl
    have c12 := K2.out.cell (i := 12) rfl
    have HNS := Lib.hid (show PMsg.ns m = [m.kind, m.fr, m.dst, m.boot, m.view, m.last, m.mem, m.pos, m.com, m.num, m.clk, PMsg.bit m.yes, (m.es.length : Int)] from rfl)
    generalize PMsg.ns m = N at *
    generalize PMsg.body m = Y at *
    cases hyes : m.yes
    · rw [hyes] at c12
      have HNV := Lib.hid (show is N = [.int .i64 m.kind, .int .i64 m.fr, .int .i64 m.dst, .int .i64 m.boot, .int .i64 m.view, .int .i64 m.last, .int .i64 m.mem, .int .i64 m.pos, .int .i64 m.com, .int .i64 m.num, .int .i64 m.clk, .int .i64 0, .int .i64 (m.es.length : Int)] by rw [HNS.out, hyes]; rfl)
      have B3 := Lib.hid (BL2.out.alloc BL2.out.size (.cells #[.int .i64 m.kind, .int .i64 m.fr, .int .i64 m.dst, .int .i64 m.boot, .int .i64 m.view, .int .i64 m.last, .int .i64 m.mem, .int .i64 m.pos, .int .i64 m.com, .int .i64 m.num, .int .i64 m.clk, .int .i64 0, .int .i64 (m.es.length : Int)] 2))
      have K3 := Lib.hid (K2.out.alloc (.cells #[.int .i64 m.kind, .int .i64 m.fr, .int .i64 m.dst, .int .i64 m.boot, .int .i64 m.view, .int .i64 m.last, .int .i64 m.mem, .int .i64 m.pos, .int .i64 m.com, .int .i64 m.num, .int .i64 m.clk, .int .i64 0, .int .i64 (m.es.length : Int)] 2))
      have R3 := Lib.hid (show Blk (w2.alloc (.cells #[.int .i64 m.kind, .int .i64 m.fr, .int .i64 m.dst, .int .i64 m.boot, .int .i64 m.view, .int .i64 m.last, .int .i64 m.mem, .int .i64 m.pos, .int .i64 m.com, .int .i64 m.num, .int .i64 m.clk, .int .i64 0, .int .i64 (m.es.length : Int)] 2)) w2.heap.size 2 (is N) by rw [HNV.out]; exact Blk.new w2 #[.int .i64 m.kind, .int .i64 m.fr, .int .i64 m.dst, .int .i64 m.boot, .int .i64 m.view, .int .i64 m.last, .int .i64 m.mem, .int .i64 m.pos, .int .i64 m.com, .int .i64 m.num, .int .i64 m.clk, .int .i64 0, .int .i64 (m.es.length : Int)] 2)
      clear hyes
      go_wp2_with fail
      clear c0 c1 c2 c3 c4 c5 c6 c7 c8 c9 c10 c11 c12 K2 BL2 HNV HNS
      generalize w2.alloc (.cells #[.int .i64 m.kind, .int .i64 m.fr, .int .i64 m.dst, .int .i64 m.boot, .int .i64 m.view, .int .i64 m.last, .int .i64 m.mem, .int .i64 m.pos, .int .i64 m.com, .int .i64 m.num, .int .i64 m.clk, .int .i64 0, .int .i64 (m.es.length : Int)] 2) = w3 at *
      generalize w2.heap.size = g6 at *
      go_loopw [5, 6] (fun s5 s6 wr => ∃ (i q c' : Nat) (A' : Option Addr), i ≤ 13 ∧ q ≤ 10 * i ∧ s6 = .int .i64 i ∧ s5 = .slice A' q c' ∧ Hid (wr.ownsRow w.heap.size 5 1 (.slice A' q c') q (bs (PEnt.encN (N.take i)))) ∧ Hid (Below w.heap.size w wr) ∧ Hid (Blk wr w.heap.size 24 (mcs m A c)) ∧ Hid (Blk wr g6 2 (is N)))
        (fun _ s6 _ => 13 - (intOf s6).toNat)
      case atStart => exact ⟨0, 0, 0, none, by omega, by omega, rfl, rfl, Lib.hid (World.ownsRow_nil _ _ _ _), B3, K3, R3⟩
      case round =>
        clear B3 K3 R3
        obtain ⟨i, q, c1, A1, hi, hq, rfl, rfl, O, B, K, R⟩ := hrel
        by_cases hlt : i < 13
        · obtain ⟨x, hx⟩ : ∃ x, N[i]? = some x := ⟨_, List.getElem?_eq_getElem (by rw [HL.out]; exact hlt)⟩
          have hcx := R.out.cell (i := i) (u := .int .i64 x) (by rw [is, List.getElem?_map, hx]; rfl)
          have hxf := HNF.out x (List.mem_of_getElem? hx)
          have HS := Lib.hid (encN_snoc hx)
          have ht := PNum.sev_ten (PNum.zig x) (PNum.zig_lt x hxf.1 hxf.2)
          have HT1 := Lib.hid ht
          have HFX := Lib.hid hxf
          clear hx ht hxf
          go_wp2_with fail
          refine (rPut_c wr x HFX.out.1 HFX.out.2).mono ?_
          rintro e w4 ⟨A5, c5, rfl, hown, b5⟩
          have R5 := Lib.hid (Rd.of_own hown)
          have B5 := Lib.hid (B.out.trans (b5.mono B.out.size))
          have O5 := Lib.hid (own_below O.out b5)
          have K5 := Lib.hid (K.out.past b5)
          have G5 := Lib.hid (R.out.past b5)
          clear hown b5 O B K R hcx
          generalize hj : (PNum.sev (PNum.zig x)).length = j at *
          clear hj
          go_wp2_with (at_builtin; go_must (refine wpList_app rfl (.tmp 45) (.tmp 50) _ rfl w.heap.size 5 _ 1 1 Tryd.underlying29 byte_info rfl (by omega) _ q _ rfl O5.out _ A5 c5 j (bs (PNum.sev (PNum.zig x))) rfl R5.out (bs_one _) ?c1 ?c2 ?c3 ?_))
          case c1 => have := HT1.out; unfold maxLen; omega
          case c2 => have := HT1.out; omega
          case c3 => exact B5.out.size
          intro A6 c6 w6 hown6 hgrow6 hbel6
          have K6 := Lib.hid (K5.out.grown_own O5.out hgrow6 (by decide))
          have G6 := Lib.hid (G5.out.grown_own O5.out hgrow6 (by decide))
          have B6 := Lib.hid (B5.out.trans hbel6)
          have O6 := Lib.hid hown6
          clear hown6 hgrow6 hbel6 K5 G5 B5 O5 R5
          go_wp2_with fail
          go_roundw
          case rel => exact ⟨i + 1, q + j, c6, A6, by omega, by have := HT1.out; omega, by go_num, rfl, Lib.hid (by rw [HS.out, bs_append]; exact O6.out), B6, K6, G6⟩
          case measure => simp [intOf]; omega
        · obtain rfl : i = 13 := by omega
          have hN : N.take 13 = N := List.take_of_length_le (by rw [HL.out]; omega)
          rw [hN] at O
          have c8 := K.out.cell (i := 8) rfl
          have RE := Lib.hid ((R0.out.past B.out).tight)
          clear hN K R
          go_wp2_with fail
          clear c8
          refine (rEntries_c wr _ A c m.es.length m.es RE.out (by have := HES.out.1; omega)).mono ?_
          rw [encode_good HES.out.2]
          rintro e w2 ⟨A2, c2, rfl, hown, b2⟩
          have B2 := Lib.hid (B.out.trans (b2.mono B.out.size))
          have O2 := Lib.hid (own_below O.out b2)
          have R2 := Lib.hid (Rd.of_own hown)
          have HQ := Lib.hid (show q + (PEnt.enc m.es).length = Y.length by
            rw [HBD.out, List.length_append]
            have := (Rd.of_own O.out).blen
            omega)
          have HYL := HBL.out
          clear hown b2 O B RE
          generalize hj : (PEnt.enc m.es).length = j at *
          have HJ := Lib.hid (show j ≤ 5290 by have := HQ.out; omega)
          clear hj
          go_wp2_with (at_builtin; go_must (refine wpList_app rfl (.tmp 52) (.tmp 55) _ rfl w.heap.size 5 _ 1 1 Tryd.underlying29 byte_info rfl (by omega) _ q _ rfl O2.out _ A2 c2 j _ rfl R2.out (bs_one _) ?c1 ?c2 ?c3 ?_))
          case c1 => have := HJ.out; unfold maxLen; omega
          case c2 => have := HJ.out; omega
          case c3 => exact B2.out.size
          intro A6 c6 w6 hown6 hgrow6 hbel6
          have B6 := Lib.hid (B2.out.trans hbel6)
          rw [← bs_append, ← HBD.out, HQ.out] at hown6
          have R6 := Lib.hid (Rd.of_own hown6)
          have hq2 := HQ.out
          clear hown6 hgrow6 hbel6 B2 O2 R2
          go_wp2_with fail
          rw [hq2]
          refine (rSeal_c w6 _ A6 c6 Y.length Y R6.out HBB.out (by omega)).mono ?_
          rintro e w7 ⟨A7, c7, rfl, hown, b7⟩
          have B7 := Lib.hid (B6.out.trans (b7.mono B6.out.size))
          have O7 := Lib.hid (own_from hown B6.out.size)
          have HEL := Lib.hid (show (PMsg.enc m).length = Y.length + 4 by rw [HE.out, sealed_length])
          clear hown b7
          go_wp2_with fail
          go_ret
          refine ⟨A7, c7, by rw [HEL.out]; rfl, ?_, B7.out⟩
          rw [HEL.out, HE.out]
          exact O7.out
    · rw [hyes] at c12
      have HNV := Lib.hid (show is N = [.int .i64 m.kind, .int .i64 m.fr, .int .i64 m.dst, .int .i64 m.boot, .int .i64 m.view, .int .i64 m.last, .int .i64 m.mem, .int .i64 m.pos, .int .i64 m.com, .int .i64 m.num, .int .i64 m.clk, .int .i64 1, .int .i64 (m.es.length : Int)] by rw [HNS.out, hyes]; rfl)
      have B3 := Lib.hid (BL2.out.alloc BL2.out.size (.cells #[.int .i64 m.kind, .int .i64 m.fr, .int .i64 m.dst, .int .i64 m.boot, .int .i64 m.view, .int .i64 m.last, .int .i64 m.mem, .int .i64 m.pos, .int .i64 m.com, .int .i64 m.num, .int .i64 m.clk, .int .i64 1, .int .i64 (m.es.length : Int)] 2))
      have K3 := Lib.hid (K2.out.alloc (.cells #[.int .i64 m.kind, .int .i64 m.fr, .int .i64 m.dst, .int .i64 m.boot, .int .i64 m.view, .int .i64 m.last, .int .i64 m.mem, .int .i64 m.pos, .int .i64 m.com, .int .i64 m.num, .int .i64 m.clk, .int .i64 1, .int .i64 (m.es.length : Int)] 2))
      have R3 := Lib.hid (show Blk (w2.alloc (.cells #[.int .i64 m.kind, .int .i64 m.fr, .int .i64 m.dst, .int .i64 m.boot, .int .i64 m.view, .int .i64 m.last, .int .i64 m.mem, .int .i64 m.pos, .int .i64 m.com, .int .i64 m.num, .int .i64 m.clk, .int .i64 1, .int .i64 (m.es.length : Int)] 2)) w2.heap.size 2 (is N) by rw [HNV.out]; exact Blk.new w2 #[.int .i64 m.kind, .int .i64 m.fr, .int .i64 m.dst, .int .i64 m.boot, .int .i64 m.view, .int .i64 m.last, .int .i64 m.mem, .int .i64 m.pos, .int .i64 m.com, .int .i64 m.num, .int .i64 m.clk, .int .i64 1, .int .i64 (m.es.length : Int)] 2)
      clear hyes
      go_wp2_with fail
      clear c0 c1 c2 c3 c4 c5 c6 c7 c8 c9 c10 c11 c12 K2 BL2 HNV HNS
      generalize w2.alloc (.cells #[.int .i64 m.kind, .int .i64 m.fr, .int .i64 m.dst, .int .i64 m.boot, .int .i64 m.view, .int .i64 m.last, .int .i64 m.mem, .int .i64 m.pos, .int .i64 m.com, .int .i64 m.num, .int .i64 m.clk, .int .i64 1, .int .i64 (m.es.length : Int)] 2) = w3 at *
      generalize w2.heap.size = g6 at *
      go_loopw [5, 6] (fun s5 s6 wr => ∃ (i q c' : Nat) (A' : Option Addr), i ≤ 13 ∧ q ≤ 10 * i ∧ s6 = .int .i64 i ∧ s5 = .slice A' q c' ∧ Hid (wr.ownsRow w.heap.size 5 1 (.slice A' q c') q (bs (PEnt.encN (N.take i)))) ∧ Hid (Below w.heap.size w wr) ∧ Hid (Blk wr w.heap.size 24 (mcs m A c)) ∧ Hid (Blk wr g6 2 (is N)))
        (fun _ s6 _ => 13 - (intOf s6).toNat)
      case atStart => exact ⟨0, 0, 0, none, by omega, by omega, rfl, rfl, Lib.hid (World.ownsRow_nil _ _ _ _), B3, K3, R3⟩
      case round =>
        clear B3 K3 R3
        obtain ⟨i, q, c1, A1, hi, hq, rfl, rfl, O, B, K, R⟩ := hrel
        by_cases hlt : i < 13
        · obtain ⟨x, hx⟩ : ∃ x, N[i]? = some x := ⟨_, List.getElem?_eq_getElem (by rw [HL.out]; exact hlt)⟩
          have hcx := R.out.cell (i := i) (u := .int .i64 x) (by rw [is, List.getElem?_map, hx]; rfl)
          have hxf := HNF.out x (List.mem_of_getElem? hx)
          have HS := Lib.hid (encN_snoc hx)
          have ht := PNum.sev_ten (PNum.zig x) (PNum.zig_lt x hxf.1 hxf.2)
          have HT1 := Lib.hid ht
          have HFX := Lib.hid hxf
          clear hx ht hxf
          go_wp2_with fail
          refine (rPut_c wr x HFX.out.1 HFX.out.2).mono ?_
          rintro e w4 ⟨A5, c5, rfl, hown, b5⟩
          have R5 := Lib.hid (Rd.of_own hown)
          have B5 := Lib.hid (B.out.trans (b5.mono B.out.size))
          have O5 := Lib.hid (own_below O.out b5)
          have K5 := Lib.hid (K.out.past b5)
          have G5 := Lib.hid (R.out.past b5)
          clear hown b5 O B K R hcx
          generalize hj : (PNum.sev (PNum.zig x)).length = j at *
          clear hj
          go_wp2_with (at_builtin; go_must (refine wpList_app rfl (.tmp 45) (.tmp 50) _ rfl w.heap.size 5 _ 1 1 Tryd.underlying29 byte_info rfl (by omega) _ q _ rfl O5.out _ A5 c5 j (bs (PNum.sev (PNum.zig x))) rfl R5.out (bs_one _) ?c1 ?c2 ?c3 ?_))
          case c1 => have := HT1.out; unfold maxLen; omega
          case c2 => have := HT1.out; omega
          case c3 => exact B5.out.size
          intro A6 c6 w6 hown6 hgrow6 hbel6
          have K6 := Lib.hid (K5.out.grown_own O5.out hgrow6 (by decide))
          have G6 := Lib.hid (G5.out.grown_own O5.out hgrow6 (by decide))
          have B6 := Lib.hid (B5.out.trans hbel6)
          have O6 := Lib.hid hown6
          clear hown6 hgrow6 hbel6 K5 G5 B5 O5 R5
          go_wp2_with fail
          go_roundw
          case rel => exact ⟨i + 1, q + j, c6, A6, by omega, by have := HT1.out; omega, by go_num, rfl, Lib.hid (by rw [HS.out, bs_append]; exact O6.out), B6, K6, G6⟩
          case measure => simp [intOf]; omega
        · obtain rfl : i = 13 := by omega
          have hN : N.take 13 = N := List.take_of_length_le (by rw [HL.out]; omega)
          rw [hN] at O
          have c8 := K.out.cell (i := 8) rfl
          have RE := Lib.hid ((R0.out.past B.out).tight)
          clear hN K R
          go_wp2_with fail
          clear c8
          refine (rEntries_c wr _ A c m.es.length m.es RE.out (by have := HES.out.1; omega)).mono ?_
          rw [encode_good HES.out.2]
          rintro e w2 ⟨A2, c2, rfl, hown, b2⟩
          have B2 := Lib.hid (B.out.trans (b2.mono B.out.size))
          have O2 := Lib.hid (own_below O.out b2)
          have R2 := Lib.hid (Rd.of_own hown)
          have HQ := Lib.hid (show q + (PEnt.enc m.es).length = Y.length by
            rw [HBD.out, List.length_append]
            have := (Rd.of_own O.out).blen
            omega)
          have HYL := HBL.out
          clear hown b2 O B RE
          generalize hj : (PEnt.enc m.es).length = j at *
          have HJ := Lib.hid (show j ≤ 5290 by have := HQ.out; omega)
          clear hj
          go_wp2_with (at_builtin; go_must (refine wpList_app rfl (.tmp 52) (.tmp 55) _ rfl w.heap.size 5 _ 1 1 Tryd.underlying29 byte_info rfl (by omega) _ q _ rfl O2.out _ A2 c2 j _ rfl R2.out (bs_one _) ?c1 ?c2 ?c3 ?_))
          case c1 => have := HJ.out; unfold maxLen; omega
          case c2 => have := HJ.out; omega
          case c3 => exact B2.out.size
          intro A6 c6 w6 hown6 hgrow6 hbel6
          have B6 := Lib.hid (B2.out.trans hbel6)
          rw [← bs_append, ← HBD.out, HQ.out] at hown6
          have R6 := Lib.hid (Rd.of_own hown6)
          have hq2 := HQ.out
          clear hown6 hgrow6 hbel6 B2 O2 R2
          go_wp2_with fail
          rw [hq2]
          refine (rSeal_c w6 _ A6 c6 Y.length Y R6.out HBB.out (by omega)).mono ?_
          rintro e w7 ⟨A7, c7, rfl, hown, b7⟩
          have B7 := Lib.hid (B6.out.trans (b7.mono B6.out.size))
          have O7 := Lib.hid (own_from hown B6.out.size)
          have HEL := Lib.hid (show (PMsg.enc m).length = Y.length + 4 by rw [HE.out, sealed_length])
          clear hown b7
          go_wp2_with fail
          go_ret
          refine ⟨A7, c7, by rw [HEL.out]; rfl, ?_, B7.out⟩
          rw [HEL.out, HE.out]
          exact O7.out
end Go.Proofs.YtgcpofiecbpfbaaDoor

/- Contract of the statements' Cut. -/
namespace Go.Proofs.YtgcpofiecbpfbaaDoor
open Go.RowKit

theorem Cut_c (w : World) (s : ByteArray) (k : Int) (h0 : 0 ≤ k) :
    Calls Tryd.prog 56 #[.string s, .int .i64 k] w fun e w' => ∃ t : ByteArray, e = .returned (.string t) ∧ w = w' ∧ (t.size : Int) ≤ k ∧ t.size ≤ s.size := by
  obtain ⟨m, rfl⟩ := Int.eq_ofNat_of_zero_le h0
  by_cases hlt : m < s.size
  · go_enter Tryd.func56, Tryd.ntmps56
    go_wp2
    go_ret
    exact ⟨_, rfl, rfl, by simp; omega, by simp; omega⟩
  · go_enter Tryd.func56, Tryd.ntmps56
    go_wp2
    go_ret
    exact ⟨s, rfl, rfl, by omega, by omega⟩

end Go.Proofs.YtgcpofiecbpfbaaDoor

/- Contracts of the statements' Cut, Entries. -/
namespace Go.Proofs.YtgcpofiecbpfbaaDoor
open Go.RowKit

set_option maxRecDepth 100000 in
theorem lCut_c (w : World) (e : Ent) : Calls Tryd.prog 40 #[ev e] w fun x w' => ∃ t : ByteArray, x = .returned (ev ⟨e.fr, e.boot, e.seq, e.ord, e.lev, e.stamp, t⟩) ∧ t.size ≤ 20 ∧ t.size ≤ e.data.size ∧ Below w.heap.size w w' := by
  obtain ⟨fr, boot, seq, ord, lev, stamp, data⟩ := e
  show Calls _ _ #[.agg #[.int .i64 fr, .int .i64 boot, .int .i64 seq, .int .i64 ord, .int .i64 lev, .int .i64 stamp, .string data]] _ _
  go_enter Tryd.func40, Tryd.ntmps40
  go_wp2_with fail
  refine (Cut_c _ data 20 (by omega)).mono ?_
  rintro x w1 ⟨t, rfl, rfl, ht1, ht2⟩
  go_wp2_with fail
  have K := Blk.newEnt (w.alloc (.cells #[.int .i64 fr, .int .i64 boot, .int .i64 seq, .int .i64 ord, .int .i64 lev, .int .i64 stamp, .string t] 38)) 38 ⟨fr, boot, seq, ord, lev, stamp, t⟩
  rw [show (w.alloc (.cells #[.int .i64 fr, .int .i64 boot, .int .i64 seq, .int .i64 ord, .int .i64 lev, .int .i64 stamp, .string t] 38)).heap.size = w.heap.size + 1 by simp] at K
  refine bodyPost_ret (v := ev ⟨fr, boot, seq, ord, lev, stamp, t⟩) (results_cell_row rfl _ _ (w.heap.size + 1) _ _ _ _ rfl K Tryd.underlying38 rfl (by kernel_rfl)) rfl ⟨t, rfl, by omega, ht2, ((Below.refl _ _).alloc (Nat.le_refl _) _).alloc (by simp) _⟩

/-- What is known of an entry of a law's own: its numbers are int64s, its text is short. -/
structure EntSm (e : Ent) : Prop where
  fit : PEnt.Fit e
  sz : e.data.size ≤ 20

set_option maxHeartbeats 4000000 in
set_option maxRecDepth 100000 in
theorem lEntries_c (w : World) (A : Option Addr) (c n : Nat) (l : List Ent) (k : Int) (h : Rd w w.heap.size A c 7 n (els l)) (hok : ∀ e ∈ l, EntOk e) (h0 : 0 ≤ k) (hk : k ≤ 1000) :
    Calls Tryd.prog 20 #[.slice A n c, .int .i64 k] w fun x w' => ∃ (A' : Option Addr) (c' : Nat) (es : List Ent), x = .returned (.slice A' es.length c') ∧ es.length = min n k.toNat ∧
      w'.ownsRow w.heap.size 38 7 (.slice A' es.length c') es.length (els es) ∧ (∀ e ∈ es, EntSm e) ∧ Below w.heap.size w w' := by
  obtain ⟨m, rfl⟩ := Int.eq_ofNat_of_zero_le h0
  have hcap := h.cap
  have hle := h.le
  have hn : n ≤ 9223372036854775807 := by unfold maxLen at hcap; omega
  have R0 := Lib.hid h
  have HOK := Lib.hid hok
  clear h hok hcap hle
  go_enter Tryd.func20, Tryd.ntmps20
  go_wp2_with fail
  go_loopw [5, 6] (fun s5 s6 wr => ∃ (i c' : Nat) (A' : Option Addr) (es : List Ent), i ≤ n ∧ i ≤ m ∧ s6 = .int .i64 i ∧ s5 = .slice A' i c' ∧ Hid (es.length = i) ∧
      Hid (wr.ownsRow w.heap.size 38 7 (.slice A' i c') i (els es)) ∧ Hid (∀ e ∈ es, EntSm e) ∧ Hid (Below w.heap.size w wr))
    (fun _ s6 _ => n - (intOf s6).toNat)
  case atStart => exact ⟨0, 0, none, [], by omega, by omega, rfl, rfl, Lib.hid rfl, Lib.hid (World.ownsRow_nil _ _ _ _), Lib.hid (by simp), Lib.hid (Below.refl _ _)⟩
  case round =>
    obtain ⟨i, c1, A1, es, hin, him, rfl, rfl, HL, O, HS, BL⟩ := hrel
    have fin : min n m = i → ∃ (A' : Option Addr) (c' : Nat) (es' : List Ent), Ending.returned (.slice A1 i c1) = .returned (.slice A' es'.length c') ∧ es'.length = min n ((m : Nat) : Int).toNat ∧
      wr.ownsRow w.heap.size 38 7 (.slice A' es'.length c') es'.length (els es') ∧ (∀ e ∈ es', EntSm e) ∧ Below w.heap.size w wr := by
      intro hm
      refine ⟨A1, c1, es, by rw [HL.out], by rw [HL.out, Int.toNat_natCast, hm], ?_, HS.out, BL.out⟩
      rw [HL.out]; exact O.out
    have FIN := Lib.hid fin
    clear fin
    by_cases h1 : i < n
    · by_cases h2 : i < m
      · obtain ⟨b, o, e, rfl, -, he, hmem, d0, d1, d2, d3, d4, d5, d6⟩ := (R0.out.below BL.out).ent h1
        have hE := HOK.out e hmem
        have HE := Lib.hid hE
        clear he hmem hE FIN
        go_wp2_with fail
        clear d0 d1 d2 d3 d4 d5 d6
        refine (lCut_c wr e).mono ?_
        simp only [ev]
        rintro x w1 ⟨t, rfl, ht1, ht2, b1⟩
        have HSm := Lib.hid (show EntSm ⟨e.fr, e.boot, e.seq, e.ord, e.lev, e.stamp, t⟩ from ⟨⟨HE.out.fit.f0, HE.out.fit.f1, HE.out.fit.f2, HE.out.fit.f3, HE.out.fit.f4, HE.out.fit.f5⟩, ht1⟩)
        have B1 := Lib.hid (BL.out.trans (b1.mono BL.out.size))
        have O1 := Lib.hid (own_below O.out b1)
        clear b1 O BL ht1 ht2
        go_wp2_with (at_builtin; go_must (refine wpList_pushes rfl (.tmp 18) (.tmp 24) _ rfl w.heap.size 38 (ev zeroE) 7 64 1 Tryd.underlying22 ent_info rfl (by omega) rfl (by unfold maxLen; omega) A1 c1 i (els es) rfl O1.out rfl ?h1 ?h2 ?h3 ?h4 ?_))
        case h1 => exact ⟨rfl, rfl, rfl, rfl, rfl, rfl, rfl⟩
        case h2 => unfold maxLen; omega
        case h3 => omega
        case h4 => exact B1.out.size
        intro A2 c2 w2 hown2 hg2 hb2
        have B2 := Lib.hid (B1.out.trans hb2)
        have O2 := Lib.hid (show w2.ownsRow w.heap.size 38 7 (.slice A2 (i + 1) c2) (i + 1) (els (es ++ [⟨e.fr, e.boot, e.seq, e.ord, e.lev, e.stamp, t⟩])) by rw [els_append]; exact hown2)
        clear hown2 hg2 hb2 B1 O1
        go_wp2_with fail
        go_roundw
        case rel => exact ⟨i + 1, c2, A2, es ++ [⟨e.fr, e.boot, e.seq, e.ord, e.lev, e.stamp, t⟩], by omega, by omega, by go_num, rfl, Lib.hid (by simp [HL.out]), O2, Lib.hid (fun y hy => by
          rcases List.mem_append.1 hy with hy | hy
          · exact HS.out y hy
          · rw [List.mem_singleton.1 hy]; exact HSm.out), B2⟩
        case measure => simp [intOf]; omega
      · go_wp2_with fail
        go_ret
        exact FIN.out (by omega)
    · go_wp2_with fail
      go_ret
      exact FIN.out (by omega)

end Go.Proofs.YtgcpofiecbpfbaaDoor

/- Contracts of the statements' Cut, tells, begun (layer 16). -/
namespace Go.Proofs.YtgcpofiecbpfbaaDoor
open Go.RowKit

theorem wDecode_some {w : World} {B : Nat} {A : Option Addr} {c n : Nat} {l : List Int} {m : Msg} (h : Rd w B A c 1 n (bs l)) (hb : isB l) (ht : Tab w) (hn : n ≤ 1000000) (hd : PMsg.dec l = some m) :
    Calls Tryd.prog 17 #[.slice A n c] w fun x w' => ∃ (A' : Option Addr) (c' : Nat), x = .returned (.tuple #[.agg #[.int .i64 m.kind, .int .i64 m.fr, .int .i64 m.dst, .int .i64 m.boot, .int .i64 m.view, .int .i64 m.last, .int .i64 m.mem, .int .i64 m.pos, .slice A' m.es.length c', .int .i64 m.com, .int .i64 m.num, .int .i64 m.clk, .bool m.yes], .int .i64 0]) ∧ Rd w' w'.heap.size A' c' 7 m.es.length (els m.es) ∧ Below w.heap.size w w' := by
  have := wDecode_c w B A c n l h hb ht hn
  rw [hd] at this
  exact this
theorem wDecode_none {w : World} {B : Nat} {A : Option Addr} {c n : Nat} {l : List Int} (h : Rd w B A c 1 n (bs l)) (hb : isB l) (ht : Tab w) (hn : n ≤ 1000000) (hd : PMsg.dec l = none) :
    Calls Tryd.prog 17 #[.slice A n c] w fun x w' => ∃ (A' : Option Addr) (c' : Nat), x = .returned (.tuple #[.agg #[.int .i64 0, .int .i64 0, .int .i64 0, .int .i64 0, .int .i64 0, .int .i64 0, .int .i64 0, .int .i64 0, .slice A' 0 c', .int .i64 0, .int .i64 0, .int .i64 0, .bool false], .int .i64 1]) ∧ Below w.heap.size w w' := by
  have := wDecode_c w B A c n l h hb ht hn
  rw [hd] at this
  exact this.mono fun x w' ⟨A', c', e, _, hb⟩ => ⟨A', c', e, hb⟩

/-- What is owned, behind a write of a block of another type. -/
theorem own_apartB {w w' : World} {base k n g : Nat} {e t : TypeId} {v : Value} {xs ys : List Value} (h : w.ownsRow base e k v n xs) (K : Blk w g t ys) (hne : t ≠ e) (hg : w.grownBy w' (some g)) : w'.ownsRow base e k v n xs :=
  own_touch h (Touch.of_grown hg) (fun s hs zs hz => by
    obtain rfl := List.mem_singleton.1 hs
    exact K.ne hz hne rfl)

/-- The same message with other entries. -/
def withE (m : Msg) (es : List Ent) : Msg := { m with es := es }

set_option maxHeartbeats 4000000 in
set_option maxRecDepth 100000 in
theorem lCutM_c (w : World) (m : Msg) (A : Option Addr) (c : Nat) (h : Rd w w.heap.size A c 7 m.es.length (els m.es)) (hok : ∀ e ∈ m.es, EntOk e) :
    Calls Tryd.prog 10 #[mv m A c] w fun x w' => ∃ (A' : Option Addr) (c' : Nat) (es : List Ent), x = .returned (mv (withE m es) A' c') ∧ es.length ≤ 62 ∧
      w'.ownsRow w.heap.size 38 7 (.slice A' es.length c') es.length (els es) ∧ (∀ e ∈ es, EntSm e) ∧ Below w.heap.size w w' := by
  have b1 := ((Below.refl w.heap.size w).alloc (Nat.le_refl _) (.cells #[.int .i64 m.kind, .int .i64 m.fr, .int .i64 m.dst, .int .i64 m.boot, .int .i64 m.view, .int .i64 m.last, .int .i64 m.mem, .int .i64 m.pos, .slice A m.es.length c, .int .i64 m.com, .int .i64 m.num, .int .i64 m.clk, .bool m.yes] 24)).alloc (by simp) (.cells #[.int .i64 0, .int .i64 0, .int .i64 0, .int .i64 0, .int .i64 0, .int .i64 0, .int .i64 0, .int .i64 0, .slice none 0 0, .int .i64 0, .int .i64 0, .int .i64 0, .bool false] 24)
  have K0 := (Blk.new w #[.int .i64 m.kind, .int .i64 m.fr, .int .i64 m.dst, .int .i64 m.boot, .int .i64 m.view, .int .i64 m.last, .int .i64 m.mem, .int .i64 m.pos, .slice A m.es.length c, .int .i64 m.com, .int .i64 m.num, .int .i64 m.clk, .bool m.yes] 24).alloc (.cells #[.int .i64 0, .int .i64 0, .int .i64 0, .int .i64 0, .int .i64 0, .int .i64 0, .int .i64 0, .int .i64 0, .slice none 0 0, .int .i64 0, .int .i64 0, .int .i64 0, .bool false] 24)
  have Z0 := Blk.new (w.alloc (.cells #[.int .i64 m.kind, .int .i64 m.fr, .int .i64 m.dst, .int .i64 m.boot, .int .i64 m.view, .int .i64 m.last, .int .i64 m.mem, .int .i64 m.pos, .slice A m.es.length c, .int .i64 m.com, .int .i64 m.num, .int .i64 m.clk, .bool m.yes] 24)) #[.int .i64 0, .int .i64 0, .int .i64 0, .int .i64 0, .int .i64 0, .int .i64 0, .int .i64 0, .int .i64 0, .slice none 0 0, .int .i64 0, .int .i64 0, .int .i64 0, .bool false] 24
  rw [show (w.alloc (.cells #[.int .i64 m.kind, .int .i64 m.fr, .int .i64 m.dst, .int .i64 m.boot, .int .i64 m.view, .int .i64 m.last, .int .i64 m.mem, .int .i64 m.pos, .slice A m.es.length c, .int .i64 m.com, .int .i64 m.num, .int .i64 m.clk, .bool m.yes] 24)).heap.size = w.heap.size + 1 by simp] at Z0
  have R0 := Lib.hid h
  have HO := Lib.hid hok
  clear h hok
  show Calls _ _ #[.agg #[.int .i64 m.kind, .int .i64 m.fr, .int .i64 m.dst, .int .i64 m.boot, .int .i64 m.view, .int .i64 m.last, .int .i64 m.mem, .int .i64 m.pos, .slice A m.es.length c, .int .i64 m.com, .int .i64 m.num, .int .i64 m.clk, .bool m.yes]] _ _
  go_enter Tryd.func10, Tryd.ntmps10
  go_wp2_with fail
  have hs : ((w.alloc (.cells #[.int .i64 m.kind, .int .i64 m.fr, .int .i64 m.dst, .int .i64 m.boot, .int .i64 m.view, .int .i64 m.last, .int .i64 m.mem, .int .i64 m.pos, .slice A m.es.length c, .int .i64 m.com, .int .i64 m.num, .int .i64 m.clk, .bool m.yes] 24)).alloc (.cells #[.int .i64 0, .int .i64 0, .int .i64 0, .int .i64 0, .int .i64 0, .int .i64 0, .int .i64 0, .int .i64 0, .slice none 0 0, .int .i64 0, .int .i64 0, .int .i64 0, .bool false] 24)).heap.size = w.heap.size + 2 := by simp
  generalize (w.alloc (.cells #[.int .i64 m.kind, .int .i64 m.fr, .int .i64 m.dst, .int .i64 m.boot, .int .i64 m.view, .int .i64 m.last, .int .i64 m.mem, .int .i64 m.pos, .slice A m.es.length c, .int .i64 m.com, .int .i64 m.num, .int .i64 m.clk, .bool m.yes] 24)).alloc (.cells #[.int .i64 0, .int .i64 0, .int .i64 0, .int .i64 0, .int .i64 0, .int .i64 0, .int .i64 0, .int .i64 0, .slice none 0 0, .int .i64 0, .int .i64 0, .int .i64 0, .bool false] 24) = w1 at *
  have BL1 := Lib.hid b1
  have K1 := Lib.hid (show Blk w1 w.heap.size 24 (mcs m A c) from K0)
  have Z1 := Lib.hid (show Blk w1 (w.heap.size + 1) 24 (mcs zeroM none 0) from Z0)
  clear b1 K0 Z0 hs
  refine (lEntries_c w1 A c m.es.length m.es 62 ((R0.out.past BL1.out).tight) HO.out (by omega) (by omega)).mono ?_
  rintro x w2 ⟨A2, c2, es, rfl, hl, hown, hsm, b2⟩
  have BL2 := Lib.hid (BL1.out.trans (b2.mono BL1.out.size))
  have K2 := Lib.hid (K1.out.past b2)
  have Z2 := Lib.hid (Z1.out.past b2)
  have O2 := Lib.hid (own_from hown BL1.out.size)
  have HSM := Lib.hid hsm
  have HL := Lib.hid (show es.length ≤ 62 by rw [hl]; have : (62 : Int).toNat = 62 := rfl; omega)
  have HW := Lib.hid (show 0 < es.length → ∃ g, A2 = some ⟨g, 0, none⟩ ∧ w1.heap.size ≤ g from fun h0 => by obtain ⟨g, e, hg, _⟩ := own_some hown h0; exact ⟨g, e, hg⟩)
  have k8 := K2.out.cell (i := 8) rfl
  have f8 := K2.out.free 8
  have K3 := Lib.hid (show Blk (w2.setCell ⟨w.heap.size, 8, none⟩ (.slice A2 es.length c2)) w.heap.size 24 (mcs (withE m es) A2 c2) from K2.out.set 8 (.slice A2 es.length c2))
  have G3 := grown_set w2 w.heap.size 8 (.slice A2 es.length c2)
  have Z3 := Lib.hid (Z2.out.far G3 (by omega))
  have BL3 := Lib.hid (BL2.out.trans (grown_below G3 (Nat.le_refl _) BL2.out.size))
  have hZ1 := Z1.out.lt
  have O3 := Lib.hid (own_apartB O2.out K2.out (by decide) G3)
  clear hown hsm b2 K1 Z1 BL1 K2 Z2 BL2 hl G3 hZ1 O2
  go_wp2_with (first
    | ((with_reducible show wpList _ _ _ ((⟨some 7, Op.load _ _, _, _, _, _⟩ : Oper) :: _) _ _); go_must (refine wpList_load_row rfl 24 (.tmp 1) rfl w.heap.size rfl 24 #[.int .i64 m.kind, .int .i64 m.fr, .int .i64 m.dst, .int .i64 m.boot, .int .i64 m.view, .int .i64 m.last, .int .i64 m.mem, .int .i64 m.pos, .slice A2 es.length c2, .int .i64 m.com, .int .i64 m.num, .int .i64 m.clk, .bool m.yes] (0, 0) _ K3.out Tryd.underlying24 rfl (by kernel_rfl) ?_))
    | ((with_reducible show wpList _ _ _ ((⟨none, Op.store 24 (.tmp 2) _, _, _, _, _⟩ : Oper) :: _) _ _); go_must (refine wpList_store_row rfl 24 (.tmp 2) (.tmp 7) rfl (w.heap.size + 1) _ rfl rfl _ _ Z3.out (by kernel_rfl) (by rfl) (by kernel_rfl) ?_)))
  have Z4 := Z3.out.row #[.int .i64 m.kind, .int .i64 m.fr, .int .i64 m.dst, .int .i64 m.boot, .int .i64 m.view, .int .i64 m.last, .int .i64 m.mem, .int .i64 m.pos, .slice A2 es.length c2, .int .i64 m.com, .int .i64 m.num, .int .i64 m.clk, .bool m.yes]
  have G4 := grown_row (w2.setCell ⟨w.heap.size, 8, none⟩ (.slice A2 es.length c2)) (w.heap.size + 1) #[.int .i64 m.kind, .int .i64 m.fr, .int .i64 m.dst, .int .i64 m.boot, .int .i64 m.view, .int .i64 m.last, .int .i64 m.mem, .int .i64 m.pos, .slice A2 es.length c2, .int .i64 m.com, .int .i64 m.num, .int .i64 m.clk, .bool m.yes]
  refine bodyPost_ret (v := mv (withE m es) A2 c2) (results_cell_row rfl _ _ (w.heap.size + 1) _ _ _ _ rfl Z4 Tryd.underlying24 rfl (by kernel_rfl)) rfl ⟨A2, c2, es, rfl, HL.out, own_apartB O3.out Z3.out (by decide) G4, HSM.out, BL3.out.trans (grown_below G4 (Nat.le_succ _) BL3.out.size)⟩

set_option maxHeartbeats 4000000 in
set_option maxRecDepth 100000 in
theorem tellsM_c (w : World) (B : Nat) (A : Option Addr) (c n : Nat) (l : List Int) (h : Rd w B A c 1 n (bs l)) (hb : isB l) (ht : Tab w) (hn : n ≤ 1000000) :
    Calls Tryd.prog 18 #[.slice A n c] w fun x w' => x = .returned (.bool true) ∧ Below w.heap.size w w' := by
  have R0 := Lib.hid h.tight
  have HB := Lib.hid hb
  have HT := Lib.hid ht
  have HLn := Lib.hid h.blen
  clear h hb ht
  go_enter Tryd.func18, Tryd.ntmps18
  go_wp2_with fail
  cases hd : PMsg.dec l with
  | none =>
    refine (wDecode_none R0.out HB.out HT.out hn hd).mono ?_
    clear hd
    rintro x w1 ⟨A1, c1, rfl, b1⟩
    go_wp2_with fail
    go_ret
    exact ⟨rfl, b1.alloc b1.size _⟩
  | some m =>
    refine (wDecode_some R0.out HB.out HT.out hn hd).mono ?_
    obtain ⟨i1, i2⟩ := PMsg.dec_inv HB.out hd
    have HE := Lib.hid i2
    clear hd i1 i2
    rintro x w1 ⟨A1, c1, rfl, hr, b1⟩
    have b2 := (Below.refl w1.heap.size w1).alloc (Nat.le_refl _) (.cells #[.int .i64 m.kind, .int .i64 m.fr, .int .i64 m.dst, .int .i64 m.boot, .int .i64 m.view, .int .i64 m.last, .int .i64 m.mem, .int .i64 m.pos, .slice A1 m.es.length c1, .int .i64 m.com, .int .i64 m.num, .int .i64 m.clk, .bool m.yes] 24)
    have BL2 := Lib.hid (b1.trans (b2.mono b1.size))
    have R2 := Lib.hid ((hr.past b2).tight)
    have RL := Lib.hid ((R0.out.past BL2.out).tight)
    have K2 := Lib.hid (show Blk (w1.alloc (.cells #[.int .i64 m.kind, .int .i64 m.fr, .int .i64 m.dst, .int .i64 m.boot, .int .i64 m.view, .int .i64 m.last, .int .i64 m.mem, .int .i64 m.pos, .slice A1 m.es.length c1, .int .i64 m.com, .int .i64 m.num, .int .i64 m.clk, .bool m.yes] 24)) w1.heap.size 24 (mcs m A1 c1) from Blk.new w1 #[.int .i64 m.kind, .int .i64 m.fr, .int .i64 m.dst, .int .i64 m.boot, .int .i64 m.view, .int .i64 m.last, .int .i64 m.mem, .int .i64 m.pos, .slice A1 m.es.length c1, .int .i64 m.com, .int .i64 m.num, .int .i64 m.clk, .bool m.yes] 24)
    clear b1 b2 hr R0
    go_wp2_with fail
    generalize w1.alloc (.cells #[.int .i64 m.kind, .int .i64 m.fr, .int .i64 m.dst, .int .i64 m.boot, .int .i64 m.view, .int .i64 m.last, .int .i64 m.mem, .int .i64 m.pos, .slice A1 m.es.length c1, .int .i64 m.com, .int .i64 m.num, .int .i64 m.clk, .bool m.yes] 24) = w2 at *
    generalize w1.heap.size = g1 at *
-- REGION curfew/curfewlaw16.tells 4 mtells4 4
    refine Hb.begin ?_
    refine Hb.take (v := mv m A1 c1) 0 25 rfl ?_ (fun w' hw' => by exact run_loadM (K2.out.drew.past hw') rfl)
    refine Hb.take (v := .slice A n c) 3 28 rfl ?_ (fun _ _ => rfl)
    refine Hb.take (v := .string (strOfNums l)) 4 29 rfl ?_ (fun w' hw' => by exact run_toStrOp 5 rfl (RL.out.drew.below hw') Tryd.underlying29 Tryd.underlying5 Tryd.underlying9)
    refine Hb.call (f := 16) (args := #[mv m A1 c1]) 1 26 rfl ?_ (run_callf Tryd.func16 (by kernel_rfl) (by kernel_rfl) (by simp only [List.map_toArray, List.map_cons, List.map_nil]; rfl))
    refine (rBytes_c w2.drew m A1 c1 R2.out.drew).mono ?_
    rw [HE.out, HLn.out]
    rintro x w3 ⟨A3, c3, rfl, hown, b3⟩
    have R3 := Lib.hid (Rd.of_own hown)
    have B3 := Lib.hid (show Below w2.heap.size w2 w3 from (Below.refl _ _).drew.trans b3)
    refine Hb.back b3 b3.size ?_
    refine Hb.take (v := .string (strOfNums l)) 2 27 rfl ?_ (fun w' hw' => by exact run_toStrOp 5 rfl (R3.out.below hw') Tryd.underlying29 Tryd.underlying5 Tryd.underlying9)
    refine Hb.take (v := .bool true) 5 30 rfl ?_ (fun w' hw' => by exact run_strEq rfl rfl (by simp))
    refine Hb.take (v := .bool true) 6 2 rfl ?_ (fun _ _ => rfl)
    refine Hb.done ?_
-- END
    go_wp2_with fail
    go_ret
    exact ⟨rfl, BL2.out.trans (B3.out.mono BL2.out.size)⟩

def mOne : Msg := ⟨6, 1, 2, 1, 4, 0, 0, 3, [], 0, 0, 0, false⟩

set_option maxHeartbeats 8000000 in
set_option maxRecDepth 100000 in
theorem begunM_c (w : World) (ht : Tab w) : Calls Tryd.prog 9 #[] w fun x w' => x = .returned (.bool true) ∧ Below w.heap.size w w' := by
  have H1 := Lib.hid (show PMsg.may mOne = true by decide)
  have H2 := Lib.hid (show PMsg.may zeroM = false by decide)
  have H3 := Lib.hid (PMsg.eqM_refl mOne)
  have H4 := Lib.hid (PMsg.eqM_no (a := mOne) (b := zeroM) (fun h => by have := congrArg Msg.kind h; revert this; decide))
  have HP := Lib.hid (PMsg.enc_pos (m := mOne) (by decide))
  have HL := Lib.hid (PMsg.enc_len mOne)
  have HD := Lib.hid (PMsg.dec_enc (m := mOne) (by decide))
  have HD0 := Lib.hid (show PMsg.dec [] = none by decide)
  have HB := Lib.hid (PMsg.enc_byte mOne)
  have HT := Lib.hid ht
  clear ht
  go_enter Tryd.func9, Tryd.ntmps9
  go_wp2_with fail
  have b1 := (Below.refl w.heap.size w).alloc (Nat.le_refl _) (.cells #[.int .i64 6, .int .i64 1, .int .i64 2, .int .i64 1, .int .i64 4, .int .i64 0, .int .i64 0, .int .i64 3, .slice none 0 0, .int .i64 0, .int .i64 0, .int .i64 0, .bool false] 24)
  have K0 := Blk.new w #[.int .i64 6, .int .i64 1, .int .i64 2, .int .i64 1, .int .i64 4, .int .i64 0, .int .i64 0, .int .i64 3, .slice none 0 0, .int .i64 0, .int .i64 0, .int .i64 0, .bool false] 24
  generalize w.alloc (.cells #[.int .i64 6, .int .i64 1, .int .i64 2, .int .i64 1, .int .i64 4, .int .i64 0, .int .i64 0, .int .i64 3, .slice none 0 0, .int .i64 0, .int .i64 0, .int .i64 0, .bool false] 24) = w1 at *
  have BL1 := Lib.hid b1
  have K1 := Lib.hid (show Blk w1 w.heap.size 24 (mcs mOne none 0) from K0)
  clear b1 K0
  refine (show Calls Tryd.prog 15 #[.agg #[.int .i64 6, .int .i64 1, .int .i64 2, .int .i64 1, .int .i64 4, .int .i64 0, .int .i64 0, .int .i64 3, .slice none 0 0, .int .i64 0, .int .i64 0, .int .i64 0, .bool false]] w1 _ from wEncode_c w1 mOne none 0 (Rd.nil _ _ _) (by decide) (HT.out.past BL1.out)).mono ?_
  generalize PMsg.enc mOne = E at *
  rintro x w2 ⟨A2, c2, rfl, hown, b2⟩
  have BL2 := Lib.hid (BL1.out.trans (b2.mono BL1.out.size))
  have K2 := Lib.hid (K1.out.past b2)
  have R2 := Lib.hid (Rd.of_own hown)
  clear hown b2 K1 BL1
  go_wp2_with fail
  refine (show Calls Tryd.prog 17 #[.slice A2 E.length c2] w2 (fun x w' => ∃ (A' : Option Addr) (c' : Nat), x = .returned (.tuple #[.agg #[.int .i64 6, .int .i64 1, .int .i64 2, .int .i64 1, .int .i64 4, .int .i64 0, .int .i64 0, .int .i64 3, .slice A' 0 c', .int .i64 0, .int .i64 0, .int .i64 0, .bool false], .int .i64 0]) ∧ Rd w' w'.heap.size A' c' 7 0 [] ∧ Below w2.heap.size w2 w') from wDecode_some (m := mOne) R2.out HB.out (HT.out.past BL2.out) (by have := HL.out; omega) HD.out).mono ?_
  rintro x w3 ⟨A3, c3, rfl, hr3, b3⟩
  have b4 := (Below.refl w3.heap.size w3).alloc (Nat.le_refl _) (.cells #[.int .i64 6, .int .i64 1, .int .i64 2, .int .i64 1, .int .i64 4, .int .i64 0, .int .i64 0, .int .i64 3, .slice A3 0 c3, .int .i64 0, .int .i64 0, .int .i64 0, .bool false] 24)
  have BL4 := Lib.hid ((BL2.out.trans (b3.mono BL2.out.size)).trans (b4.mono (Nat.le_trans BL2.out.size b3.size)))
  have K4 := Lib.hid ((K2.out.past b3).past b4)
  have X4 := Lib.hid (show Blk (w3.alloc (.cells #[.int .i64 6, .int .i64 1, .int .i64 2, .int .i64 1, .int .i64 4, .int .i64 0, .int .i64 0, .int .i64 3, .slice A3 0 c3, .int .i64 0, .int .i64 0, .int .i64 0, .bool false] 24)) w3.heap.size 24 (mcs mOne A3 c3) from Blk.new w3 #[.int .i64 6, .int .i64 1, .int .i64 2, .int .i64 1, .int .i64 4, .int .i64 0, .int .i64 0, .int .i64 3, .slice A3 0 c3, .int .i64 0, .int .i64 0, .int .i64 0, .bool false] 24)
  have R4 := Lib.hid (show Rd (w3.alloc (.cells #[.int .i64 6, .int .i64 1, .int .i64 2, .int .i64 1, .int .i64 4, .int .i64 0, .int .i64 0, .int .i64 3, .slice A3 0 c3, .int .i64 0, .int .i64 0, .int .i64 0, .bool false] 24)) w3.heap.size A3 c3 7 0 [] from hr3.past b4)
  clear b3 b4 K2 BL2 hr3
  go_wp2_with fail
  generalize w3.alloc (.cells #[.int .i64 6, .int .i64 1, .int .i64 2, .int .i64 1, .int .i64 4, .int .i64 0, .int .i64 0, .int .i64 3, .slice A3 0 c3, .int .i64 0, .int .i64 0, .int .i64 0, .bool false] 24) = w4 at *
  generalize w3.heap.size = g3 at *
  refine (wDecode_none (w := w4) (B := 0) (A := none) (c := 0) (n := 0) (l := []) (Rd.nil _ _ _) (by intro x hx; cases hx) (HT.out.past BL4.out) (by omega) HD0.out).mono ?_
  rintro x w5 ⟨A5, c5, rfl, b5⟩
  have b6 := (Below.refl w5.heap.size w5).alloc (Nat.le_refl _) (.cells #[.int .i64 0, .int .i64 0, .int .i64 0, .int .i64 0, .int .i64 0, .int .i64 0, .int .i64 0, .int .i64 0, .slice A5 0 c5, .int .i64 0, .int .i64 0, .int .i64 0, .bool false] 24)
  have BL6 := Lib.hid ((BL4.out.trans (b5.mono BL4.out.size)).trans (b6.mono (Nat.le_trans BL4.out.size b5.size)))
  have K6 := Lib.hid ((K4.out.past b5).past b6)
  have X6 := Lib.hid ((X4.out.past b5).past b6)
  have R6 := Lib.hid ((R4.out.past b5).past b6)
  clear b5 b6 K4 X4 R4 BL4
  go_wp2_with ((with_reducible show wpList _ _ _ ((⟨some 19, Op.load _ _, _, _, _, _⟩ : Oper) :: _) _ _); go_must (refine wpList_load_row rfl 24 (.tmp 1) rfl w.heap.size rfl 24 #[.int .i64 6, .int .i64 1, .int .i64 2, .int .i64 1, .int .i64 4, .int .i64 0, .int .i64 0, .int .i64 3, .slice none 0 0, .int .i64 0, .int .i64 0, .int .i64 0, .bool false] (0, 0) _ K6.out Tryd.underlying24 rfl (by kernel_rfl) ?_))
  generalize w5.alloc (.cells #[.int .i64 0, .int .i64 0, .int .i64 0, .int .i64 0, .int .i64 0, .int .i64 0, .int .i64 0, .int .i64 0, .slice A5 0 c5, .int .i64 0, .int .i64 0, .int .i64 0, .bool false] 24) = w6 at *
  refine (show Calls Tryd.prog 11 #[.agg #[.int .i64 6, .int .i64 1, .int .i64 2, .int .i64 1, .int .i64 4, .int .i64 0, .int .i64 0, .int .i64 3, .slice none 0 0, .int .i64 0, .int .i64 0, .int .i64 0, .bool false]] w6 _ from wMay_c w6 mOne none 0 (Rd.nil _ _ _) (by decide)).mono ?_
  rw [H1.out]
  rintro x w7 ⟨rfl, b7⟩
  have BL7 := Lib.hid (BL6.out.trans (b7.mono BL6.out.size))
  have K7 := Lib.hid (K6.out.past b7)
  have X7 := Lib.hid (X6.out.past b7)
  have R7 := Lib.hid (R6.out.past b7)
  clear b7 K6 X6 R6 BL6
  go_wp2_with fail
  refine (show Calls Tryd.prog 11 #[.agg #[.int .i64 0, .int .i64 0, .int .i64 0, .int .i64 0, .int .i64 0, .int .i64 0, .int .i64 0, .int .i64 0, .slice none 0 0, .int .i64 0, .int .i64 0, .int .i64 0, .bool false]] w7 _ from wMay_c w7 zeroM none 0 (Rd.nil _ _ _) (by decide)).mono ?_
  rw [H2.out]
  rintro x w8 ⟨rfl, b8⟩
  have BL8 := Lib.hid (BL7.out.trans (b8.mono BL7.out.size))
  have K8 := Lib.hid (K7.out.past b8)
  have X8 := Lib.hid (X7.out.past b8)
  have R8 := Lib.hid ((R7.out.past b8).tight)
  have hp := HP.out
  clear b8 K7 X7 R7 BL7
  go_wp2_with (first | ((with_reducible show wpList _ _ _ ((⟨some 36, Op.load _ _, _, _, _, _⟩ : Oper) :: _) _ _); go_must (refine wpList_unguard rfl ?_; refine wpList_load_row rfl 24 (.tmp 1) rfl w.heap.size rfl 24 #[.int .i64 6, .int .i64 1, .int .i64 2, .int .i64 1, .int .i64 4, .int .i64 0, .int .i64 0, .int .i64 3, .slice none 0 0, .int .i64 0, .int .i64 0, .int .i64 0, .bool false] (0, 0) _ K8.out Tryd.underlying24 rfl (by kernel_rfl) ?_)) | ((with_reducible show wpList _ _ _ ((⟨some 37, Op.load _ _, _, _, _, _⟩ : Oper) :: _) _ _); go_must (refine wpList_unguard rfl ?_; refine wpList_load_row rfl 24 (.tmp 3) rfl g3 rfl 24 #[.int .i64 6, .int .i64 1, .int .i64 2, .int .i64 1, .int .i64 4, .int .i64 0, .int .i64 0, .int .i64 3, .slice A3 0 c3, .int .i64 0, .int .i64 0, .int .i64 0, .bool false] (0, 0) _ X8.out Tryd.underlying24 rfl (by kernel_rfl) ?_)))
  clear hp
  refine (show Calls Tryd.prog 13 #[.agg #[.int .i64 6, .int .i64 1, .int .i64 2, .int .i64 1, .int .i64 4, .int .i64 0, .int .i64 0, .int .i64 3, .slice none 0 0, .int .i64 0, .int .i64 0, .int .i64 0, .bool false], .agg #[.int .i64 6, .int .i64 1, .int .i64 2, .int .i64 1, .int .i64 4, .int .i64 0, .int .i64 0, .int .i64 3, .slice A3 0 c3, .int .i64 0, .int .i64 0, .int .i64 0, .bool false]] w8 _ from wEq_c w8 mOne mOne none A3 0 c3 (Rd.nil _ _ _) R8.out).mono ?_
  rw [H3.out]
  rintro x w9 ⟨rfl, b9⟩
  have BL9 := Lib.hid (BL8.out.trans (b9.mono BL8.out.size))
  have K9 := Lib.hid (K8.out.past b9)
  clear b9 K8 X8 R8 BL8
  go_wp2_with ((with_reducible show wpList _ _ _ ((⟨some 45, Op.load _ _, _, _, _, _⟩ : Oper) :: _) _ _); go_must (refine wpList_unguard rfl ?_; refine wpList_load_row rfl 24 (.tmp 1) rfl w.heap.size rfl 24 #[.int .i64 6, .int .i64 1, .int .i64 2, .int .i64 1, .int .i64 4, .int .i64 0, .int .i64 0, .int .i64 3, .slice none 0 0, .int .i64 0, .int .i64 0, .int .i64 0, .bool false] (0, 0) _ K9.out Tryd.underlying24 rfl (by kernel_rfl) ?_))
  refine (show Calls Tryd.prog 13 #[.agg #[.int .i64 6, .int .i64 1, .int .i64 2, .int .i64 1, .int .i64 4, .int .i64 0, .int .i64 0, .int .i64 3, .slice none 0 0, .int .i64 0, .int .i64 0, .int .i64 0, .bool false], .agg #[.int .i64 0, .int .i64 0, .int .i64 0, .int .i64 0, .int .i64 0, .int .i64 0, .int .i64 0, .int .i64 0, .slice none 0 0, .int .i64 0, .int .i64 0, .int .i64 0, .bool false]] w9 _ from wEq_c w9 mOne zeroM none none 0 0 (Rd.nil _ _ _) (Rd.nil _ _ _)).mono ?_
  rw [H4.out]
  rintro x w10 ⟨rfl, b10⟩
  have BL10 := Lib.hid (BL9.out.trans (b10.mono BL9.out.size))
  clear b10 BL9 K9
  go_wp2_with fail
  go_ret
  exact ⟨rfl, BL10.out⟩
end Go.Proofs.YtgcpofiecbpfbaaDoor

/- What the rows' condition on the listed variables gives: the table of crc lies as it is declared. -/
namespace Go.Proofs.YtgcpofiecbpfbaaDoor
open Go.RowKit

/-- What the walks ask of the listed variables. -/
def LaidIs (w : World) : Prop := Tab w

theorem laidIs_of {W : World} (h : laidMetH Tryd.prog [("curfew/crc.halves", Rows.laid_curfew_crc_halves)] W) : LaidIs W := by
  rw [MakeChecks.laidMetH_plain _ _ _ (by kernel_rfl)] at h
  have hT : Lib.TabIs Tryd.prog W "curfew/crc.halves" .u32 (PCrc.tab.map fun n : Nat => (n : Int)) :=
    Lib.tabIs_of_head (g := 0) (t := 85) (e := 75) (n := 16) (rest := []) (by kernel_rfl) (by kernel_rfl) Tryd.underlying85 Tryd.underlying75 (by kernel_rfl) (by kernel_rfl) h
  intro j hj
  have := hT.cell (g := 0) (by kernel_rfl) j (by simpa [PCrc.tab] using hj)
  rw [this]
  simp [List.getD, List.getElem?_map]
  cases PCrc.tab[j]? <;> simp

end Go.Proofs.YtgcpofiecbpfbaaDoor

