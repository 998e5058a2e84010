/- Contracts of curfewref1's Put, PutText, Get, GetText. -/
import Derived.Test.YtfolifhgmdglaaaGreatDoorSeg15
import Derived.Test.YtfolifhgmdglaaaGreatDoorSeg20
import Derived.Test.YtfolifhgmdglaaaGreatDoorSeg13
import Derived.Test.YtfolifhgmdglaaaGreatDoorSeg4
import Derived.Test.YtfolifhgmdglaaaGreatDoorSeg21
import Derived.Test.YtfolifhgmdglaaaGreatDoorSeg18
import Derived.Test.YtfolifhgmdglaaaGreatDoorSeg1
import Derived.Lib.LaidTab
import Derived.LaidMore
namespace Go.Proofs.YtfolifhgmdglaaaGreatDoor
open Go.RowKit

theorem zig_lib (x : Int) : Lib.zigzag x = PNum.zig x := by unfold Lib.zigzag PNum.zig; split <;> split <;> omega
theorem low_seven (v : Nat) : IntKind.u8.wrap ((v : Int) % 128 + 128) = ((v % 128 + 128 : Nat) : Int) := by rw [IntKind.wrap_u8']; omega

set_option maxRecDepth 100000 in
theorem rPut_c (w : World) (x : Int) (h1 : -9223372036854775808 ≤ x) (h2 : x ≤ 9223372036854775807) :
    Calls Tryz.prog 63 #[.int .i64 x] w fun e w' => ∃ A' c', e = .returned (.slice A' (PNum.sev (PNum.zig x)).length c') ∧
      w'.ownsRow w.heap.size 5 1 (.slice A' (PNum.sev (PNum.zig x)).length c') (PNum.sev (PNum.zig x)).length (bs (PNum.sev (PNum.zig x))) ∧ Below w.heap.size w w' := by
  have hz := PNum.zig_lt x h1 h2
  have hten := PNum.sev_ten _ hz
  have HT := Lib.hid hten; clear hten
  have HZ := Lib.hid hz; clear hz
  have hpos : ¬ x < 0 → IntKind.u64.wrap (IntKind.u64.wrap x * 2) = ((PNum.zig x : Nat) : Int) := by
    intro h
    rw [IntKind.wrap_u64, IntKind.wrap_u64]; unfold PNum.zig; rw [if_neg h]; omega
  have hneg : x < 0 → bits .xor .u64 IntKind.u64.max (IntKind.u64.wrap (IntKind.u64.wrap x * 2)) = ((PNum.zig x : Nat) : Int) := by
    intro h; rw [Lib.zigzag_neg h1 h, zig_lib]
  have hdbl : ¬ x < 0 → x * 2 = ((PNum.zig x : Nat) : Int) := by intro h; unfold PNum.zig; rw [if_neg h]; omega
  have HD := Lib.hid hdbl; clear hdbl
  generalize PNum.zig x = U at *
  by_cases hn : x < 0
  all_goals
    first | (have hU := hneg hn) | (have hU := hpos hn)
    clear hpos hneg
    go_enter Tryz.func63, Tryz.ntmps63
    go_wp2
    clear hU
    go_loopw [3, 4] (fun s3 s4 wr => ∃ (A' : Option Addr) (c' n' v : Nat) (m : List Int), s4 = .slice A' n' c' ∧ s3 = .int .u64 v ∧ v < 18446744073709551616 ∧ n' ≤ 10 ∧
        wr.ownsRow w.heap.size 5 1 (.slice A' n' c') n' (bs m) ∧ n' + (PNum.sev v).length = (PNum.sev U).length ∧ m ++ PNum.sev v = PNum.sev U ∧ Below w.heap.size w wr)
      (fun s3 _ _ => (intOf s3).toNat)
    case atStart => exact ⟨none, 0, 0, U, [], rfl, by first | rfl | exact congrArg (Value.int .u64) (HD.out hn), HZ.out, by omega, World.ownsRow_nil _ _ _ _, by simp, rfl, Below.refl _ _⟩
    case round =>
      obtain ⟨A', c', n', v, m, rfl, rfl, hv, hn', hown', hlen, hm, hbel⟩ := hrel
      have hq : IntKind.u64.wrap ((v : Int) / 128) = ((v / 128 : Nat) : Int) := by rw [IntKind.wrap_u64]; omega
      have HV := Lib.hid hv; clear hv
      have HL := Lib.hid hlen; clear hlen
      have HM := Lib.hid hm; clear hm
      have hsz := hbel.size
      by_cases hlt : 128 ≤ v
      · have hs := PNum.sev_hi hlt
        have HS := Lib.hid hs; clear hs
        have hb := low_seven v
        go_wp2_with (at_builtin; go_must (refine wpList_push rfl (.tmp 14) (.tmp 19) _ rfl w.heap.size 5 _ 1 Tryz.underlying79 byte_info rfl A' c' n' (bs m) rfl hown' rfl rfl ?c2 ?c3 ?c4 ?_))
        case c2 => unfold maxLen; omega
        case c3 => omega
        case c4 => omega
        intro A2 c2 w2 hown2 hgrow2 hbel2
        go_wp2
        go_roundw
        case rel =>
          have h1 := HL.out; have h2 := HM.out; have h3 := HS.out; have h4 := HT.out
          have h5 := PNum.sev_pos (v / 128)
          rw [h3] at h1 h2
          refine ⟨A2, c2, n' + 1, v / 128, m ++ [((v % 128 + 128 : Nat) : Int)], rfl, by go_num, by have := HV.out; omega, ?_, ?_, by simp at h1; omega, by simpa using h2, hbel.trans hbel2⟩
          · simp at h1; omega
          · simpa [bs] using hown2
        case measure => simp [intOf]; omega
      · go_wp2_with (at_builtin; go_must (refine wpList_push rfl (.tmp 23) (.tmp 26) _ rfl w.heap.size 5 _ 1 Tryz.underlying79 byte_info rfl A' c' n' (bs m) rfl hown' rfl rfl ?c2 ?c3 ?c4 ?_))
        case c2 => unfold maxLen; omega
        case c3 => omega
        case c4 => omega
        intro A2 c2 w2 hown2 hgrow2 hbel2
        go_wp2
        go_ret
        have h1 := HL.out; have h2 := HM.out
        rw [PNum.sev_lo (by omega)] at h1 h2
        simp at h1
        refine ⟨A2, c2, ?_, ?_, hbel.trans hbel2⟩
        · rw [← h1]; rfl
        · rw [← h1, ← h2]
          have e : ((v : Int) % 256) = v := by omega
          simpa [bs, e] using hown2

end Go.Proofs.YtfolifhgmdglaaaGreatDoor

/- Contract of curfewref1's PutText. -/
namespace Go.Proofs.YtfolifhgmdglaaaGreatDoor
open Go.RowKit

set_option maxRecDepth 100000 in
theorem rPutText_c (w : World) (s : ByteArray) (hs : s.size ≤ 500000000000) :
    Calls Tryz.prog 103 #[.string s] w fun e w' => ∃ A' c', e = .returned (.slice A' ((PNum.sev (PNum.zig s.size)).length + s.size) c') ∧
      w'.ownsRow w.heap.size 5 1 (.slice A' ((PNum.sev (PNum.zig s.size)).length + s.size) c') ((PNum.sev (PNum.zig s.size)).length + s.size) (bs (PNum.sev (PNum.zig s.size) ++ sb s)) ∧ Below w.heap.size w w' := by
  have hz : PNum.zig s.size < 18446744073709551616 := PNum.zig_lt _ (by omega) (by omega)
  have ht := PNum.sev_ten _ hz
  have HT := Lib.hid ht; clear ht
  clear hz
  go_enter Tryz.func103, Tryz.ntmps103
  go_wp2_with fail
  refine (rPut_c w s.size (by omega) (by omega)).mono ?_
  rintro e w1 ⟨A1, c1, rfl, hown1, hb1⟩
  have hsz := hb1.size
  go_wp2_with (at_builtin; go_must (refine wpList_appStr rfl (.tmp 5) (.tmp 6) _ _ rfl w.heap.size 5 Tryz.underlying79 Tryz.underlying9 byte_info _ _ _ rfl hown1 s rfl ?c1 ?c2 ?c3 ?_))
  case c1 => have := HT.out; unfold maxLen; omega
  case c2 => have := HT.out; omega
  case c3 => omega
  intro A3 c3 w3 hown3 hg3 hb3
  go_wp2_with fail
  go_ret
  refine ⟨A3, c3, rfl, ?_, hb1.trans hb3⟩
  rw [bs_append]
  exact hown3

end Go.Proofs.YtfolifhgmdglaaaGreatDoor

/- Contract of the document's Entries. -/
namespace Go.Proofs.YtfolifhgmdglaaaGreatDoor
open Go.RowKit

/-- A block of another type, behind a call that made a row of one's own grow. -/
theorem Blk.grown_own {w w' : World} {g base k n : Nat} {t e : TypeId} {v : Value} {ys xs : List Value} (h : Blk w g t ys) (ho : w.ownsRow base e k v n xs) (hg : w.grownBy w' v.ownBlock) (hne : t ≠ e) : Blk w' g t ys := by
  refine (hg.block g h.lt ?_).trans h
  rcases ho.2 with ⟨hv, _⟩ | ⟨g', cap, cur, hv, _, hh, _⟩
  · rw [hv]; simp [Value.ownBlock]
  · rw [hv]
    simp only [Value.ownBlock]
    intro hx
    have hx : g = g' := by injection hx
    subst hx
    have := h.symm.trans hh
    simp at this
    exact hne this.2

set_option maxHeartbeats 4000000 in
set_option maxRecDepth 100000 in
theorem rEntries_c (w : World) (B : Nat) (A : Option Addr) (c n : Nat) (l : List Ent) (h : Rd w B A c 7 n (els l)) (hn : n ≤ 1000000) :
    Calls Tryz.prog 65 #[.slice A n c] w fun x w' => ∃ A' c', x = .returned (.slice A' (PEnt.encode l).length c') ∧
      w'.ownsRow w.heap.size 5 1 (.slice A' (PEnt.encode l).length c') (PEnt.encode l).length (bs (PEnt.encode l)) ∧ Below w.heap.size w w' := by
  have R0 := Lib.hid h.tight
  have HLn := Lib.hid h.elen
  clear h
  go_enter Tryz.func65, Tryz.ntmps65
  go_wp2_with fail
  go_loopw [3, 4, 5, 6, 7] (fun s3 s4 _ _ _ wr => ∃ (i m c' : Nat) (A' : Option Addr), i ≤ n ∧ m ≤ 86 * i ∧ s4 = .int .i64 i ∧ s3 = .slice A' m c' ∧ Hid ((l.take i).all PEnt.may = true) ∧
      Hid (wr.ownsRow w.heap.size 5 1 (.slice A' m c') m (bs (PEnt.enc (l.take i)))) ∧ Hid (Below w.heap.size w wr))
    (fun _ s4 _ _ _ _ => n - (intOf s4).toNat)
  case atStart => exact ⟨0, 0, 0, none, by omega, by omega, rfl, rfl, Lib.hid (by simp), Lib.hid (World.ownsRow_nil _ _ _ _), Lib.hid (Below.refl _ _)⟩
  case round =>
    obtain ⟨i, m, c1, A1, hi, hm, rfl, rfl, HA, O, BL⟩ := hrel
    by_cases hlt : i < n
    · obtain ⟨b, o, e, rfl, -, he, hmem, d0, d1, d2, d3, d4, d5, d6⟩ := (R0.out.below BL.out).ent hlt
      have HE := Lib.hid he
      have HM := Lib.hid hmem
      clear he hmem
      go_wp2_with fail
      clear d0 d1 d2 d3 d4 d5 d6
      have b1 := (Below.refl wr.heap.size wr).alloc (Nat.le_refl _) (.cells #[.int .i64 e.fr, .int .i64 e.boot, .int .i64 e.seq, .int .i64 e.ord, .int .i64 e.lev, .int .i64 e.stamp, .string e.data] 86)
      have K1 := Blk.newEnt wr 86 e
      generalize wr.alloc (.cells #[.int .i64 e.fr, .int .i64 e.boot, .int .i64 e.seq, .int .i64 e.ord, .int .i64 e.lev, .int .i64 e.stamp, .string e.data] 86) = w1 at *
      cases hy : PEnt.may e
      · have HB := Lib.hid (encode_bad HM.out hy)
        refine (rMay_c w1 e).mono ?_
        rw [hy]
        rintro x w2 ⟨rfl, b2⟩
        have B2 := Lib.hid ((BL.out.trans (b1.mono BL.out.size)).trans (b2.mono (Nat.le_trans BL.out.size b1.size)))
        clear b1 b2 K1 hy
        go_wp2_with fail
        go_ret
        refine ⟨none, 0, ?_, ?_, B2.out⟩
        · rw [HB.out]; rfl
        · rw [HB.out]; exact World.ownsRow_nil _ _ _ _
      · have hmay := (PEnt.may_iff e).1 hy
        have HS1 := Lib.hid (show (l.take (i + 1)).all PEnt.may = true by rw [all_snoc HE.out, HA.out, hy]; rfl)
        have HS2 := Lib.hid (enc_snoc HE.out)
        have HY := Lib.hid hmay
        refine (rMay_c w1 e).mono ?_
        rw [hy]
        rintro x w2 ⟨rfl, b2⟩
        have B2 := Lib.hid ((BL.out.trans (b1.mono BL.out.size)).trans (b2.mono (Nat.le_trans BL.out.size b1.size)))
        have O2 := Lib.hid (own_below (own_below O.out b1) b2)
        have K2 := Lib.hid (K1.past b2)
        obtain ⟨d0, d1, d2, d3, d4, d5, d6⟩ := K2.out.ent
        generalize wr.heap.size = g5 at *
        clear b1 b2 K1 hy hmay O BL
        have HNF := Lib.hid (PEnt.nums_fit HY.out.fit)
        have HL := Lib.hid (show (PEnt.nums e).length = 6 from rfl)
        have R6 := Lib.hid (show Blk (w2.alloc (.cells #[.int .i64 e.fr, .int .i64 e.boot, .int .i64 e.seq, .int .i64 e.ord, .int .i64 e.lev, .int .i64 e.stamp] 2)) w2.heap.size 2 (is (PEnt.nums e)) from
          Blk.new w2 #[.int .i64 e.fr, .int .i64 e.boot, .int .i64 e.seq, .int .i64 e.ord, .int .i64 e.lev, .int .i64 e.stamp] 2)
        have B3 := Lib.hid (B2.out.alloc B2.out.size (.cells #[.int .i64 e.fr, .int .i64 e.boot, .int .i64 e.seq, .int .i64 e.ord, .int .i64 e.lev, .int .i64 e.stamp] 2))
        have O3 := Lib.hid (own_below O2.out ((Below.refl _ w2).alloc (Nat.le_refl _) (.cells #[.int .i64 e.fr, .int .i64 e.boot, .int .i64 e.seq, .int .i64 e.ord, .int .i64 e.lev, .int .i64 e.stamp] 2)))
        have K3 := Lib.hid (K2.out.alloc (.cells #[.int .i64 e.fr, .int .i64 e.boot, .int .i64 e.seq, .int .i64 e.ord, .int .i64 e.lev, .int .i64 e.stamp] 2))
        clear B2 O2 K2
        go_wp2_with fail
        clear d0 d1 d2 d3 d4 d5 d6
        generalize w2.alloc (.cells #[.int .i64 e.fr, .int .i64 e.boot, .int .i64 e.seq, .int .i64 e.ord, .int .i64 e.lev, .int .i64 e.stamp] 2) = w3 at *
        generalize w2.heap.size = g6 at *
        go_loopw [3, 7] (fun s3 s7 wk => ∃ (k q c' : Nat) (A' : Option Addr), k ≤ 6 ∧ q ≤ 86 * i + 10 * k ∧ s7 = .int .i64 k ∧ s3 = .slice A' q c' ∧
            Hid (wk.ownsRow w.heap.size 5 1 (.slice A' q c') q (bs (PEnt.enc (l.take i) ++ PEnt.encN ((PEnt.nums e).take k)))) ∧ Hid (Blk wk g6 2 (is (PEnt.nums e))) ∧ Hid (Blk wk g5 86 (ecs e)) ∧ Hid (Below w.heap.size w wk))
          (fun _ s7 _ => 6 - (intOf s7).toNat)
        case atStart => exact ⟨0, m, c1, A1, by omega, by omega, rfl, rfl, Lib.hid (by simpa [PEnt.encN] using O3.out), R6, K3, B3⟩
        case round =>
          clear R6 K3 B3 O3
          obtain ⟨k, q, c2, A2, hk, hq, rfl, rfl, O4, R4, K4, B4⟩ := hrel
          by_cases hk6 : k < 6
          · obtain ⟨x, hx2⟩ : ∃ x, (PEnt.nums e)[k]? = some x := ⟨_, List.getElem?_eq_getElem (by rw [HL.out]; exact hk6)⟩
            have hcx := R4.out.cell (i := k) (u := .int .i64 x) (by rw [is, List.getElem?_map, hx2]; rfl)
            have hxf := HNF.out x (List.mem_of_getElem? hx2)
            have HS := Lib.hid (encN_snoc hx2)
            have ht := PNum.sev_ten (PNum.zig x) (PNum.zig_lt x hxf.1 hxf.2)
            have HT := Lib.hid ht
            have HFX := Lib.hid hxf
            clear hx2 ht hxf
            go_wp2_with fail
            refine (rPut_c wr x HFX.out.1 HFX.out.2).mono ?_
            rintro y w4 ⟨A5, c5, rfl, hown, b5⟩
            have R5 := Lib.hid (Rd.of_own hown)
            have B5 := Lib.hid (B4.out.trans (b5.mono B4.out.size))
            have O5 := Lib.hid (own_below O4.out b5)
            have R45 := Lib.hid (R4.out.past b5)
            have K5 := Lib.hid (K4.out.past b5)
            clear hown b5 R4 O4 K4 B4 hcx
            generalize hj : (PNum.sev (PNum.zig x)).length = j at *
            clear hj
            go_wp2_with (at_builtin; go_must (refine wpList_app rfl (.tmp 40) (.tmp 45) _ rfl w.heap.size 5 _ 1 1 Tryz.underlying79 byte_info rfl (by omega) _ q _ rfl O5.out _ A5 c5 j (bs (PNum.sev (PNum.zig x))) rfl R5.out (bs_one _) ?c1 ?c2 ?c3 ?_))
            case c1 => have := HT.out; unfold maxLen; omega
            case c2 => have := HT.out; omega
            case c3 => exact B5.out.size
            intro A6 c6 w6 hown6 hgrow6 hbel6
            have R6 := Lib.hid (R45.out.grown_own O5.out hgrow6 (by decide))
            have K6 := Lib.hid (K5.out.grown_own O5.out hgrow6 (by decide))
            have B6 := Lib.hid (B5.out.trans hbel6)
            have O6 := Lib.hid hown6
            clear hown6 hgrow6 hbel6 R45 K5 B5 O5 R5
            go_wp2_with fail
            go_roundw
            case rel => exact ⟨k + 1, q + j, c6, A6, by omega, by have := HT.out; omega, by go_num, rfl, Lib.hid (by rw [HS.out, ← List.append_assoc, bs_append]; exact O6.out), R6, K6, B6⟩
            case measure => simp [intOf]; omega
          · obtain rfl : k = 6 := by omega
            have hN : (PEnt.nums e).take 6 = PEnt.nums e := List.take_of_length_le (by rw [HL.out]; omega)
            rw [hN] at O4
            obtain ⟨-, -, -, -, -, -, d6⟩ := K4.out.ent
            have hd16 := HY.out.2.2.2.2.2.2
            have HD16 := Lib.hid hd16
            have ht := PNum.sev_ten (PNum.zig e.data.size) (PNum.zig_lt _ (by omega) (by omega))
            have HT := Lib.hid ht
            clear hN hd16 ht R4 K4
            go_wp2_with fail
            refine (rPutText_c wr e.data (by have := HD16.out; omega)).mono ?_
            rintro y w4 ⟨A5, c5, rfl, hown, b5⟩
            have R5 := Lib.hid (Rd.of_own hown)
            have B5 := Lib.hid (B4.out.trans (b5.mono B4.out.size))
            have O5 := Lib.hid (own_below O4.out b5)
            clear hown b5 O4 B4 d6
            generalize hj : (PNum.sev (PNum.zig e.data.size)).length + e.data.size = j at *
            have HJ := Lib.hid (show j ≤ 26 by have := HT.out; have := HD16.out; omega)
            clear hj
            go_wp2_with (at_builtin; go_must (refine wpList_app rfl (.tmp 47) (.tmp 50) _ rfl w.heap.size 5 _ 1 1 Tryz.underlying79 byte_info rfl (by omega) _ q _ rfl O5.out _ A5 c5 j _ rfl R5.out (bs_one _) ?c1 ?c2 ?c3 ?_))
            case c1 => have := HJ.out; unfold maxLen; omega
            case c2 => have := HJ.out; omega
            case c3 => exact B5.out.size
            intro A6 c6 w6 hown6 hgrow6 hbel6
            have B6 := Lib.hid (B5.out.trans hbel6)
            have O6 := Lib.hid hown6
            clear hown6 hgrow6 hbel6 B5 O5 R5
            go_wp2_with fail
            go_roundw
            case rel => exact ⟨i + 1, q + j, c6, A6, by omega, by have := HJ.out; omega, by go_num, rfl, HS1, Lib.hid (by
              rw [HS2.out]; show World.ownsRow _ _ _ _ _ _ (bs (_ ++ (PEnt.encN (PEnt.nums e) ++ _)))
              rw [← List.append_assoc, bs_append]; exact O6.out), B6⟩
            case measure => simp [intOf]; omega
    · obtain rfl : i = n := by omega
      have ht : l.take i = l := List.take_of_length_le (by rw [HLn.out]; omega)
      rw [ht] at HA O
      have HG := Lib.hid (encode_good HA.out)
      have hl := O.out.1
      rw [bs_length] at hl
      have HL2 := Lib.hid (show (PEnt.enc l).length = m by omega)
      clear ht hl
      go_wp2_with fail
      go_ret
      refine ⟨A1, c1, ?_, ?_, BL.out⟩
      · rw [HG.out, HL2.out]; rfl
      · rw [HG.out, HL2.out]; exact O.out
end Go.Proofs.YtfolifhgmdglaaaGreatDoor

/- Contract of the document's Bytes. -/
namespace Go.Proofs.YtfolifhgmdglaaaGreatDoor
open Go.RowKit

set_option maxHeartbeats 8000000 in
set_option maxRecDepth 100000 in
theorem rBytes_c (w : World) (m : Msg) (A : Option Addr) (c : Nat) (h : Rd w w.heap.size A c 7 m.es.length (els m.es)) :
    Calls Tryz.prog 43 #[mv m A c] w fun x w' => ∃ (A' : Option Addr) (c' : Nat), x = .returned (.slice A' (PMsg.enc m).length c') ∧
      w'.ownsRow w.heap.size 5 1 (.slice A' (PMsg.enc m).length c') (PMsg.enc m).length (bs (PMsg.enc m)) ∧ Below w.heap.size w w' := by
  have b1 := (Below.refl w.heap.size w).alloc (Nat.le_refl _) (.cells #[.int .i64 m.kind, .int .i64 m.fr, .int .i64 m.dst, .int .i64 m.boot, .int .i64 m.view, .int .i64 m.last, .int .i64 m.mem, .int .i64 m.pos, .slice A m.es.length c, .int .i64 m.com, .int .i64 m.num, .int .i64 m.clk, .bool m.yes] 47)
  have K0 := Blk.new w #[.int .i64 m.kind, .int .i64 m.fr, .int .i64 m.dst, .int .i64 m.boot, .int .i64 m.view, .int .i64 m.last, .int .i64 m.mem, .int .i64 m.pos, .slice A m.es.length c, .int .i64 m.com, .int .i64 m.num, .int .i64 m.clk, .bool m.yes] 47
  have R0 := Lib.hid h
  have HL := Lib.hid (PMsg.ns_length m)
  clear h
  show Calls _ _ #[.agg #[.int .i64 m.kind, .int .i64 m.fr, .int .i64 m.dst, .int .i64 m.boot, .int .i64 m.view, .int .i64 m.last, .int .i64 m.mem, .int .i64 m.pos, .slice A m.es.length c, .int .i64 m.com, .int .i64 m.num, .int .i64 m.clk, .bool m.yes]] _ _
  go_enter Tryz.func43, Tryz.ntmps43
  go_wp2_with fail
  generalize w.alloc (.cells #[.int .i64 m.kind, .int .i64 m.fr, .int .i64 m.dst, .int .i64 m.boot, .int .i64 m.view, .int .i64 m.last, .int .i64 m.mem, .int .i64 m.pos, .slice A m.es.length c, .int .i64 m.com, .int .i64 m.num, .int .i64 m.clk, .bool m.yes] 47) = w1 at *
  have BL1 := Lib.hid b1
  have K1 := Lib.hid (show Blk w1 w.heap.size 47 (mcs m A c) from K0)
  clear b1 K0
  refine (rMayM_c w1 m A c ((R0.out.past BL1.out).tight)).mono ?_
  cases hy : PMsg.may m
  · have HE := Lib.hid (PMsg.enc_no hy)
    rintro x w2 ⟨rfl, b2⟩
    have B2 := Lib.hid (BL1.out.trans (b2.mono BL1.out.size))
    clear b2 hy K1
    go_wp2_with fail
    go_ret
    exact ⟨none, 0, by rw [HE.out]; rfl, by rw [HE.out]; exact World.ownsRow_nil _ _ _ _, B2.out⟩
  · have HE := Lib.hid (PMsg.enc_yes hy)
    have hM := (PMsg.may_iff m).1 hy
    have HNF := Lib.hid (PMsg.ns_fit hM)
    have HES := Lib.hid hM.2.2.2.2.2.2.2.2.2.2.2.2
    have HBL := Lib.hid (PMsg.body_len hM)
    have HBD := Lib.hid (show PMsg.body m = PEnt.encN (PMsg.ns m) ++ PEnt.enc m.es from rfl)
    have HBB := Lib.hid (PMsg.body_byte m)
    rintro x w2 ⟨rfl, b2⟩
    have BL2 := Lib.hid (BL1.out.trans (b2.mono BL1.out.size))
    have K2 := Lib.hid (K1.out.past b2)
    clear b2 hy hM K1 BL1
    have c0 := K2.out.cell (i := 0) rfl
    have c1 := K2.out.cell (i := 1) rfl
    have c2 := K2.out.cell (i := 2) rfl
    have c3 := K2.out.cell (i := 3) rfl
    have c4 := K2.out.cell (i := 4) rfl
    have c5 := K2.out.cell (i := 5) rfl
    have c6 := K2.out.cell (i := 6) rfl
    have c7 := K2.out.cell (i := 7) rfl
    have c8 := K2.out.cell (i := 8) rfl
    have c9 := K2.out.cell (i := 9) rfl
    have c10 := K2.out.cell (i := 10) rfl
    have c11 := K2.out.cell (i := 11) rfl
    have c12 := K2.out.cell (i := 12) rfl
    have HNS := Lib.hid (show PMsg.ns m = [m.kind, m.fr, m.dst, m.boot, m.view, m.last, m.mem, m.pos, m.com, m.num, m.clk, PMsg.bit m.yes, (m.es.length : Int)] from rfl)
    generalize PMsg.ns m = N at *
    generalize PMsg.body m = Y at *
    cases hyes : m.yes
    · rw [hyes] at c12
      have HNV := Lib.hid (show is N = [.int .i64 m.kind, .int .i64 m.fr, .int .i64 m.dst, .int .i64 m.boot, .int .i64 m.view, .int .i64 m.last, .int .i64 m.mem, .int .i64 m.pos, .int .i64 m.com, .int .i64 m.num, .int .i64 m.clk, .int .i64 0, .int .i64 (m.es.length : Int)] by rw [HNS.out, hyes]; rfl)
      have B3 := Lib.hid (BL2.out.alloc BL2.out.size (.cells #[.int .i64 m.kind, .int .i64 m.fr, .int .i64 m.dst, .int .i64 m.boot, .int .i64 m.view, .int .i64 m.last, .int .i64 m.mem, .int .i64 m.pos, .int .i64 m.com, .int .i64 m.num, .int .i64 m.clk, .int .i64 0, .int .i64 (m.es.length : Int)] 2))
      have K3 := Lib.hid (K2.out.alloc (.cells #[.int .i64 m.kind, .int .i64 m.fr, .int .i64 m.dst, .int .i64 m.boot, .int .i64 m.view, .int .i64 m.last, .int .i64 m.mem, .int .i64 m.pos, .int .i64 m.com, .int .i64 m.num, .int .i64 m.clk, .int .i64 0, .int .i64 (m.es.length : Int)] 2))
      have R3 := Lib.hid (show Blk (w2.alloc (.cells #[.int .i64 m.kind, .int .i64 m.fr, .int .i64 m.dst, .int .i64 m.boot, .int .i64 m.view, .int .i64 m.last, .int .i64 m.mem, .int .i64 m.pos, .int .i64 m.com, .int .i64 m.num, .int .i64 m.clk, .int .i64 0, .int .i64 (m.es.length : Int)] 2)) w2.heap.size 2 (is N) by rw [HNV.out]; exact Blk.new w2 #[.int .i64 m.kind, .int .i64 m.fr, .int .i64 m.dst, .int .i64 m.boot, .int .i64 m.view, .int .i64 m.last, .int .i64 m.mem, .int .i64 m.pos, .int .i64 m.com, .int .i64 m.num, .int .i64 m.clk, .int .i64 0, .int .i64 (m.es.length : Int)] 2)
      clear hyes
      go_wp2_with fail
      clear c0 c1 c2 c3 c4 c5 c6 c7 c8 c9 c10 c11 c12 K2 BL2 HNV HNS
      generalize w2.alloc (.cells #[.int .i64 m.kind, .int .i64 m.fr, .int .i64 m.dst, .int .i64 m.boot, .int .i64 m.view, .int .i64 m.last, .int .i64 m.mem, .int .i64 m.pos, .int .i64 m.com, .int .i64 m.num, .int .i64 m.clk, .int .i64 0, .int .i64 (m.es.length : Int)] 2) = w3 at *
      generalize w2.heap.size = g6 at *
      go_loopw [5, 6] (fun s5 s6 wr => ∃ (i q c' : Nat) (A' : Option Addr), i ≤ 13 ∧ q ≤ 10 * i ∧ s6 = .int .i64 i ∧ s5 = .slice A' q c' ∧ Hid (wr.ownsRow w.heap.size 5 1 (.slice A' q c') q (bs (PEnt.encN (N.take i)))) ∧ Hid (Below w.heap.size w wr) ∧ Hid (Blk wr w.heap.size 47 (mcs m A c)) ∧ Hid (Blk wr g6 2 (is N)))
        (fun _ s6 _ => 13 - (intOf s6).toNat)
      case atStart => exact ⟨0, 0, 0, none, by omega, by omega, rfl, rfl, Lib.hid (World.ownsRow_nil _ _ _ _), B3, K3, R3⟩
      case round =>
        clear B3 K3 R3
        obtain ⟨i, q, c1, A1, hi, hq, rfl, rfl, O, B, K, R⟩ := hrel
        by_cases hlt : i < 13
        · obtain ⟨x, hx⟩ : ∃ x, N[i]? = some x := ⟨_, List.getElem?_eq_getElem (by rw [HL.out]; exact hlt)⟩
          have hcx := R.out.cell (i := i) (u := .int .i64 x) (by rw [is, List.getElem?_map, hx]; rfl)
          have hxf := HNF.out x (List.mem_of_getElem? hx)
          have HS := Lib.hid (encN_snoc hx)
          have ht := PNum.sev_ten (PNum.zig x) (PNum.zig_lt x hxf.1 hxf.2)
          have HT1 := Lib.hid ht
          have HFX := Lib.hid hxf
          clear hx ht hxf
          go_wp2_with fail
          refine (rPut_c wr x HFX.out.1 HFX.out.2).mono ?_
          rintro e w4 ⟨A5, c5, rfl, hown, b5⟩
          have R5 := Lib.hid (Rd.of_own hown)
          have B5 := Lib.hid (B.out.trans (b5.mono B.out.size))
          have O5 := Lib.hid (own_below O.out b5)
          have K5 := Lib.hid (K.out.past b5)
          have G5 := Lib.hid (R.out.past b5)
          clear hown b5 O B K R hcx
          generalize hj : (PNum.sev (PNum.zig x)).length = j at *
          clear hj
          go_wp2_with (at_builtin; go_must (refine wpList_app rfl (.tmp 45) (.tmp 50) _ rfl w.heap.size 5 _ 1 1 Tryz.underlying79 byte_info rfl (by omega) _ q _ rfl O5.out _ A5 c5 j (bs (PNum.sev (PNum.zig x))) rfl R5.out (bs_one _) ?c1 ?c2 ?c3 ?_))
          case c1 => have := HT1.out; unfold maxLen; omega
          case c2 => have := HT1.out; omega
          case c3 => exact B5.out.size
          intro A6 c6 w6 hown6 hgrow6 hbel6
          have K6 := Lib.hid (K5.out.grown_own O5.out hgrow6 (by decide))
          have G6 := Lib.hid (G5.out.grown_own O5.out hgrow6 (by decide))
          have B6 := Lib.hid (B5.out.trans hbel6)
          have O6 := Lib.hid hown6
          clear hown6 hgrow6 hbel6 K5 G5 B5 O5 R5
          go_wp2_with fail
          go_roundw
          case rel => exact ⟨i + 1, q + j, c6, A6, by omega, by have := HT1.out; omega, by go_num, rfl, Lib.hid (by rw [HS.out, bs_append]; exact O6.out), B6, K6, G6⟩
          case measure => simp [intOf]; omega
        · obtain rfl : i = 13 := by omega
          have hN : N.take 13 = N := List.take_of_length_le (by rw [HL.out]; omega)
          rw [hN] at O
          have c8 := K.out.cell (i := 8) rfl
          have RE := Lib.hid ((R0.out.past B.out).tight)
          clear hN K R
          go_wp2_with fail
          clear c8
          refine (rEntries_c wr _ A c m.es.length m.es RE.out (by have := HES.out.1; omega)).mono ?_
          rw [encode_good HES.out.2]
          rintro e w2 ⟨A2, c2, rfl, hown, b2⟩
          have B2 := Lib.hid (B.out.trans (b2.mono B.out.size))
          have O2 := Lib.hid (own_below O.out b2)
          have R2 := Lib.hid (Rd.of_own hown)
          have HQ := Lib.hid (show q + (PEnt.enc m.es).length = Y.length by
            rw [HBD.out, List.length_append]
            have := (Rd.of_own O.out).blen
            omega)
          have HYL := HBL.out
          clear hown b2 O B RE
          generalize hj : (PEnt.enc m.es).length = j at *
          have HJ := Lib.hid (show j ≤ 5290 by have := HQ.out; omega)
          clear hj
          go_wp2_with (at_builtin; go_must (refine wpList_app rfl (.tmp 52) (.tmp 55) _ rfl w.heap.size 5 _ 1 1 Tryz.underlying79 byte_info rfl (by omega) _ q _ rfl O2.out _ A2 c2 j _ rfl R2.out (bs_one _) ?c1 ?c2 ?c3 ?_))
          case c1 => have := HJ.out; unfold maxLen; omega
          case c2 => have := HJ.out; omega
          case c3 => exact B2.out.size
          intro A6 c6 w6 hown6 hgrow6 hbel6
          have B6 := Lib.hid (B2.out.trans hbel6)
          rw [← bs_append, ← HBD.out, HQ.out] at hown6
          have R6 := Lib.hid (Rd.of_own hown6)
          have hq2 := HQ.out
          clear hown6 hgrow6 hbel6 B2 O2 R2
          go_wp2_with fail
          rw [hq2]
          refine (rSeal_c w6 _ A6 c6 Y.length Y R6.out HBB.out (by omega)).mono ?_
          rintro e w7 ⟨A7, c7, rfl, hown, b7⟩
          have B7 := Lib.hid (B6.out.trans (b7.mono B6.out.size))
          have O7 := Lib.hid (own_from hown B6.out.size)
          have HEL := Lib.hid (show (PMsg.enc m).length = Y.length + 4 by rw [HE.out, sealed_length])
          clear hown b7
          go_wp2_with fail
          go_ret
          refine ⟨A7, c7, by rw [HEL.out]; rfl, ?_, B7.out⟩
          rw [HEL.out, HE.out]
          exact O7.out
    · rw [hyes] at c12
      have HNV := Lib.hid (show is N = [.int .i64 m.kind, .int .i64 m.fr, .int .i64 m.dst, .int .i64 m.boot, .int .i64 m.view, .int .i64 m.last, .int .i64 m.mem, .int .i64 m.pos, .int .i64 m.com, .int .i64 m.num, .int .i64 m.clk, .int .i64 1, .int .i64 (m.es.length : Int)] by rw [HNS.out, hyes]; rfl)
      have B3 := Lib.hid (BL2.out.alloc BL2.out.size (.cells #[.int .i64 m.kind, .int .i64 m.fr, .int .i64 m.dst, .int .i64 m.boot, .int .i64 m.view, .int .i64 m.last, .int .i64 m.mem, .int .i64 m.pos, .int .i64 m.com, .int .i64 m.num, .int .i64 m.clk, .int .i64 1, .int .i64 (m.es.length : Int)] 2))
      have K3 := Lib.hid (K2.out.alloc (.cells #[.int .i64 m.kind, .int .i64 m.fr, .int .i64 m.dst, .int .i64 m.boot, .int .i64 m.view, .int .i64 m.last, .int .i64 m.mem, .int .i64 m.pos, .int .i64 m.com, .int .i64 m.num, .int .i64 m.clk, .int .i64 1, .int .i64 (m.es.length : Int)] 2))
      have R3 := Lib.hid (show Blk (w2.alloc (.cells #[.int .i64 m.kind, .int .i64 m.fr, .int .i64 m.dst, .int .i64 m.boot, .int .i64 m.view, .int .i64 m.last, .int .i64 m.mem, .int .i64 m.pos, .int .i64 m.com, .int .i64 m.num, .int .i64 m.clk, .int .i64 1, .int .i64 (m.es.length : Int)] 2)) w2.heap.size 2 (is N) by rw [HNV.out]; exact Blk.new w2 #[.int .i64 m.kind, .int .i64 m.fr, .int .i64 m.dst, .int .i64 m.boot, .int .i64 m.view, .int .i64 m.last, .int .i64 m.mem, .int .i64 m.pos, .int .i64 m.com, .int .i64 m.num, .int .i64 m.clk, .int .i64 1, .int .i64 (m.es.length : Int)] 2)
      clear hyes
      go_wp2_with fail
      clear c0 c1 c2 c3 c4 c5 c6 c7 c8 c9 c10 c11 c12 K2 BL2 HNV HNS
      generalize w2.alloc (.cells #[.int .i64 m.kind, .int .i64 m.fr, .int .i64 m.dst, .int .i64 m.boot, .int .i64 m.view, .int .i64 m.last, .int .i64 m.mem, .int .i64 m.pos, .int .i64 m.com, .int .i64 m.num, .int .i64 m.clk, .int .i64 1, .int .i64 (m.es.length : Int)] 2) = w3 at *
      generalize w2.heap.size = g6 at *
      go_loopw [5, 6] (fun s5 s6 wr => ∃ (i q c' : Nat) (A' : Option Addr), i ≤ 13 ∧ q ≤ 10 * i ∧ s6 = .int .i64 i ∧ s5 = .slice A' q c' ∧ Hid (wr.ownsRow w.heap.size 5 1 (.slice A' q c') q (bs (PEnt.encN (N.take i)))) ∧ Hid (Below w.heap.size w wr) ∧ Hid (Blk wr w.heap.size 47 (mcs m A c)) ∧ Hid (Blk wr g6 2 (is N)))
        (fun _ s6 _ => 13 - (intOf s6).toNat)
      case atStart => exact ⟨0, 0, 0, none, by omega, by omega, rfl, rfl, Lib.hid (World.ownsRow_nil _ _ _ _), B3, K3, R3⟩
      case round =>
        clear B3 K3 R3
        obtain ⟨i, q, c1, A1, hi, hq, rfl, rfl, O, B, K, R⟩ := hrel
        by_cases hlt : i < 13
        · obtain ⟨x, hx⟩ : ∃ x, N[i]? = some x := ⟨_, List.getElem?_eq_getElem (by rw [HL.out]; exact hlt)⟩
          have hcx := R.out.cell (i := i) (u := .int .i64 x) (by rw [is, List.getElem?_map, hx]; rfl)
          have hxf := HNF.out x (List.mem_of_getElem? hx)
          have HS := Lib.hid (encN_snoc hx)
          have ht := PNum.sev_ten (PNum.zig x) (PNum.zig_lt x hxf.1 hxf.2)
          have HT1 := Lib.hid ht
          have HFX := Lib.hid hxf
          clear hx ht hxf
          go_wp2_with fail
          refine (rPut_c wr x HFX.out.1 HFX.out.2).mono ?_
          rintro e w4 ⟨A5, c5, rfl, hown, b5⟩
          have R5 := Lib.hid (Rd.of_own hown)
          have B5 := Lib.hid (B.out.trans (b5.mono B.out.size))
          have O5 := Lib.hid (own_below O.out b5)
          have K5 := Lib.hid (K.out.past b5)
          have G5 := Lib.hid (R.out.past b5)
          clear hown b5 O B K R hcx
          generalize hj : (PNum.sev (PNum.zig x)).length = j at *
          clear hj
          go_wp2_with (at_builtin; go_must (refine wpList_app rfl (.tmp 45) (.tmp 50) _ rfl w.heap.size 5 _ 1 1 Tryz.underlying79 byte_info rfl (by omega) _ q _ rfl O5.out _ A5 c5 j (bs (PNum.sev (PNum.zig x))) rfl R5.out (bs_one _) ?c1 ?c2 ?c3 ?_))
          case c1 => have := HT1.out; unfold maxLen; omega
          case c2 => have := HT1.out; omega
          case c3 => exact B5.out.size
          intro A6 c6 w6 hown6 hgrow6 hbel6
          have K6 := Lib.hid (K5.out.grown_own O5.out hgrow6 (by decide))
          have G6 := Lib.hid (G5.out.grown_own O5.out hgrow6 (by decide))
          have B6 := Lib.hid (B5.out.trans hbel6)
          have O6 := Lib.hid hown6
          clear hown6 hgrow6 hbel6 K5 G5 B5 O5 R5
          go_wp2_with fail
          go_roundw
          case rel => exact ⟨i + 1, q + j, c6, A6, by omega, by have := HT1.out; omega, by go_num, rfl, Lib.hid (by rw [HS.out, bs_append]; exact O6.out), B6, K6, G6⟩
          case measure => simp [intOf]; omega
        · obtain rfl : i = 13 := by omega
          have hN : N.take 13 = N := List.take_of_length_le (by rw [HL.out]; omega)
          rw [hN] at O
          have c8 := K.out.cell (i := 8) rfl
          have RE := Lib.hid ((R0.out.past B.out).tight)
          clear hN K R
          go_wp2_with fail
          clear c8
          refine (rEntries_c wr _ A c m.es.length m.es RE.out (by have := HES.out.1; omega)).mono ?_
          rw [encode_good HES.out.2]
          rintro e w2 ⟨A2, c2, rfl, hown, b2⟩
          have B2 := Lib.hid (B.out.trans (b2.mono B.out.size))
          have O2 := Lib.hid (own_below O.out b2)
          have R2 := Lib.hid (Rd.of_own hown)
          have HQ := Lib.hid (show q + (PEnt.enc m.es).length = Y.length by
            rw [HBD.out, List.length_append]
            have := (Rd.of_own O.out).blen
            omega)
          have HYL := HBL.out
          clear hown b2 O B RE
          generalize hj : (PEnt.enc m.es).length = j at *
          have HJ := Lib.hid (show j ≤ 5290 by have := HQ.out; omega)
          clear hj
          go_wp2_with (at_builtin; go_must (refine wpList_app rfl (.tmp 52) (.tmp 55) _ rfl w.heap.size 5 _ 1 1 Tryz.underlying79 byte_info rfl (by omega) _ q _ rfl O2.out _ A2 c2 j _ rfl R2.out (bs_one _) ?c1 ?c2 ?c3 ?_))
          case c1 => have := HJ.out; unfold maxLen; omega
          case c2 => have := HJ.out; omega
          case c3 => exact B2.out.size
          intro A6 c6 w6 hown6 hgrow6 hbel6
          have B6 := Lib.hid (B2.out.trans hbel6)
          rw [← bs_append, ← HBD.out, HQ.out] at hown6
          have R6 := Lib.hid (Rd.of_own hown6)
          have hq2 := HQ.out
          clear hown6 hgrow6 hbel6 B2 O2 R2
          go_wp2_with fail
          rw [hq2]
          refine (rSeal_c w6 _ A6 c6 Y.length Y R6.out HBB.out (by omega)).mono ?_
          rintro e w7 ⟨A7, c7, rfl, hown, b7⟩
          have B7 := Lib.hid (B6.out.trans (b7.mono B6.out.size))
          have O7 := Lib.hid (own_from hown B6.out.size)
          have HEL := Lib.hid (show (PMsg.enc m).length = Y.length + 4 by rw [HE.out, sealed_length])
          clear hown b7
          go_wp2_with fail
          go_ret
          refine ⟨A7, c7, by rw [HEL.out]; rfl, ?_, B7.out⟩
          rw [HEL.out, HE.out]
          exact O7.out
end Go.Proofs.YtfolifhgmdglaaaGreatDoor

/- Contract of begun (layer 25). -/
namespace Go.Proofs.YtfolifhgmdglaaaGreatDoor
open Go.RowKit PNode

/-- The process of begun at its k-th tick, that hears nothing. -/
def stB (k : Int) : Np := { newP 1 3 1 0 with clock := k }
def bgV1 : List (Option Vt) := PVote.add 1 3 PVote.none7 ⟨1, 0, [], 0⟩
def bgV2 : List (Option Vt) := PVote.add 1 3 bgV1 ⟨2, 0, [], 0⟩
theorem bg_tm1 : PVote.tm bgV1 = 1 := by decide +kernel
theorem bg_tm2 : PVote.tm bgV2 = 3 := by decide +kernel
theorem bg_most2 : PTeam.most (PVote.tm bgV2) 3 = true := by decide +kernel
theorem bg_has2 : PTeam.has (PVote.tm bgV2) 1 = true := by decide +kernel
theorem bg_props : props 1 1 1 1 3 = [propM 1 1 1 2, propM 1 1 1 3] := by
  have h1 : PTeam.has 1 (((0 : Nat) : Int) + 1) = true := by decide +kernel
  have h2 : PTeam.has 1 (((1 : Nat) : Int) + 1) = false := by decide +kernel
  have h3 : PTeam.has 1 (((2 : Nat) : Int) + 1) = false := by decide +kernel
  rw [props_not h3, props_not h2, props_has h1]
  rfl
theorem bg_next {v : Int} (h : IsNext 1 3 (max 0 0 + 1) v) : v = 1 := by
  obtain ⟨h1, h2, h3⟩ := h
  have e : max (0 : Int) 0 = 0 := rfl
  rw [e] at h1 h2
  rcases (by omega : v = 1 ∨ v = 2 ∨ v = 3) with rfl | rfl | rfl
  · rfl
  · exact absurd h3 (by decide)
  · exact absurd h3 (by decide)
theorem bg_best : ∃ bf bl bc, PVote.best 3 bgV2 = ⟨bf, bl, [], bc⟩ := ⟨_, _, _, rfl⟩
theorem bg_lst : PTeam.lst (PTeam.wout (PVote.tm bgV2) 1) = [2] := by decide +kernel
def bgM : Msg := ⟨3, 2, 1, 1, 1, 0, 0, 0, [], 0, 0, 0, false⟩
theorem bg_may : PMsg.may bgM = true := by decide +kernel

/-- Behind the vote; behind the installing. -/
def stH : Np := { gotP (prpP (stB 10) 1) bgM with vo := some (1, bgV2) }
def stI : Np := instP (clkP stH) 1 bgV2
theorem bg_in : inV stI = true := by decide +kernel
theorem bg_view {w : World} {x d : Nat} {F : List Nat} (h : Nd w x d F stI) : Calls Tryz.prog 11 #[.pointer (some ⟨x, 0, none⟩)] w fun e w' => e = .returned (.tuple #[.int .i64 1, .int .i64 3, .bool true]) ∧ Below w.heap.size w w' := by
  have := ndView_in h bg_in
  have e1 : stI.last = 1 := rfl
  have e2 : stI.mem = 3 := bg_tm2
  rw [e1, e2] at this
  exact this

set_option maxHeartbeats 8000000 in
set_option maxRecDepth 100000 in
theorem begunN_c (w : World) (ht : Tab w) : Calls Tryz.prog 12 #[] w fun x w' => x = .returned (.bool true) ∧ Below w.heap.size w w' := by
  have HT := Lib.hid ht
  clear ht
  have b1 := Lib.hid ((Below.refl w.heap.size w).alloc (Nat.le_refl _) (.cells #[.int .i64 0, .int .i64 0] 28))
  have D1 : Hid (Ds (w.alloc (.cells #[.int .i64 0, .int .i64 0] 28)) w.heap.size 0 0) := Lib.hid (Blk.new w _ _)
  go_enter Tryz.func12, Tryz.ntmps12
  go_wp2_with fail
  refine (Sn.make (w0 := w) b1.out (id := 1) (n := 3) D1.out (Nat.le_refl _) (by omega) (by omega) (by omega) (by omega) (by omega) (by omega) (by omega) (by omega)).mono ?_
  rintro e w2 ⟨x, rfl, n2, -⟩
  have N2 := Lib.hid (show Sn w w2 x w.heap.size (stB 0) from n2)
  clear n2 D1 b1
  obtain ⟨d, hd⟩ : ∃ d, w.heap.size = d := ⟨_, rfl⟩
  rw [hd] at N2
  rw [hd]
  have HD := Lib.hid hd
  clear hd
  have N3 := Lib.hid (N2.out.alloc (.cells #[.int .i64 0, .int .i64 0] 28))
  clear N2
  go_wp2_with fail
  refine (make_id _ 4 3 _ (by omega) (by omega) (by omega) (by omega)).mono ?_
  rintro e w3 ⟨rfl, rfl⟩
  generalize w2.alloc (.cells #[.int .i64 0, .int .i64 0] 28) = w3 at *
  go_wp2_with fail
  go_loopw [6] (fun s6 wr => ∃ k : Nat, s6 = .int .i64 (k : Int) ∧ k ≤ 9 ∧ Hid (Sn w wr x d (stB k))) (fun s6 _ => 9 - (intOf s6).toNat)
  case atStart => exact ⟨0, rfl, by omega, N3⟩
  case round =>
    obtain ⟨k, rfl, hk, N4⟩ := hrel
    by_cases hlt : k < 9
    · go_wp2_with fail
      refine (N4.out.post (C := cNone (stB (k + 1))) (fun F hF => tick_of hF (by show (k : Int) < _; omega) _ (fun Q p' h => by rw [h.2]; exact ⟨rfl, rfl⟩) (fun w1 F1 h1 => act_none (p := stB (k + 1)) h1 rfl rfl rfl rfl (by show decide (8 + 2 * (1 : Int) ≤ (k : Int) + 1 - 0) = false; simp; omega)))).mono ?_
      rintro e w5 ⟨Q, p', A, c, ⟨rfl, rfl⟩, rfl, -, n5, -⟩
      have N5 := Lib.hid n5
      clear n5
      go_wp2_with fail
      go_roundw
      case rel => exact ⟨k + 1, by go_num, by omega, N5⟩
      case measure => simp [intOf]; omega
    · obtain rfl : k = 9 := by omega
      go_wp2_with fail
      refine (N4.out.post (C := cProp (stB 10) 3) (fun F hF => tick_of hF (by show (9 : Int) < _; omega) _ (fun Q p' h => by obtain ⟨v, -, -, rfl⟩ := h; exact ⟨rfl, rfl⟩) (fun w1 F1 h1 => act_late (p := stB 10) h1 3 rfl rfl rfl rfl rfl (by show (0 : Int) ≤ _; omega) (by show (0 : Int) ≤ _; omega) rfl rfl))).mono ?_
      rintro e w5 ⟨Q, p', A, c, ⟨v, hv, rfl, rfl⟩, rfl, o5, n5, -⟩
      obtain rfl := bg_next hv
      have eP : propsP (PVote.tm (own (stB 10) 1)) (stB 10).id (stB 10).boot 1 3 = [⟨propM 1 1 1 2, none, 0⟩, ⟨propM 1 1 1 3, none, 0⟩] := by
        show (props (PVote.tm bgV1) 1 1 1 3).map _ = _
        rw [bg_tm1, bg_props]
        rfl
      rw [eP] at o5 ⊢
      clear eP hv
      obtain ⟨g, rfl, -, hg⟩ := o5.some (by decide)
      have k0 : w5.cell? ⟨g, 0, none⟩ = some (.int .i64 1) := (o5.cell rfl (i := 0) rfl).1
      have k4 : w5.cell? ⟨g, 4, none⟩ = some (.int .i64 1) := (o5.cell rfl (i := 4) rfl).1
      have N5 := Lib.hid (show Sn w w5 x d (prpP (stB 10) 1) from n5)
      have D5 : Hid (Ds w5 d 1 1) := Lib.hid n5.disk
      clear o5 n5 N4
      go_wp2_with fail
      refine (view_c w5 d 1 1 D5.out).mono ?_
      rintro e w6 ⟨rfl, rfl⟩
      clear k0 k4
      go_wp2_with fail
      refine (rBytes_c w5 bgM none 0 (Rd.nil _ _ _)).mono ?_
      rintro e w6 ⟨A6, c6, rfl, o6, b6⟩
      have N6 := Lib.hid (N5.out.past b6)
      have R6 := Lib.hid (Rd.of_own o6).tight
      have T6 := Lib.hid (HT.out.past N6.out.bel)
      clear o6 b6 N5 D5
      go_wp2_with fail
      refine (N6.out.post (C := cDone stH) (fun F hF => hear_of hF R6.out (PMsg.enc_byte bgM) T6.out (Nat.le_trans (PMsg.enc_len bgM) (by decide)) (PMsg.dec_enc bg_may) rfl _ (fun Q p' h => by rw [h.2]; exact ⟨rfl, rfl⟩) (fun w1 F1 A1 c1 h1 => hd_vote h1 bgM A1 c1 rfl (v := 1) (V := bgV1) rfl rfl) (fun w1 F1 A1 c1 h1 r1 => heed_vote h1 bgM A1 c1 rfl (v := 1) (V := bgV1) rfl r1))).mono ?_
      rintro e w7 ⟨Q, p', A, c, ⟨rfl, rfl⟩, rfl, -, n7, -⟩
      have N7 := Lib.hid n7
      clear n7 R6 T6 N6
      go_wp2_with fail
      obtain ⟨bf, bl, bc, hbest⟩ := bg_best
      have HBE := Lib.hid hbest
      clear hbest
      refine (N7.out.post (fun F hF => tick_of hF (by show (10 : Int) < _; omega) (fun Q p' => Q.map Mp.m = (PTeam.lst (PTeam.wout (PVote.tm bgV2) 1)).map (fun dst => sends (stI) dst (instM (stI))) ∧ p' = stI) (fun Q p' h => by rw [h.2]; exact ⟨rfl, rfl⟩) (fun w1 F1 h1 => act_votes h1 rfl rfl _ (fun w2 h2 => gather_inst h2 (v := 1) (V := bgV2) rfl rfl bg_most2 bg_has2 HBE.out)))).mono ?_
      rintro e w8 ⟨Q, p', A, c, ⟨hQ, rfl⟩, rfl, o8, n8, -⟩
      rw [bg_lst] at hQ
      obtain ⟨q, rfl, hq⟩ := List.map_eq_singleton_iff.1 (show Q.map Mp.m = [_] from hQ)
      obtain ⟨g, rfl, -, hg⟩ := o8.some (by simp)
      have HQ := Lib.hid (show q.m.kind = 4 by rw [hq]; rfl)
      obtain ⟨F8, h8, -⟩ := n8.ex
      have H8 := Lib.hid h8
      have B8 := Lib.hid n8.bel
      have O8 := Lib.hid o8
      clear n8 h8 o8 hQ hq N7 HBE
      go_wp2_with fail
      refine (bg_view H8.out).mono ?_
      rintro e w9 ⟨rfl, b9⟩
      have H9 := Lib.hid (H8.out.past b9)
      have B9 := Lib.hid (B8.out.trans (b9.mono B8.out.size))
      have O9 := O8.out.past b9
      have k0 : w9.cell? ⟨g, 0, none⟩ = some (.int .i64 4) := by
        have := (O9.cell rfl (i := 0) (u := .int .i64 q.m.kind) rfl).1
        rw [HQ.out] at this
        exact this
      clear b9 O8 H8 B8 O9
      go_wp2_with fail
      refine (ndGood_in H9.out bg_in rfl).mono ?_
      rintro e w10 ⟨rfl, b10⟩
      have H10 := Lib.hid (H9.out.past b10)
      have B10 := Lib.hid (B9.out.trans (b10.mono B9.out.size))
      clear b10 k0
      go_wp2_with fail
      refine (ndClock_c H10.out).mono ?_
      rintro e w11 ⟨rfl, rfl⟩
      rw [show stI.clock = 11 from rfl]
      go_wp2_with fail
      refine (ndBoot_c H10.out).mono ?_
      rintro e w11 ⟨rfl, rfl⟩
      rw [show stI.boot = 1 from rfl]
      go_wp2_with fail
      refine (ndKnows_c H10.out (b := true) rfl).mono ?_
      rintro e w11 ⟨rfl, rfl⟩
      go_wp2_with fail
      go_ret
      exact ⟨rfl, B10.out⟩
end Go.Proofs.YtfolifhgmdglaaaGreatDoor

/- What the laws of layer 25 call: hear, from; of no process. -/
namespace Go.Proofs.YtfolifhgmdglaaaGreatDoor
open Go.RowKit PNode

/-- A message of another one's first start. -/
def fromM (kind id dst view : Int) : Msg := ⟨kind, id, dst, 1, view, 0, 0, 0, [], 0, 0, 0, false⟩
theorem from_c (w : World) (kind id dst view : Int) :
    Calls Tryz.prog 27 #[.int .i64 kind, .int .i64 id, .int .i64 dst, .int .i64 view] w fun e w' => e = .returned (mv (fromM kind id dst view) none 0) ∧ Below w.heap.size w w' := by
  have K := Blk.new w #[.int .i64 0, .int .i64 0, .int .i64 0, .int .i64 0, .int .i64 0, .int .i64 0, .int .i64 0, .int .i64 0, .slice none 0 0, .int .i64 0, .int .i64 0, .int .i64 0, .bool false] 47
  have K2 := K.row (mcs (fromM kind id dst view) none 0).toArray
  have HK := Lib.hid K
  have HK2 := Lib.hid K2
  have b0 := Lib.hid ((Below.refl w.heap.size w).alloc (Nat.le_refl _) (.cells #[.int .i64 0, .int .i64 0, .int .i64 0, .int .i64 0, .int .i64 0, .int .i64 0, .int .i64 0, .int .i64 0, .slice none 0 0, .int .i64 0, .int .i64 0, .int .i64 0, .bool false] 47))
  clear K K2
  go_enter Tryz.func27, Tryz.ntmps27
  go_wp2_with ((with_reducible show wpList _ _ _ ((⟨none, Op.store 47 (.tmp 8) _, _, _, _, _⟩ : Oper) :: _) _ _); go_must (refine wpList_store_row rfl 47 (.tmp 8) (.tmp 13) rfl w.heap.size _ rfl rfl _ _ HK.out (by kernel_rfl) (by rfl) (by kernel_rfl) ?_))
  refine bodyPost_ret (v := mv (fromM kind id dst view) none 0) (results_cell_row rfl _ _ w.heap.size _ _ _ _ rfl HK2.out Tryz.underlying47 rfl (by kernel_rfl)) rfl ⟨rfl, ?_⟩
  exact b0.out.trans (grown_below (grown_row _ w.heap.size _) (Nat.le_refl _) b0.out.size)

/-- What a law sees of a call that writes its process. -/
def SnPost (w0 w : World) (x d : Nat) (C : List Mp → Np → Prop) (e : Ending) (w' : World) : Prop :=
  ∃ Q p' A c, C Q p' ∧ e = .returned (.slice A Q.length c) ∧ Ow w' w.heap.size 47 13 A Q.length c (mgs Q) ∧ Sn w0 w' x d p' ∧ Kept w0 w w'

set_option maxHeartbeats 4000000 in
set_option maxRecDepth 100000 in
theorem hearL {w0 w : World} {x d : Nat} {p : Np} (h : Sn w0 w x d p) (m : Msg) (A : Option Addr) (c : Nat) (R : Rd w w.heap.size A c 7 m.es.length (els m.es)) (ht : Tab w0) {C : List Mp → Np → Prop}
    (k : ∀ w1 F1, Nd w1 x d F1 p → ∀ Ab cb nb, Rd w1 w1.heap.size Ab cb 1 nb (bs (PMsg.enc m)) → nb ≤ 1000000 → Tab w1 → Calls Tryz.prog 14 #[.pointer (some ⟨x, 0, none⟩), .slice Ab nb cb] w1 (TickPost w1 x d F1 C)) :
    Calls Tryz.prog 26 #[.pointer (some ⟨x, 0, none⟩), mv m A c] w (SnPost w0 w x d C) := by
  have HS := Lib.hid (h.alloc (.cells #[.int .i64 m.kind, .int .i64 m.fr, .int .i64 m.dst, .int .i64 m.boot, .int .i64 m.view, .int .i64 m.last, .int .i64 m.mem, .int .i64 m.pos, .slice A m.es.length c, .int .i64 m.com, .int .i64 m.num, .int .i64 m.clk, .bool m.yes] 47))
  have K1 := Lib.hid (Blk.new w #[.int .i64 m.kind, .int .i64 m.fr, .int .i64 m.dst, .int .i64 m.boot, .int .i64 m.view, .int .i64 m.last, .int .i64 m.mem, .int .i64 m.pos, .slice A m.es.length c, .int .i64 m.com, .int .i64 m.num, .int .i64 m.clk, .bool m.yes] 47)
  have b1 := Lib.hid ((Below.refl w.heap.size w).alloc (Nat.le_refl _) (.cells #[.int .i64 m.kind, .int .i64 m.fr, .int .i64 m.dst, .int .i64 m.boot, .int .i64 m.view, .int .i64 m.last, .int .i64 m.mem, .int .i64 m.pos, .slice A m.es.length c, .int .i64 m.com, .int .i64 m.num, .int .i64 m.clk, .bool m.yes] 47))
  have HR := Lib.hid ((R.past ((Below.refl w.heap.size w).alloc (Nat.le_refl _) (.cells #[.int .i64 m.kind, .int .i64 m.fr, .int .i64 m.dst, .int .i64 m.boot, .int .i64 m.view, .int .i64 m.last, .int .i64 m.mem, .int .i64 m.pos, .slice A m.es.length c, .int .i64 m.com, .int .i64 m.num, .int .i64 m.clk, .bool m.yes] 47))).tight)
  have HT := Lib.hid ht
  have HK := Lib.hid k
  have h0 := Lib.hid h.bel.size
  clear h R ht k
  show Calls _ _ #[_, .agg #[.int .i64 m.kind, .int .i64 m.fr, .int .i64 m.dst, .int .i64 m.boot, .int .i64 m.view, .int .i64 m.last, .int .i64 m.mem, .int .i64 m.pos, .slice A m.es.length c, .int .i64 m.com, .int .i64 m.num, .int .i64 m.clk, .bool m.yes]] _ _
  go_enter Tryz.func26, Tryz.ntmps26
  go_wp2_with ((with_reducible show wpList _ _ _ ((⟨some 6, Op.load _ _, _, _, _, _⟩ : Oper) :: _) _ _); go_must (refine wpList_load_row rfl 47 (.tmp 3) rfl w.heap.size rfl 47 #[.int .i64 m.kind, .int .i64 m.fr, .int .i64 m.dst, .int .i64 m.boot, .int .i64 m.view, .int .i64 m.last, .int .i64 m.mem, .int .i64 m.pos, .slice A m.es.length c, .int .i64 m.com, .int .i64 m.num, .int .i64 m.clk, .bool m.yes] (0, 0) _ K1.out Tryz.underlying47 rfl (by kernel_rfl) ?_))
  refine (rBytes_c _ m A c HR.out).mono ?_
  rintro e w2 ⟨A2, c2, rfl, o2, b2⟩
  have S2 := Lib.hid (HS.out.past b2)
  have R2 := Lib.hid (Rd.of_own o2).tight
  have T2 := Lib.hid (HT.out.past S2.out.bel)
  have b2' := Lib.hid (b1.out.trans (b2.mono b1.out.size))
  clear o2 b2 HS K1 HR b1
  go_wp2_with fail
  refine (S2.out.post (C := C) (fun F hF => HK.out w2 F hF A2 c2 _ R2.out (Nat.le_trans (PMsg.enc_len m) (by decide)) T2.out)).mono ?_
  rintro e w3 ⟨Q, p', A3, c3, q1, rfl, o3, s3, k3⟩
  have Q1 := Lib.hid q1
  have O3 := Lib.hid o3
  have S3 := Lib.hid s3
  have K3 := Lib.hid k3
  clear q1 o3 s3 k3
  go_wp2_with fail
  go_ret
  exact ⟨Q, p', A3, c3, Q1.out, rfl, O3.out.down b2'.out.size, S3.out, (Kept.of_below b2'.out h0.out).trans K3.out⟩

theorem hearL_of {w0 w : World} {x d : Nat} {p : Np} (h : Sn w0 w x d p) (m : Msg) (A : Option Addr) (c : Nat) (R : Rd w w.heap.size A c 7 m.es.length (els m.es)) (ht : Tab w0) (hm : PMsg.may m = true) (he : PGram.herr p.id p.G (some m) = 0) {C : List Mp → Np → Prop} (hC : ∀ Q p', C Q p' → p'.L = [] ∧ p'.com = 0)
    (hheeds : ∀ w1 F1 A c, Nd w1 x d F1 (gotP p m) → Calls Tryz.prog 47 #[.pointer (some ⟨x, 0, none⟩), mv m A c] w1 fun e w' => e = .returned (.bool true) ∧ Below w1.heap.size w1 w')
    (hheed : ∀ w1 F1 A c, Nd w1 x d F1 (gotP p m) → Rd w1 w1.heap.size A c 7 m.es.length (els m.es) → Calls Tryz.prog 48 #[.pointer (some ⟨x, 0, none⟩), mv m A c] w1 (TickPost w1 x d F1 C)) :
    Calls Tryz.prog 26 #[.pointer (some ⟨x, 0, none⟩), mv m A c] w (SnPost w0 w x d C) :=
  hearL h m A c R ht (fun _ _ hF _ _ _ r hn t => hear_of hF r (PMsg.enc_byte m) t hn (PMsg.dec_enc hm) he C hC hheeds hheed)
theorem hearL_not {w0 w : World} {x d : Nat} {p : Np} (h : Sn w0 w x d p) (m : Msg) (A : Option Addr) (c : Nat) (R : Rd w w.heap.size A c 7 m.es.length (els m.es)) (ht : Tab w0) (hm : PMsg.may m = true) (he : PGram.herr p.id p.G (some m) = 0)
    (hheeds : ∀ w1 F1 A c, Nd w1 x d F1 (gotP p m) → Calls Tryz.prog 47 #[.pointer (some ⟨x, 0, none⟩), mv m A c] w1 fun e w' => e = .returned (.bool false) ∧ Below w1.heap.size w1 w') :
    Calls Tryz.prog 26 #[.pointer (some ⟨x, 0, none⟩), mv m A c] w (SnPost w0 w x d (cDone (gotP p m))) :=
  hearL h m A c R ht (fun _ _ hF _ _ _ r hn t => hear_not hF r (PMsg.enc_byte m) t hn (PMsg.dec_enc hm) he hheeds)

/-! Of no process. -/
theorem ndView_nil (w : World) : Calls Tryz.prog 11 #[.pointer none] w fun e w' => e = .returned (.tuple #[.int .i64 0, .int .i64 0, .bool false]) ∧ w = w' := by
  go_enter Tryz.func11, Tryz.ntmps11
  go_wp2_with fail
  go_ret3
  exact ⟨rfl, rfl⟩
theorem ndTick_nil (w : World) : Calls Tryz.prog 13 #[.pointer none] w fun e w' => e = .returned (.slice none 0 0) ∧ w = w' := by
  go_enter Tryz.func13, Tryz.ntmps13
  go_wp2_with fail
  go_ret
  exact ⟨rfl, rfl⟩
theorem ndHear_nil (w : World) : Calls Tryz.prog 14 #[.pointer none, .slice none 0 0] w fun e w' => e = .returned (.slice none 0 0) ∧ w = w' := by
  go_enter Tryz.func14, Tryz.ntmps14
  go_wp2_with fail
  go_ret
  exact ⟨rfl, rfl⟩
theorem ndCast_nil (w : World) : Calls Tryz.prog 15 #[.pointer none, .int .i64 0, .int .i64 0, .string ⟨#[]⟩] w fun e w' => e = .returned (.int .i64 5) ∧ w = w' := by
  go_enter Tryz.func15, Tryz.ntmps15
  go_wp2_with fail
  go_ret
  exact ⟨rfl, rfl⟩
theorem ndGood_nil (w : World) : Calls Tryz.prog 16 #[.pointer none] w fun e w' => e = .returned (.bool false) ∧ Below w.heap.size w w' := by
  go_enter Tryz.func16, Tryz.ntmps16
  go_wp2_with fail
  go_quiet (fail)
  go_wp2_with fail
  go_ret
  exact ⟨rfl, drewN_below _ _⟩
theorem ndTold_nil (w : World) : Calls Tryz.prog 17 #[.pointer none] w fun e w' => e = .returned (.slice none 0 0) ∧ w = w' := by
  go_enter Tryz.func17, Tryz.ntmps17
  go_wp2_with fail
  go_ret
  exact ⟨rfl, rfl⟩
theorem ndLog_nil (w : World) : Calls Tryz.prog 18 #[.pointer none] w fun e w' => e = .returned (.slice none 0 0) ∧ w = w' := by
  go_enter Tryz.func18, Tryz.ntmps18
  go_wp2_with fail
  go_ret
  exact ⟨rfl, rfl⟩
theorem ndCommit_nil (w : World) : Calls Tryz.prog 19 #[.pointer none] w fun e w' => e = .returned (.int .i64 0) ∧ w = w' := by
  go_enter Tryz.func19, Tryz.ntmps19
  go_wp2_with fail
  go_ret
  exact ⟨rfl, rfl⟩
theorem ndClock_nil (w : World) : Calls Tryz.prog 20 #[.pointer none] w fun e w' => e = .returned (.int .i64 0) ∧ w = w' := by
  go_enter Tryz.func20, Tryz.ntmps20
  go_wp2_with fail
  go_ret
  exact ⟨rfl, rfl⟩
theorem ndBoot_nil (w : World) : Calls Tryz.prog 21 #[.pointer none] w fun e w' => e = .returned (.int .i64 0) ∧ w = w' := by
  go_enter Tryz.func21, Tryz.ntmps21
  go_wp2_with fail
  go_ret
  exact ⟨rfl, rfl⟩
theorem ndKnows_nil (w : World) : Calls Tryz.prog 22 #[.pointer none] w fun e w' => e = .returned (.bool false) ∧ w = w' := by
  go_enter Tryz.func22, Tryz.ntmps22
  go_wp2_with fail
  go_ret
  exact ⟨rfl, rfl⟩
theorem ndLast_nil (w : World) : Calls Tryz.prog 23 #[.pointer none] w fun e w' => e = .returned (.int .i64 0) ∧ w = w' := by
  go_enter Tryz.func23, Tryz.ntmps23
  go_wp2_with fail
  go_ret
  exact ⟨rfl, rfl⟩
theorem ndWaits_nil (w : World) : Calls Tryz.prog 24 #[.pointer none] w fun e w' => e = .returned (.int .i64 0) ∧ w = w' := by
  go_enter Tryz.func24, Tryz.ntmps24
  go_wp2_with fail
  go_ret
  exact ⟨rfl, rfl⟩
end Go.Proofs.YtfolifhgmdglaaaGreatDoor

/- What the rows' condition on the listed variables gives: the table of crc lies as it is declared. -/
namespace Go.Proofs.YtfolifhgmdglaaaGreatDoor
open Go.RowKit

end Go.Proofs.YtfolifhgmdglaaaGreatDoor

/- A law's process ticks on, whatever it does: it hears nothing, or nothing that it takes part in. -/
namespace Go.Proofs.YtfolifhgmdglaaaGreatDoor
open Go.RowKit PNode

theorem own_ok {p : Np} (h : Nr p) {v : Int} (hl : p.last < v) : PVote.ok v p.n PVote.none7 ⟨p.id, p.last, [], 0⟩ = true := by
  have h1 := h.id
  have h2 := h.last.1
  have e : PTeam.has (PVote.tm PVote.none7) p.id = false := by rw [PVote.tm_none]; unfold PTeam.has; simp
  unfold PVote.ok PVote.good
  rw [e]
  have e2 : PVote.isLog [] = true := by decide
  simp only [e2, Bool.not_false, Bool.and_true, Bool.and_eq_true, decide_eq_true_eq]
  refine ⟨⟨⟨h1.1, h1.2⟩, h2, hl⟩, Int.le_refl _, Int.le_refl _⟩
theorem own_tm {p : Np} (h : Nr p) {v : Int} (hl : p.last < v) : PVote.tm (own p v) = PTeam.one p.id := by
  unfold own PVote.add
  rw [if_pos (own_ok h hl), PVote.tm_put _ (by rfl) _ h.id.1 (by have := h.id; have := h.n; show p.id ≤ 7; omega), PVote.tm_none]
  unfold PTeam.wth
  simp
theorem most_one {id n : Int} (h1 : 1 ≤ id) (h2 : id ≤ n) (h3 : 3 ≤ n) (h7 : n ≤ 7) : PTeam.most (PTeam.one id) n = false := by
  obtain ⟨i, rfl⟩ : ∃ i : Nat, id = (i : Int) + 1 := ⟨(id - 1).toNat, by omega⟩
  obtain ⟨k, rfl⟩ : ∃ k : Nat, n = (k : Int) + 3 := ⟨(n - 3).toNat, by omega⟩
  have hi : i < 7 := by omega
  have hk : k < 5 := by omega
  have := List.all_eq_true.1 (List.all_eq_true.1 (by decide +kernel : (List.range 7).all (fun i => (List.range 5).all fun k => !PTeam.most (PTeam.one ((i : Int) + 1)) ((k : Int) + 3)) = true) i (List.mem_range.2 hi)) k (List.mem_range.2 hk)
  simpa using this

/-- It waits, or has its own vote alone; it is in no view; k ticks went by. -/
structure Pg (id n boot : Int) (k : Int) (p : Np) : Prop where
  eid : p.id = id
  en : p.n = n
  eboot : p.boot = boot
  clock : p.clock = k
  knows : p.knows = (boot == 1)
  last : p.last = 0
  L : p.L = []
  com : p.com = 0
  te : p.te = none
  den : p.den = 0
  pro : p.pro ≤ 8 * k
  jo : ∃ j, p.jo = some j
  G : p.G = PGram.zeroL
  vo : p.vo = none ∨ ∃ V, p.vo = some (p.pro, V) ∧ PTeam.most (PVote.tm V) n = false
theorem Pg.new (id n boot : Int) : Pg id n boot 0 (newP id n boot 0) := ⟨rfl, rfl, rfl, rfl, rfl, rfl, rfl, rfl, rfl, rfl, Int.le_refl _, ⟨_, rfl⟩, rfl, .inl rfl⟩
theorem Pg.clk {id n boot k : Int} {p : Np} (h : Pg id n boot k p) : Pg id n boot (k + 1) (clkP p) :=
  ⟨h.eid, h.en, h.eboot, by show p.clock + 1 = k + 1; rw [h.clock], h.knows, h.last, h.L, h.com, h.te, h.den, by have := h.pro; show p.pro ≤ 8 * (k + 1); omega, h.jo, h.G, h.vo⟩
theorem Pg.prp {id n boot k : Int} {p : Np} (h : Pg id n boot k p) (hr : Nr p) {v : Int} (hv : IsNext p.id p.n (max p.pro p.den + 1) v) (hk : p.pro + 7 ≤ 8 * k) : Pg id n boot k (prpP p v) := by
  have e1 := hv.1
  have e2 := hv.2.1
  have e3 := hr.n
  have e4 := hr.id
  have e5 := hr.pro
  have e6 : max p.pro p.den = p.pro := by rw [h.den]; exact Int.max_eq_left e5.1
  rw [e6] at e1 e2
  refine ⟨h.eid, h.en, h.eboot, h.clock, h.knows, h.last, rfl, rfl, rfl, rfl, by show v ≤ 8 * k; omega, h.jo, h.G, .inr ⟨own p v, rfl, ?_⟩⟩
  rw [own_tm hr (by rw [h.last]; omega), ← h.en]
  exact most_one e4.1 e4.2 e3.1 e3.2

/-- One tick more. -/
theorem Sn.tick {w0 w : World} {x d : Nat} {p : Np} (h : Sn w0 w x d p) {id n boot k : Int} (hp : Pg id n boot k p) (h0 : 0 ≤ k) (hk : k ≤ 1000) :
    Calls Tryz.prog 13 #[.pointer (some ⟨x, 0, none⟩)] w (SnPost w0 w x d (fun _ p' => Pg id n boot (k + 1) p')) := by
  have hr := h.r
  have hpc := hp.clk
  have hrc := hr.clk (by rw [hp.clock]; omega)
  obtain ⟨N, hN⟩ : ∃ N : Nat, p.n = N := ⟨p.n.toNat, by have := hr.n; omega⟩
  refine h.post (fun F hF => tick_of hF (by rw [hp.clock]; omega) _ (fun Q p' hh => ⟨hh.L, hh.com⟩) (fun w1 F1 h1 => ?_))
  have hw : ∀ {C C' : List Mp → Np → Prop} {e : Ending} {w' : World}, (∀ Q p', C Q p' → C' Q p') → TickPost w1 x d F1 C e w' → TickPost w1 x d F1 C' e w' := fun hc ⟨Q, p', A, c, q1, q2, q3, q4⟩ => ⟨Q, p', A, c, hc Q p' q1, q2, q3, q4⟩
  have hpro : (clkP p).pro ≤ 1000000 := by have := hp.pro; show p.pro ≤ _; omega
  have hden : (clkP p).den ≤ 1000000 := by rw [hpc.den]; omega
  have hprp : ∀ Q p', cProp (clkP p) N Q p' → Pg id n boot (k + 1) p' := fun Q p' ⟨v, hv, _, e⟩ => by
    rw [e]; exact hpc.prp hrc hv (by have := hp.pro; show p.pro + 7 ≤ _; omega)
  cases hkn : p.knows
  · obtain ⟨j, hj⟩ := hp.jo
    exact (act_ask h1 N hN hkn hj).mono fun e w' hh => hw (fun Q p' hc => by rw [hc.2]; exact hpc) hh
  · rcases hp.vo with hv | ⟨V, hv, hm⟩
    · have e0 : hasV (clkP p) = false := by unfold hasV; rw [show (clkP p).vo = none from hv]
      cases hl : late (clkP p)
      · have hi : inV (clkP p) = false := by unfold inV; rw [show (clkP p).last = 0 from hp.last]; simp
        exact (act_none h1 hkn e0 hp.te hi hl).mono fun e w' hh => hw (fun Q p' hc => by rw [hc.2]; exact hpc) hh
      · exact (act_late h1 N hN hkn e0 hp.te hl hpro hden hp.L hp.com).mono fun e w' hh => hw hprp hh
    · have e0 : hasV (clkP p) = true := by unfold hasV; rw [show (clkP p).vo = some (p.pro, V) from hv]; exact beq_self_eq_true p.pro
      have hm' : PTeam.most (PVote.tm V) (clkP p).n = false := by rw [show (clkP p).n = n from hp.en]; exact hm
      cases hl : late (clkP p)
      · exact act_votes h1 hkn e0 _ (fun w2 h2 => (gather_canv h2 N hN (show (clkP p).vo = some (p.pro, V) from hv) hm' hp.den hl).mono fun e w' ⟨Q, p', A, c, q1, q2, q3, q4⟩ => ⟨Q, p', A, c, by rw [q1.2]; exact hpc, q2, q3, q4⟩)
      · exact act_votes h1 hkn e0 _ (fun w2 h2 => (gather_late h2 N hN (show (clkP p).vo = some (p.pro, V) from hv) hm' hp.den hl hpro hp.L hp.com).mono fun e w' ⟨Q, p', A, c, q1, q2, q3, q4⟩ => ⟨Q, p', A, c, hprp Q p' q1, q2, q3, q4⟩)
end Go.Proofs.YtfolifhgmdglaaaGreatDoor

