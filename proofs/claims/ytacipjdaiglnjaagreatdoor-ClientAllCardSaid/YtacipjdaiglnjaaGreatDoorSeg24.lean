/- Contracts of curfewref1's Put, PutText, Get, GetText. -/
import Derived.Test.YtacipjdaiglnjaaGreatDoorSeg15
import Derived.Test.YtacipjdaiglnjaaGreatDoorSeg22
import Derived.Test.YtacipjdaiglnjaaGreatDoorSeg13
import Derived.Test.YtacipjdaiglnjaaGreatDoorSeg4
import Derived.Test.YtacipjdaiglnjaaGreatDoorSeg23
import Derived.Test.YtacipjdaiglnjaaGreatDoorSeg18
import Derived.Test.YtacipjdaiglnjaaGreatDoorSeg19
import Derived.Test.YtacipjdaiglnjaaGreatDoorSeg20
import Derived.Test.YtacipjdaiglnjaaGreatDoorSeg12
import Derived.Test.YtacipjdaiglnjaaGreatDoorSeg2
import Derived.Great.BuildSlice
namespace Go.Proofs.YtacipjdaiglnjaaGreatDoor
open Go.RowKit

theorem zig_lib (x : Int) : Lib.zigzag x = PNum.zig x := by unfold Lib.zigzag PNum.zig; split <;> split <;> omega
theorem low_seven (v : Nat) : IntKind.u8.wrap ((v : Int) % 128 + 128) = ((v % 128 + 128 : Nat) : Int) := by rw [IntKind.wrap_u8']; omega

set_option maxRecDepth 100000 in
theorem rPut_c (w : World) (x : Int) (h1 : -9223372036854775808 ≤ x) (h2 : x ≤ 9223372036854775807) :
    Calls Tryz.prog 59 #[.int .i64 x] w fun e w' => ∃ A' c', e = .returned (.slice A' (PNum.sev (PNum.zig x)).length c') ∧
      w'.ownsRow w.heap.size 5 1 (.slice A' (PNum.sev (PNum.zig x)).length c') (PNum.sev (PNum.zig x)).length (bs (PNum.sev (PNum.zig x))) ∧ Below w.heap.size w w' := by
  have hz := PNum.zig_lt x h1 h2
  have hten := PNum.sev_ten _ hz
  have HT := Lib.hid hten; clear hten
  have HZ := Lib.hid hz; clear hz
  have hpos : ¬ x < 0 → IntKind.u64.wrap (IntKind.u64.wrap x * 2) = ((PNum.zig x : Nat) : Int) := by
    intro h
    rw [IntKind.wrap_u64, IntKind.wrap_u64]; unfold PNum.zig; rw [if_neg h]; omega
  have hneg : x < 0 → bits .xor .u64 IntKind.u64.max (IntKind.u64.wrap (IntKind.u64.wrap x * 2)) = ((PNum.zig x : Nat) : Int) := by
    intro h; rw [Lib.zigzag_neg h1 h, zig_lib]
  have hdbl : ¬ x < 0 → x * 2 = ((PNum.zig x : Nat) : Int) := by intro h; unfold PNum.zig; rw [if_neg h]; omega
  have HD := Lib.hid hdbl; clear hdbl
  generalize PNum.zig x = U at *
  by_cases hn : x < 0
  all_goals
    first | (have hU := hneg hn) | (have hU := hpos hn)
    clear hpos hneg
    go_enter Tryz.func59, Tryz.ntmps59
    go_wp2
    clear hU
    go_loopw [3, 4] (fun s3 s4 wr => ∃ (A' : Option Addr) (c' n' v : Nat) (m : List Int), s4 = .slice A' n' c' ∧ s3 = .int .u64 v ∧ v < 18446744073709551616 ∧ n' ≤ 10 ∧
        wr.ownsRow w.heap.size 5 1 (.slice A' n' c') n' (bs m) ∧ n' + (PNum.sev v).length = (PNum.sev U).length ∧ m ++ PNum.sev v = PNum.sev U ∧ Below w.heap.size w wr)
      (fun s3 _ _ => (intOf s3).toNat)
    case atStart => exact ⟨none, 0, 0, U, [], rfl, by first | rfl | exact congrArg (Value.int .u64) (HD.out hn), HZ.out, by omega, World.ownsRow_nil _ _ _ _, by simp, rfl, Below.refl _ _⟩
    case round =>
      obtain ⟨A', c', n', v, m, rfl, rfl, hv, hn', hown', hlen, hm, hbel⟩ := hrel
      have hq : IntKind.u64.wrap ((v : Int) / 128) = ((v / 128 : Nat) : Int) := by rw [IntKind.wrap_u64]; omega
      have HV := Lib.hid hv; clear hv
      have HL := Lib.hid hlen; clear hlen
      have HM := Lib.hid hm; clear hm
      have hsz := hbel.size
      by_cases hlt : 128 ≤ v
      · have hs := PNum.sev_hi hlt
        have HS := Lib.hid hs; clear hs
        have hb := low_seven v
        go_wp2_with (at_builtin; go_must (refine wpList_push rfl (.tmp 14) (.tmp 19) _ rfl w.heap.size 5 _ 1 Tryz.underlying68 byte_info rfl A' c' n' (bs m) rfl hown' rfl rfl ?c2 ?c3 ?c4 ?_))
        case c2 => unfold maxLen; omega
        case c3 => omega
        case c4 => omega
        intro A2 c2 w2 hown2 hgrow2 hbel2
        go_wp2
        go_roundw
        case rel =>
          have h1 := HL.out; have h2 := HM.out; have h3 := HS.out; have h4 := HT.out
          have h5 := PNum.sev_pos (v / 128)
          rw [h3] at h1 h2
          refine ⟨A2, c2, n' + 1, v / 128, m ++ [((v % 128 + 128 : Nat) : Int)], rfl, by go_num, by have := HV.out; omega, ?_, ?_, by simp at h1; omega, by simpa using h2, hbel.trans hbel2⟩
          · simp at h1; omega
          · simpa [bs] using hown2
        case measure => simp [intOf]; omega
      · go_wp2_with (at_builtin; go_must (refine wpList_push rfl (.tmp 23) (.tmp 26) _ rfl w.heap.size 5 _ 1 Tryz.underlying68 byte_info rfl A' c' n' (bs m) rfl hown' rfl rfl ?c2 ?c3 ?c4 ?_))
        case c2 => unfold maxLen; omega
        case c3 => omega
        case c4 => omega
        intro A2 c2 w2 hown2 hgrow2 hbel2
        go_wp2
        go_ret
        have h1 := HL.out; have h2 := HM.out
        rw [PNum.sev_lo (by omega)] at h1 h2
        simp at h1
        refine ⟨A2, c2, ?_, ?_, hbel.trans hbel2⟩
        · rw [← h1]; rfl
        · rw [← h1, ← h2]
          have e : ((v : Int) % 256) = v := by omega
          simpa [bs, e] using hown2

end Go.Proofs.YtacipjdaiglnjaaGreatDoor

/- Contract of curfewref1's PutText. -/
namespace Go.Proofs.YtacipjdaiglnjaaGreatDoor
open Go.RowKit

set_option maxRecDepth 100000 in
theorem rPutText_c (w : World) (s : ByteArray) (hs : s.size ≤ 500000000000) :
    Calls Tryz.prog 105 #[.string s] w fun e w' => ∃ A' c', e = .returned (.slice A' ((PNum.sev (PNum.zig s.size)).length + s.size) c') ∧
      w'.ownsRow w.heap.size 5 1 (.slice A' ((PNum.sev (PNum.zig s.size)).length + s.size) c') ((PNum.sev (PNum.zig s.size)).length + s.size) (bs (PNum.sev (PNum.zig s.size) ++ sb s)) ∧ Below w.heap.size w w' := by
  have hz : PNum.zig s.size < 18446744073709551616 := PNum.zig_lt _ (by omega) (by omega)
  have ht := PNum.sev_ten _ hz
  have HT := Lib.hid ht; clear ht
  clear hz
  go_enter Tryz.func105, Tryz.ntmps105
  go_wp2_with fail
  refine (rPut_c w s.size (by omega) (by omega)).mono ?_
  rintro e w1 ⟨A1, c1, rfl, hown1, hb1⟩
  have hsz := hb1.size
  go_wp2_with (at_builtin; go_must (refine wpList_appStr rfl (.tmp 5) (.tmp 6) _ _ rfl w.heap.size 5 Tryz.underlying68 Tryz.underlying9 byte_info _ _ _ rfl hown1 s rfl ?c1 ?c2 ?c3 ?_))
  case c1 => have := HT.out; unfold maxLen; omega
  case c2 => have := HT.out; omega
  case c3 => omega
  intro A3 c3 w3 hown3 hg3 hb3
  go_wp2_with fail
  go_ret
  refine ⟨A3, c3, rfl, ?_, hb1.trans hb3⟩
  rw [bs_append]
  exact hown3

end Go.Proofs.YtacipjdaiglnjaaGreatDoor

/- Contract of the document's Entries. -/
namespace Go.Proofs.YtacipjdaiglnjaaGreatDoor
open Go.RowKit

/-- A block of another type, behind a call that made a row of one's own grow. -/
theorem Blk.grown_own {w w' : World} {g base k n : Nat} {t e : TypeId} {v : Value} {ys xs : List Value} (h : Blk w g t ys) (ho : w.ownsRow base e k v n xs) (hg : w.grownBy w' v.ownBlock) (hne : t ≠ e) : Blk w' g t ys := by
  refine (hg.block g h.lt ?_).trans h
  rcases ho.2 with ⟨hv, _⟩ | ⟨g', cap, cur, hv, _, hh, _⟩
  · rw [hv]; simp [Value.ownBlock]
  · rw [hv]
    simp only [Value.ownBlock]
    intro hx
    have hx : g = g' := by injection hx
    subst hx
    have := h.symm.trans hh
    simp at this
    exact hne this.2

set_option maxHeartbeats 4000000 in
set_option maxRecDepth 100000 in
theorem rEntries_c (w : World) (B : Nat) (A : Option Addr) (c n : Nat) (l : List Ent) (h : Rd w B A c 7 n (els l)) (hn : n ≤ 1000000) :
    Calls Tryz.prog 61 #[.slice A n c] w fun x w' => ∃ A' c', x = .returned (.slice A' (PEnt.encode l).length c') ∧
      w'.ownsRow w.heap.size 5 1 (.slice A' (PEnt.encode l).length c') (PEnt.encode l).length (bs (PEnt.encode l)) ∧ Below w.heap.size w w' := by
  have R0 := Lib.hid h.tight
  have HLn := Lib.hid h.elen
  clear h
  go_enter Tryz.func61, Tryz.ntmps61
  go_wp2_with fail
  go_loopw [3, 4, 5, 6, 7] (fun s3 s4 _ _ _ wr => ∃ (i m c' : Nat) (A' : Option Addr), i ≤ n ∧ m ≤ 86 * i ∧ s4 = .int .i64 i ∧ s3 = .slice A' m c' ∧ Hid ((l.take i).all PEnt.may = true) ∧
      Hid (wr.ownsRow w.heap.size 5 1 (.slice A' m c') m (bs (PEnt.enc (l.take i)))) ∧ Hid (Below w.heap.size w wr))
    (fun _ s4 _ _ _ _ => n - (intOf s4).toNat)
  case atStart => exact ⟨0, 0, 0, none, by omega, by omega, rfl, rfl, Lib.hid (by simp), Lib.hid (World.ownsRow_nil _ _ _ _), Lib.hid (Below.refl _ _)⟩
  case round =>
    obtain ⟨i, m, c1, A1, hi, hm, rfl, rfl, HA, O, BL⟩ := hrel
    by_cases hlt : i < n
    · obtain ⟨b, o, e, rfl, -, he, hmem, d0, d1, d2, d3, d4, d5, d6⟩ := (R0.out.below BL.out).ent hlt
      have HE := Lib.hid he
      have HM := Lib.hid hmem
      clear he hmem
      go_wp2_with fail
      clear d0 d1 d2 d3 d4 d5 d6
      have b1 := (Below.refl wr.heap.size wr).alloc (Nat.le_refl _) (.cells #[.int .i64 e.fr, .int .i64 e.boot, .int .i64 e.seq, .int .i64 e.ord, .int .i64 e.lev, .int .i64 e.stamp, .string e.data] 93)
      have K1 := Blk.newEnt wr 93 e
      generalize wr.alloc (.cells #[.int .i64 e.fr, .int .i64 e.boot, .int .i64 e.seq, .int .i64 e.ord, .int .i64 e.lev, .int .i64 e.stamp, .string e.data] 93) = w1 at *
      cases hy : PEnt.may e
      · have HB := Lib.hid (encode_bad HM.out hy)
        refine (rMay_c w1 e).mono ?_
        rw [hy]
        rintro x w2 ⟨rfl, b2⟩
        have B2 := Lib.hid ((BL.out.trans (b1.mono BL.out.size)).trans (b2.mono (Nat.le_trans BL.out.size b1.size)))
        clear b1 b2 K1 hy
        go_wp2_with fail
        go_ret
        refine ⟨none, 0, ?_, ?_, B2.out⟩
        · rw [HB.out]; rfl
        · rw [HB.out]; exact World.ownsRow_nil _ _ _ _
      · have hmay := (PEnt.may_iff e).1 hy
        have HS1 := Lib.hid (show (l.take (i + 1)).all PEnt.may = true by rw [all_snoc HE.out, HA.out, hy]; rfl)
        have HS2 := Lib.hid (enc_snoc HE.out)
        have HY := Lib.hid hmay
        refine (rMay_c w1 e).mono ?_
        rw [hy]
        rintro x w2 ⟨rfl, b2⟩
        have B2 := Lib.hid ((BL.out.trans (b1.mono BL.out.size)).trans (b2.mono (Nat.le_trans BL.out.size b1.size)))
        have O2 := Lib.hid (own_below (own_below O.out b1) b2)
        have K2 := Lib.hid (K1.past b2)
        obtain ⟨d0, d1, d2, d3, d4, d5, d6⟩ := K2.out.ent
        generalize wr.heap.size = g5 at *
        clear b1 b2 K1 hy hmay O BL
        have HNF := Lib.hid (PEnt.nums_fit HY.out.fit)
        have HL := Lib.hid (show (PEnt.nums e).length = 6 from rfl)
        have R6 := Lib.hid (show Blk (w2.alloc (.cells #[.int .i64 e.fr, .int .i64 e.boot, .int .i64 e.seq, .int .i64 e.ord, .int .i64 e.lev, .int .i64 e.stamp] 2)) w2.heap.size 2 (is (PEnt.nums e)) from
          Blk.new w2 #[.int .i64 e.fr, .int .i64 e.boot, .int .i64 e.seq, .int .i64 e.ord, .int .i64 e.lev, .int .i64 e.stamp] 2)
        have B3 := Lib.hid (B2.out.alloc B2.out.size (.cells #[.int .i64 e.fr, .int .i64 e.boot, .int .i64 e.seq, .int .i64 e.ord, .int .i64 e.lev, .int .i64 e.stamp] 2))
        have O3 := Lib.hid (own_below O2.out ((Below.refl _ w2).alloc (Nat.le_refl _) (.cells #[.int .i64 e.fr, .int .i64 e.boot, .int .i64 e.seq, .int .i64 e.ord, .int .i64 e.lev, .int .i64 e.stamp] 2)))
        have K3 := Lib.hid (K2.out.alloc (.cells #[.int .i64 e.fr, .int .i64 e.boot, .int .i64 e.seq, .int .i64 e.ord, .int .i64 e.lev, .int .i64 e.stamp] 2))
        clear B2 O2 K2
        go_wp2_with fail
        clear d0 d1 d2 d3 d4 d5 d6
        generalize w2.alloc (.cells #[.int .i64 e.fr, .int .i64 e.boot, .int .i64 e.seq, .int .i64 e.ord, .int .i64 e.lev, .int .i64 e.stamp] 2) = w3 at *
        generalize w2.heap.size = g6 at *
        go_loopw [3, 7] (fun s3 s7 wk => ∃ (k q c' : Nat) (A' : Option Addr), k ≤ 6 ∧ q ≤ 86 * i + 10 * k ∧ s7 = .int .i64 k ∧ s3 = .slice A' q c' ∧
            Hid (wk.ownsRow w.heap.size 5 1 (.slice A' q c') q (bs (PEnt.enc (l.take i) ++ PEnt.encN ((PEnt.nums e).take k)))) ∧ Hid (Blk wk g6 2 (is (PEnt.nums e))) ∧ Hid (Blk wk g5 93 (ecs e)) ∧ Hid (Below w.heap.size w wk))
          (fun _ s7 _ => 6 - (intOf s7).toNat)
        case atStart => exact ⟨0, m, c1, A1, by omega, by omega, rfl, rfl, Lib.hid (by simpa [PEnt.encN] using O3.out), R6, K3, B3⟩
        case round =>
          clear R6 K3 B3 O3
          obtain ⟨k, q, c2, A2, hk, hq, rfl, rfl, O4, R4, K4, B4⟩ := hrel
          by_cases hk6 : k < 6
          · obtain ⟨x, hx2⟩ : ∃ x, (PEnt.nums e)[k]? = some x := ⟨_, List.getElem?_eq_getElem (by rw [HL.out]; exact hk6)⟩
            have hcx := R4.out.cell (i := k) (u := .int .i64 x) (by rw [is, List.getElem?_map, hx2]; rfl)
            have hxf := HNF.out x (List.mem_of_getElem? hx2)
            have HS := Lib.hid (encN_snoc hx2)
            have ht := PNum.sev_ten (PNum.zig x) (PNum.zig_lt x hxf.1 hxf.2)
            have HT := Lib.hid ht
            have HFX := Lib.hid hxf
            clear hx2 ht hxf
            go_wp2_with fail
            refine (rPut_c wr x HFX.out.1 HFX.out.2).mono ?_
            rintro y w4 ⟨A5, c5, rfl, hown, b5⟩
            have R5 := Lib.hid (Rd.of_own hown)
            have B5 := Lib.hid (B4.out.trans (b5.mono B4.out.size))
            have O5 := Lib.hid (own_below O4.out b5)
            have R45 := Lib.hid (R4.out.past b5)
            have K5 := Lib.hid (K4.out.past b5)
            clear hown b5 R4 O4 K4 B4 hcx
            generalize hj : (PNum.sev (PNum.zig x)).length = j at *
            clear hj
            go_wp2_with (at_builtin; go_must (refine wpList_app rfl (.tmp 40) (.tmp 45) _ rfl w.heap.size 5 _ 1 1 Tryz.underlying68 byte_info rfl (by omega) _ q _ rfl O5.out _ A5 c5 j (bs (PNum.sev (PNum.zig x))) rfl R5.out (bs_one _) ?c1 ?c2 ?c3 ?_))
            case c1 => have := HT.out; unfold maxLen; omega
            case c2 => have := HT.out; omega
            case c3 => exact B5.out.size
            intro A6 c6 w6 hown6 hgrow6 hbel6
            have R6 := Lib.hid (R45.out.grown_own O5.out hgrow6 (by decide))
            have K6 := Lib.hid (K5.out.grown_own O5.out hgrow6 (by decide))
            have B6 := Lib.hid (B5.out.trans hbel6)
            have O6 := Lib.hid hown6
            clear hown6 hgrow6 hbel6 R45 K5 B5 O5 R5
            go_wp2_with fail
            go_roundw
            case rel => exact ⟨k + 1, q + j, c6, A6, by omega, by have := HT.out; omega, by go_num, rfl, Lib.hid (by rw [HS.out, ← List.append_assoc, bs_append]; exact O6.out), R6, K6, B6⟩
            case measure => simp [intOf]; omega
          · obtain rfl : k = 6 := by omega
            have hN : (PEnt.nums e).take 6 = PEnt.nums e := List.take_of_length_le (by rw [HL.out]; omega)
            rw [hN] at O4
            obtain ⟨-, -, -, -, -, -, d6⟩ := K4.out.ent
            have hd16 := HY.out.2.2.2.2.2.2
            have HD16 := Lib.hid hd16
            have ht := PNum.sev_ten (PNum.zig e.data.size) (PNum.zig_lt _ (by omega) (by omega))
            have HT := Lib.hid ht
            clear hN hd16 ht R4 K4
            go_wp2_with fail
            refine (rPutText_c wr e.data (by have := HD16.out; omega)).mono ?_
            rintro y w4 ⟨A5, c5, rfl, hown, b5⟩
            have R5 := Lib.hid (Rd.of_own hown)
            have B5 := Lib.hid (B4.out.trans (b5.mono B4.out.size))
            have O5 := Lib.hid (own_below O4.out b5)
            clear hown b5 O4 B4 d6
            generalize hj : (PNum.sev (PNum.zig e.data.size)).length + e.data.size = j at *
            have HJ := Lib.hid (show j ≤ 26 by have := HT.out; have := HD16.out; omega)
            clear hj
            go_wp2_with (at_builtin; go_must (refine wpList_app rfl (.tmp 47) (.tmp 50) _ rfl w.heap.size 5 _ 1 1 Tryz.underlying68 byte_info rfl (by omega) _ q _ rfl O5.out _ A5 c5 j _ rfl R5.out (bs_one _) ?c1 ?c2 ?c3 ?_))
            case c1 => have := HJ.out; unfold maxLen; omega
            case c2 => have := HJ.out; omega
            case c3 => exact B5.out.size
            intro A6 c6 w6 hown6 hgrow6 hbel6
            have B6 := Lib.hid (B5.out.trans hbel6)
            have O6 := Lib.hid hown6
            clear hown6 hgrow6 hbel6 B5 O5 R5
            go_wp2_with fail
            go_roundw
            case rel => exact ⟨i + 1, q + j, c6, A6, by omega, by have := HJ.out; omega, by go_num, rfl, HS1, Lib.hid (by
              rw [HS2.out]; show World.ownsRow _ _ _ _ _ _ (bs (_ ++ (PEnt.encN (PEnt.nums e) ++ _)))
              rw [← List.append_assoc, bs_append]; exact O6.out), B6⟩
            case measure => simp [intOf]; omega
    · obtain rfl : i = n := by omega
      have ht : l.take i = l := List.take_of_length_le (by rw [HLn.out]; omega)
      rw [ht] at HA O
      have HG := Lib.hid (encode_good HA.out)
      have hl := O.out.1
      rw [bs_length] at hl
      have HL2 := Lib.hid (show (PEnt.enc l).length = m by omega)
      clear ht hl
      go_wp2_with fail
      go_ret
      refine ⟨A1, c1, ?_, ?_, BL.out⟩
      · rw [HG.out, HL2.out]; rfl
      · rw [HG.out, HL2.out]; exact O.out
end Go.Proofs.YtacipjdaiglnjaaGreatDoor

/- Contract of the document's Bytes. -/
namespace Go.Proofs.YtacipjdaiglnjaaGreatDoor
open Go.RowKit

set_option maxHeartbeats 8000000 in
set_option maxRecDepth 100000 in
theorem rBytes_c (w : World) (m : Msg) (A : Option Addr) (c : Nat) (h : Rd w w.heap.size A c 7 m.es.length (els m.es)) :
    Calls Tryz.prog 29 #[mv m A c] w fun x w' => ∃ (A' : Option Addr) (c' : Nat), x = .returned (.slice A' (PMsg.enc m).length c') ∧
      w'.ownsRow w.heap.size 5 1 (.slice A' (PMsg.enc m).length c') (PMsg.enc m).length (bs (PMsg.enc m)) ∧ Below w.heap.size w w' := by
  have b1 := (Below.refl w.heap.size w).alloc (Nat.le_refl _) (.cells #[.int .i64 m.kind, .int .i64 m.fr, .int .i64 m.dst, .int .i64 m.boot, .int .i64 m.view, .int .i64 m.last, .int .i64 m.mem, .int .i64 m.pos, .slice A m.es.length c, .int .i64 m.com, .int .i64 m.num, .int .i64 m.clk, .bool m.yes] 31)
  have K0 := Blk.new w #[.int .i64 m.kind, .int .i64 m.fr, .int .i64 m.dst, .int .i64 m.boot, .int .i64 m.view, .int .i64 m.last, .int .i64 m.mem, .int .i64 m.pos, .slice A m.es.length c, .int .i64 m.com, .int .i64 m.num, .int .i64 m.clk, .bool m.yes] 31
  have R0 := Lib.hid h
  have HL := Lib.hid (PMsg.ns_length m)
  clear h
  show Calls _ _ #[.agg #[.int .i64 m.kind, .int .i64 m.fr, .int .i64 m.dst, .int .i64 m.boot, .int .i64 m.view, .int .i64 m.last, .int .i64 m.mem, .int .i64 m.pos, .slice A m.es.length c, .int .i64 m.com, .int .i64 m.num, .int .i64 m.clk, .bool m.yes]] _ _
  go_enter Tryz.func29, Tryz.ntmps29
  go_wp2_with fail
  generalize w.alloc (.cells #[.int .i64 m.kind, .int .i64 m.fr, .int .i64 m.dst, .int .i64 m.boot, .int .i64 m.view, .int .i64 m.last, .int .i64 m.mem, .int .i64 m.pos, .slice A m.es.length c, .int .i64 m.com, .int .i64 m.num, .int .i64 m.clk, .bool m.yes] 31) = w1 at *
  have BL1 := Lib.hid b1
  have K1 := Lib.hid (show Blk w1 w.heap.size 31 (mcs m A c) from K0)
  clear b1 K0
  refine (rMayM_c w1 m A c ((R0.out.past BL1.out).tight)).mono ?_
  cases hy : PMsg.may m
  · have HE := Lib.hid (PMsg.enc_no hy)
    rintro x w2 ⟨rfl, b2⟩
    have B2 := Lib.hid (BL1.out.trans (b2.mono BL1.out.size))
    clear b2 hy K1
    go_wp2_with fail
    go_ret
    exact ⟨none, 0, by rw [HE.out]; rfl, by rw [HE.out]; exact World.ownsRow_nil _ _ _ _, B2.out⟩
  · have HE := Lib.hid (PMsg.enc_yes hy)
    have hM := (PMsg.may_iff m).1 hy
    have HNF := Lib.hid (PMsg.ns_fit hM)
    have HES := Lib.hid hM.2.2.2.2.2.2.2.2.2.2.2.2
    have HBL := Lib.hid (PMsg.body_len hM)
    have HBD := Lib.hid (show PMsg.body m = PEnt.encN (PMsg.ns m) ++ PEnt.enc m.es from rfl)
    have HBB := Lib.hid (PMsg.body_byte m)
    rintro x w2 ⟨rfl, b2⟩
    have BL2 := Lib.hid (BL1.out.trans (b2.mono BL1.out.size))
    have K2 := Lib.hid (K1.out.past b2)
    clear b2 hy hM K1 BL1
    have c0 := K2.out.cell (i := 0) rfl
    have c1 := K2.out.cell (i := 1) rfl
    have c2 := K2.out.cell (i := 2) rfl
    have c3 := K2.out.cell (i := 3) rfl
    have c4 := K2.out.cell (i := 4) rfl
    have c5 := K2.out.cell (i := 5) rfl
    have c6 := K2.out.cell (i := 6) rfl
    have c7 := K2.out.cell (i := 7) rfl
    have c8 := K2.out.cell (i := 8) rfl
    have c9 := K2.out.cell (i := 9) rfl
    have c10 := K2.out.cell (i := 10) rfl
    have c11 := K2.out.cell (i := 11) rfl
    have c12 := K2.out.cell (i := 12) rfl
    have HNS := Lib.hid (show PMsg.ns m = [m.kind, m.fr, m.dst, m.boot, m.view, m.last, m.mem, m.pos, m.com, m.num, m.clk, PMsg.bit m.yes, (m.es.length : Int)] from rfl)
    generalize PMsg.ns m = N at *
    generalize PMsg.body m = Y at *
    cases hyes : m.yes
    · rw [hyes] at c12
      have HNV := Lib.hid (show is N = [.int .i64 m.kind, .int .i64 m.fr, .int .i64 m.dst, .int .i64 m.boot, .int .i64 m.view, .int .i64 m.last, .int .i64 m.mem, .int .i64 m.pos, .int .i64 m.com, .int .i64 m.num, .int .i64 m.clk, .int .i64 0, .int .i64 (m.es.length : Int)] by rw [HNS.out, hyes]; rfl)
      have B3 := Lib.hid (BL2.out.alloc BL2.out.size (.cells #[.int .i64 m.kind, .int .i64 m.fr, .int .i64 m.dst, .int .i64 m.boot, .int .i64 m.view, .int .i64 m.last, .int .i64 m.mem, .int .i64 m.pos, .int .i64 m.com, .int .i64 m.num, .int .i64 m.clk, .int .i64 0, .int .i64 (m.es.length : Int)] 2))
      have K3 := Lib.hid (K2.out.alloc (.cells #[.int .i64 m.kind, .int .i64 m.fr, .int .i64 m.dst, .int .i64 m.boot, .int .i64 m.view, .int .i64 m.last, .int .i64 m.mem, .int .i64 m.pos, .int .i64 m.com, .int .i64 m.num, .int .i64 m.clk, .int .i64 0, .int .i64 (m.es.length : Int)] 2))
      have R3 := Lib.hid (show Blk (w2.alloc (.cells #[.int .i64 m.kind, .int .i64 m.fr, .int .i64 m.dst, .int .i64 m.boot, .int .i64 m.view, .int .i64 m.last, .int .i64 m.mem, .int .i64 m.pos, .int .i64 m.com, .int .i64 m.num, .int .i64 m.clk, .int .i64 0, .int .i64 (m.es.length : Int)] 2)) w2.heap.size 2 (is N) by rw [HNV.out]; exact Blk.new w2 #[.int .i64 m.kind, .int .i64 m.fr, .int .i64 m.dst, .int .i64 m.boot, .int .i64 m.view, .int .i64 m.last, .int .i64 m.mem, .int .i64 m.pos, .int .i64 m.com, .int .i64 m.num, .int .i64 m.clk, .int .i64 0, .int .i64 (m.es.length : Int)] 2)
      clear hyes
      go_wp2_with fail
      clear c0 c1 c2 c3 c4 c5 c6 c7 c8 c9 c10 c11 c12 K2 BL2 HNV HNS
      generalize w2.alloc (.cells #[.int .i64 m.kind, .int .i64 m.fr, .int .i64 m.dst, .int .i64 m.boot, .int .i64 m.view, .int .i64 m.last, .int .i64 m.mem, .int .i64 m.pos, .int .i64 m.com, .int .i64 m.num, .int .i64 m.clk, .int .i64 0, .int .i64 (m.es.length : Int)] 2) = w3 at *
      generalize w2.heap.size = g6 at *
      go_loopw [5, 6] (fun s5 s6 wr => ∃ (i q c' : Nat) (A' : Option Addr), i ≤ 13 ∧ q ≤ 10 * i ∧ s6 = .int .i64 i ∧ s5 = .slice A' q c' ∧ Hid (wr.ownsRow w.heap.size 5 1 (.slice A' q c') q (bs (PEnt.encN (N.take i)))) ∧ Hid (Below w.heap.size w wr) ∧ Hid (Blk wr w.heap.size 31 (mcs m A c)) ∧ Hid (Blk wr g6 2 (is N)))
        (fun _ s6 _ => 13 - (intOf s6).toNat)
      case atStart => exact ⟨0, 0, 0, none, by omega, by omega, rfl, rfl, Lib.hid (World.ownsRow_nil _ _ _ _), B3, K3, R3⟩
      case round =>
        clear B3 K3 R3
        obtain ⟨i, q, c1, A1, hi, hq, rfl, rfl, O, B, K, R⟩ := hrel
        by_cases hlt : i < 13
        · obtain ⟨x, hx⟩ : ∃ x, N[i]? = some x := ⟨_, List.getElem?_eq_getElem (by rw [HL.out]; exact hlt)⟩
          have hcx := R.out.cell (i := i) (u := .int .i64 x) (by rw [is, List.getElem?_map, hx]; rfl)
          have hxf := HNF.out x (List.mem_of_getElem? hx)
          have HS := Lib.hid (encN_snoc hx)
          have ht := PNum.sev_ten (PNum.zig x) (PNum.zig_lt x hxf.1 hxf.2)
          have HT1 := Lib.hid ht
          have HFX := Lib.hid hxf
          clear hx ht hxf
          go_wp2_with fail
          refine (rPut_c wr x HFX.out.1 HFX.out.2).mono ?_
          rintro e w4 ⟨A5, c5, rfl, hown, b5⟩
          have R5 := Lib.hid (Rd.of_own hown)
          have B5 := Lib.hid (B.out.trans (b5.mono B.out.size))
          have O5 := Lib.hid (own_below O.out b5)
          have K5 := Lib.hid (K.out.past b5)
          have G5 := Lib.hid (R.out.past b5)
          clear hown b5 O B K R hcx
          generalize hj : (PNum.sev (PNum.zig x)).length = j at *
          clear hj
          go_wp2_with (at_builtin; go_must (refine wpList_app rfl (.tmp 45) (.tmp 50) _ rfl w.heap.size 5 _ 1 1 Tryz.underlying68 byte_info rfl (by omega) _ q _ rfl O5.out _ A5 c5 j (bs (PNum.sev (PNum.zig x))) rfl R5.out (bs_one _) ?c1 ?c2 ?c3 ?_))
          case c1 => have := HT1.out; unfold maxLen; omega
          case c2 => have := HT1.out; omega
          case c3 => exact B5.out.size
          intro A6 c6 w6 hown6 hgrow6 hbel6
          have K6 := Lib.hid (K5.out.grown_own O5.out hgrow6 (by decide))
          have G6 := Lib.hid (G5.out.grown_own O5.out hgrow6 (by decide))
          have B6 := Lib.hid (B5.out.trans hbel6)
          have O6 := Lib.hid hown6
          clear hown6 hgrow6 hbel6 K5 G5 B5 O5 R5
          go_wp2_with fail
          go_roundw
          case rel => exact ⟨i + 1, q + j, c6, A6, by omega, by have := HT1.out; omega, by go_num, rfl, Lib.hid (by rw [HS.out, bs_append]; exact O6.out), B6, K6, G6⟩
          case measure => simp [intOf]; omega
        · obtain rfl : i = 13 := by omega
          have hN : N.take 13 = N := List.take_of_length_le (by rw [HL.out]; omega)
          rw [hN] at O
          have c8 := K.out.cell (i := 8) rfl
          have RE := Lib.hid ((R0.out.past B.out).tight)
          clear hN K R
          go_wp2_with fail
          clear c8
          refine (rEntries_c wr _ A c m.es.length m.es RE.out (by have := HES.out.1; omega)).mono ?_
          rw [encode_good HES.out.2]
          rintro e w2 ⟨A2, c2, rfl, hown, b2⟩
          have B2 := Lib.hid (B.out.trans (b2.mono B.out.size))
          have O2 := Lib.hid (own_below O.out b2)
          have R2 := Lib.hid (Rd.of_own hown)
          have HQ := Lib.hid (show q + (PEnt.enc m.es).length = Y.length by
            rw [HBD.out, List.length_append]
            have := (Rd.of_own O.out).blen
            omega)
          have HYL := HBL.out
          clear hown b2 O B RE
          generalize hj : (PEnt.enc m.es).length = j at *
          have HJ := Lib.hid (show j ≤ 5290 by have := HQ.out; omega)
          clear hj
          go_wp2_with (at_builtin; go_must (refine wpList_app rfl (.tmp 52) (.tmp 55) _ rfl w.heap.size 5 _ 1 1 Tryz.underlying68 byte_info rfl (by omega) _ q _ rfl O2.out _ A2 c2 j _ rfl R2.out (bs_one _) ?c1 ?c2 ?c3 ?_))
          case c1 => have := HJ.out; unfold maxLen; omega
          case c2 => have := HJ.out; omega
          case c3 => exact B2.out.size
          intro A6 c6 w6 hown6 hgrow6 hbel6
          have B6 := Lib.hid (B2.out.trans hbel6)
          rw [← bs_append, ← HBD.out, HQ.out] at hown6
          have R6 := Lib.hid (Rd.of_own hown6)
          have hq2 := HQ.out
          clear hown6 hgrow6 hbel6 B2 O2 R2
          go_wp2_with fail
          rw [hq2]
          refine (rSeal_c w6 _ A6 c6 Y.length Y R6.out HBB.out (by omega)).mono ?_
          rintro e w7 ⟨A7, c7, rfl, hown, b7⟩
          have B7 := Lib.hid (B6.out.trans (b7.mono B6.out.size))
          have O7 := Lib.hid (own_from hown B6.out.size)
          have HEL := Lib.hid (show (PMsg.enc m).length = Y.length + 4 by rw [HE.out, sealed_length])
          clear hown b7
          go_wp2_with fail
          go_ret
          refine ⟨A7, c7, by rw [HEL.out]; rfl, ?_, B7.out⟩
          rw [HEL.out, HE.out]
          exact O7.out
    · rw [hyes] at c12
      have HNV := Lib.hid (show is N = [.int .i64 m.kind, .int .i64 m.fr, .int .i64 m.dst, .int .i64 m.boot, .int .i64 m.view, .int .i64 m.last, .int .i64 m.mem, .int .i64 m.pos, .int .i64 m.com, .int .i64 m.num, .int .i64 m.clk, .int .i64 1, .int .i64 (m.es.length : Int)] by rw [HNS.out, hyes]; rfl)
      have B3 := Lib.hid (BL2.out.alloc BL2.out.size (.cells #[.int .i64 m.kind, .int .i64 m.fr, .int .i64 m.dst, .int .i64 m.boot, .int .i64 m.view, .int .i64 m.last, .int .i64 m.mem, .int .i64 m.pos, .int .i64 m.com, .int .i64 m.num, .int .i64 m.clk, .int .i64 1, .int .i64 (m.es.length : Int)] 2))
      have K3 := Lib.hid (K2.out.alloc (.cells #[.int .i64 m.kind, .int .i64 m.fr, .int .i64 m.dst, .int .i64 m.boot, .int .i64 m.view, .int .i64 m.last, .int .i64 m.mem, .int .i64 m.pos, .int .i64 m.com, .int .i64 m.num, .int .i64 m.clk, .int .i64 1, .int .i64 (m.es.length : Int)] 2))
      have R3 := Lib.hid (show Blk (w2.alloc (.cells #[.int .i64 m.kind, .int .i64 m.fr, .int .i64 m.dst, .int .i64 m.boot, .int .i64 m.view, .int .i64 m.last, .int .i64 m.mem, .int .i64 m.pos, .int .i64 m.com, .int .i64 m.num, .int .i64 m.clk, .int .i64 1, .int .i64 (m.es.length : Int)] 2)) w2.heap.size 2 (is N) by rw [HNV.out]; exact Blk.new w2 #[.int .i64 m.kind, .int .i64 m.fr, .int .i64 m.dst, .int .i64 m.boot, .int .i64 m.view, .int .i64 m.last, .int .i64 m.mem, .int .i64 m.pos, .int .i64 m.com, .int .i64 m.num, .int .i64 m.clk, .int .i64 1, .int .i64 (m.es.length : Int)] 2)
      clear hyes
      go_wp2_with fail
      clear c0 c1 c2 c3 c4 c5 c6 c7 c8 c9 c10 c11 c12 K2 BL2 HNV HNS
      generalize w2.alloc (.cells #[.int .i64 m.kind, .int .i64 m.fr, .int .i64 m.dst, .int .i64 m.boot, .int .i64 m.view, .int .i64 m.last, .int .i64 m.mem, .int .i64 m.pos, .int .i64 m.com, .int .i64 m.num, .int .i64 m.clk, .int .i64 1, .int .i64 (m.es.length : Int)] 2) = w3 at *
      generalize w2.heap.size = g6 at *
      go_loopw [5, 6] (fun s5 s6 wr => ∃ (i q c' : Nat) (A' : Option Addr), i ≤ 13 ∧ q ≤ 10 * i ∧ s6 = .int .i64 i ∧ s5 = .slice A' q c' ∧ Hid (wr.ownsRow w.heap.size 5 1 (.slice A' q c') q (bs (PEnt.encN (N.take i)))) ∧ Hid (Below w.heap.size w wr) ∧ Hid (Blk wr w.heap.size 31 (mcs m A c)) ∧ Hid (Blk wr g6 2 (is N)))
        (fun _ s6 _ => 13 - (intOf s6).toNat)
      case atStart => exact ⟨0, 0, 0, none, by omega, by omega, rfl, rfl, Lib.hid (World.ownsRow_nil _ _ _ _), B3, K3, R3⟩
      case round =>
        clear B3 K3 R3
        obtain ⟨i, q, c1, A1, hi, hq, rfl, rfl, O, B, K, R⟩ := hrel
        by_cases hlt : i < 13
        · obtain ⟨x, hx⟩ : ∃ x, N[i]? = some x := ⟨_, List.getElem?_eq_getElem (by rw [HL.out]; exact hlt)⟩
          have hcx := R.out.cell (i := i) (u := .int .i64 x) (by rw [is, List.getElem?_map, hx]; rfl)
          have hxf := HNF.out x (List.mem_of_getElem? hx)
          have HS := Lib.hid (encN_snoc hx)
          have ht := PNum.sev_ten (PNum.zig x) (PNum.zig_lt x hxf.1 hxf.2)
          have HT1 := Lib.hid ht
          have HFX := Lib.hid hxf
          clear hx ht hxf
          go_wp2_with fail
          refine (rPut_c wr x HFX.out.1 HFX.out.2).mono ?_
          rintro e w4 ⟨A5, c5, rfl, hown, b5⟩
          have R5 := Lib.hid (Rd.of_own hown)
          have B5 := Lib.hid (B.out.trans (b5.mono B.out.size))
          have O5 := Lib.hid (own_below O.out b5)
          have K5 := Lib.hid (K.out.past b5)
          have G5 := Lib.hid (R.out.past b5)
          clear hown b5 O B K R hcx
          generalize hj : (PNum.sev (PNum.zig x)).length = j at *
          clear hj
          go_wp2_with (at_builtin; go_must (refine wpList_app rfl (.tmp 45) (.tmp 50) _ rfl w.heap.size 5 _ 1 1 Tryz.underlying68 byte_info rfl (by omega) _ q _ rfl O5.out _ A5 c5 j (bs (PNum.sev (PNum.zig x))) rfl R5.out (bs_one _) ?c1 ?c2 ?c3 ?_))
          case c1 => have := HT1.out; unfold maxLen; omega
          case c2 => have := HT1.out; omega
          case c3 => exact B5.out.size
          intro A6 c6 w6 hown6 hgrow6 hbel6
          have K6 := Lib.hid (K5.out.grown_own O5.out hgrow6 (by decide))
          have G6 := Lib.hid (G5.out.grown_own O5.out hgrow6 (by decide))
          have B6 := Lib.hid (B5.out.trans hbel6)
          have O6 := Lib.hid hown6
          clear hown6 hgrow6 hbel6 K5 G5 B5 O5 R5
          go_wp2_with fail
          go_roundw
          case rel => exact ⟨i + 1, q + j, c6, A6, by omega, by have := HT1.out; omega, by go_num, rfl, Lib.hid (by rw [HS.out, bs_append]; exact O6.out), B6, K6, G6⟩
          case measure => simp [intOf]; omega
        · obtain rfl : i = 13 := by omega
          have hN : N.take 13 = N := List.take_of_length_le (by rw [HL.out]; omega)
          rw [hN] at O
          have c8 := K.out.cell (i := 8) rfl
          have RE := Lib.hid ((R0.out.past B.out).tight)
          clear hN K R
          go_wp2_with fail
          clear c8
          refine (rEntries_c wr _ A c m.es.length m.es RE.out (by have := HES.out.1; omega)).mono ?_
          rw [encode_good HES.out.2]
          rintro e w2 ⟨A2, c2, rfl, hown, b2⟩
          have B2 := Lib.hid (B.out.trans (b2.mono B.out.size))
          have O2 := Lib.hid (own_below O.out b2)
          have R2 := Lib.hid (Rd.of_own hown)
          have HQ := Lib.hid (show q + (PEnt.enc m.es).length = Y.length by
            rw [HBD.out, List.length_append]
            have := (Rd.of_own O.out).blen
            omega)
          have HYL := HBL.out
          clear hown b2 O B RE
          generalize hj : (PEnt.enc m.es).length = j at *
          have HJ := Lib.hid (show j ≤ 5290 by have := HQ.out; omega)
          clear hj
          go_wp2_with (at_builtin; go_must (refine wpList_app rfl (.tmp 52) (.tmp 55) _ rfl w.heap.size 5 _ 1 1 Tryz.underlying68 byte_info rfl (by omega) _ q _ rfl O2.out _ A2 c2 j _ rfl R2.out (bs_one _) ?c1 ?c2 ?c3 ?_))
          case c1 => have := HJ.out; unfold maxLen; omega
          case c2 => have := HJ.out; omega
          case c3 => exact B2.out.size
          intro A6 c6 w6 hown6 hgrow6 hbel6
          have B6 := Lib.hid (B2.out.trans hbel6)
          rw [← bs_append, ← HBD.out, HQ.out] at hown6
          have R6 := Lib.hid (Rd.of_own hown6)
          have hq2 := HQ.out
          clear hown6 hgrow6 hbel6 B2 O2 R2
          go_wp2_with fail
          rw [hq2]
          refine (rSeal_c w6 _ A6 c6 Y.length Y R6.out HBB.out (by omega)).mono ?_
          rintro e w7 ⟨A7, c7, rfl, hown, b7⟩
          have B7 := Lib.hid (B6.out.trans (b7.mono B6.out.size))
          have O7 := Lib.hid (own_from hown B6.out.size)
          have HEL := Lib.hid (show (PMsg.enc m).length = Y.length + 4 by rw [HE.out, sealed_length])
          clear hown b7
          go_wp2_with fail
          go_ret
          refine ⟨A7, c7, by rw [HEL.out]; rfl, ?_, B7.out⟩
          rw [HEL.out, HE.out]
          exact O7.out
end Go.Proofs.YtacipjdaiglnjaaGreatDoor

/- Contract of begun (layer 25). -/
namespace Go.Proofs.YtacipjdaiglnjaaGreatDoor
open Go.RowKit PNode

/-- The process of begun at its k-th tick, that hears nothing. -/
def stB (k : Int) : Np := { newP 1 3 1 0 with clock := k }
def bgV1 : List (Option Vt) := PVote.add 1 3 PVote.none7 ⟨1, 0, [], 0⟩
def bgV2 : List (Option Vt) := PVote.add 1 3 bgV1 ⟨2, 0, [], 0⟩
theorem bg_tm2 : PVote.tm bgV2 = 3 := by decide +kernel
theorem bg_most2 : PTeam.most (PVote.tm bgV2) 3 = true := by decide +kernel
theorem bg_has2 : PTeam.has (PVote.tm bgV2) 1 = true := by decide +kernel
theorem bg_next {v : Int} (h : IsNext 1 3 (max 0 0 + 1) v) : v = 1 := by
  obtain ⟨h1, h2, h3⟩ := h
  have e : max (0 : Int) 0 = 0 := rfl
  rw [e] at h1 h2
  rcases (by omega : v = 1 ∨ v = 2 ∨ v = 3) with rfl | rfl | rfl
  · rfl
  · exact absurd h3 (by decide)
  · exact absurd h3 (by decide)
theorem bg_best : ∃ bf bl bc, PVote.best 3 bgV2 = ⟨bf, bl, [], bc⟩ := ⟨_, _, _, rfl⟩
def bgM : Msg := ⟨3, 2, 1, 1, 1, 0, 0, 0, [], 0, 0, 0, false⟩
theorem bg_may : PMsg.may bgM = true := by decide +kernel

/-- Behind the vote; behind the installing. -/
def stH : Np := { gotP (prpP (stB 10) 1) bgM with vo := some (1, bgV2) }
def stI : Np := instP (clkP stH) 1 bgV2
theorem bg_in : inV stI = true := by decide +kernel
end Go.Proofs.YtacipjdaiglnjaaGreatDoor

/- What the laws of layer 25 call: hear, from; of no process. -/
namespace Go.Proofs.YtacipjdaiglnjaaGreatDoor
open Go.RowKit PNode

/-- What a law sees of a call that writes its process. -/
def SnPost (w0 w : World) (x d : Nat) (C : List Mp → Np → Prop) (e : Ending) (w' : World) : Prop :=
  ∃ Q p' A c, C Q p' ∧ e = .returned (.slice A Q.length c) ∧ Ow w' w.heap.size 31 13 A Q.length c (mgs Q) ∧ Sn w0 w' x d p' ∧ Kept w0 w w'

/-! Of no process. -/
theorem ndCast_nil (w : World) : Calls Tryz.prog 32 #[.pointer none, .int .i64 0, .int .i64 0, .string ⟨#[]⟩] w fun e w' => e = .returned (.int .i64 5) ∧ w = w' := by
  go_enter Tryz.func32, Tryz.ntmps32
  go_wp2_with fail
  go_ret
  exact ⟨rfl, rfl⟩
theorem ndTold_nil (w : World) : Calls Tryz.prog 19 #[.pointer none] w fun e w' => e = .returned (.slice none 0 0) ∧ w = w' := by
  go_enter Tryz.func19, Tryz.ntmps19
  go_wp2_with fail
  go_ret
  exact ⟨rfl, rfl⟩
end Go.Proofs.YtacipjdaiglnjaaGreatDoor

/- What a process is asked, in its view or not; a copy of its table. -/
namespace Go.Proofs.YtacipjdaiglnjaaGreatDoor
open Go.RowKit PNode

namespace PNode
def vwO (p : Np) : Int := if inV p = true then p.last else 0
def gdO (p : Np) : Bool := inV p && decide (0 < PProof.left p.pp p.pk p.pm p.clock p.com)
/-- The word of a pair, as an entry. -/
def wrdE (q : PTab.Pr) : Ent := ⟨1, 1, 1, 0, 0, 0, q.1 ++ ⟨#[61]⟩ ++ q.2⟩
/-- A table's copy. -/
def copT (L : List PTab.Pr) : List PTab.Pr := L.foldl (fun T q => PTab.doo T (wrdE q)) []
theorem copT_next {L : List PTab.Pr} {i : Nat} {q : PTab.Pr} (h : L[i]? = some q) : copT (L.take (i + 1)) = PTab.doo (copT (L.take i)) (wrdE q) := by
  unfold copT
  rw [List.take_add_one, h, Option.toList_some, List.foldl_append]
  rfl
end PNode

section
variable {w : World} {x d : Nat} {F : List Nat} {p : Np} (h : Nd w x d F p)
include h
theorem ndViewA : Calls Tryz.prog 15 #[.pointer (some ⟨x, 0, none⟩)] w fun e w' => ∃ m, e = .returned (.tuple #[.int .i64 (vwO p), .int .i64 m, .bool (inV p)]) ∧ Below w.heap.size w w' := by
  unfold vwO
  cases hf : inV p
  · exact (ndView_out h hf).mono fun e w' hh => ⟨0, hh.1, hh.2⟩
  · exact (ndView_in h hf).mono fun e w' hh => ⟨p.mem, hh.1, hh.2⟩
theorem ndGoodA : Calls Tryz.prog 16 #[.pointer (some ⟨x, 0, none⟩)] w fun e w' => e = .returned (.bool (gdO p)) ∧ Below w.heap.size w w' := by
  unfold gdO
  cases hf : inV p
  · exact ndGood_out h hf
  · exact ndGoodG h hf rfl
theorem ndCast_out (hf : inV p = false) (ord lev : Int) (dt : ByteArray) : Calls Tryz.prog 32 #[.pointer (some ⟨x, 0, none⟩), .int .i64 ord, .int .i64 lev, .string dt] w fun e w' => e = .returned (.int .i64 6) ∧ Below w.heap.size w w' := by
  obtain ⟨a, s0, hr⟩ := h.open
  have HM := Lib.hid hr.mem
  have S0 := Lib.hid s0
  have HB : Hid (Blk w x 79 (ncs d p a)) := Lib.hid (s0.sep.get (i := 0) rfl)
  have HF := Lib.hid hf
  clear h s0 hr hf
  go_enter Tryz.func32, Tryz.ntmps32
  go_wp2_with fail
  refine (ndIn_c HB.out (S0.out.sep.get (i := 1) rfl) HM.out).mono ?_
  rw [HF.out]
  rintro e w1 ⟨rfl, b1⟩
  have b1' := Lib.hid b1
  clear b1
  go_wp2_with fail
  go_ret
  exact ⟨rfl, b1'.out⟩
end

set_option maxHeartbeats 4000000 in
set_option maxRecDepth 100000 in
theorem copyOf_c {w : World} {g : Nat} {F : List Nat} {c : Nat} {L : List PTab.Pr} (h : Tb w g F c L) (hc : c ≤ 900000) :
    Calls Tryz.prog 42 #[.pointer (some ⟨g, 0, none⟩)] w fun e w' => ∃ g' F' c', e = .returned (.pointer (some ⟨g', 0, none⟩)) ∧ Tb w' g' F' c' (copT L) ∧ Below w.heap.size w w' := by
  have HT := Lib.hid h
  have HC := Lib.hid hc
  have HS := Lib.hid h.ok.sz
  clear h hc
  go_enter Tryz.func42, Tryz.ntmps42
  go_wp2_with fail
  refine (tbNew_c w).mono ?_
  rintro e w1 ⟨rfl, n1, b1⟩
  have N1 := Lib.hid n1
  have B1 := Lib.hid b1
  have T1 := Lib.hid (HT.out.past b1)
  clear n1 b1
  generalize hG : w.heap.size = G at *
  have gs : ∀ w' : World, Below G w w' → G ≤ w'.heap.size := fun w' b => by rw [← hG]; exact b.size
  have GS := Lib.hid gs
  have HGE := Lib.hid hG
  clear gs hG
  go_wp2_with fail
  refine (Names_c w1 g F c L T1.out (by have := HC.out; omega)).mono ?_
  rintro e w2 ⟨A, cn, rfl, o2, hl, b2⟩
  have O2 := Lib.hid (Ow.of_own o2).down0
  have N2 := Lib.hid (N1.out.past b2)
  have T2 := Lib.hid (T1.out.past b2)
  have B2 := Lib.hid (B1.out.trans (b2.mono (GS.out _ B1.out)))
  have HL := Lib.hid hl
  clear o2 b2 N1 T1 hl
  go_wp2_with fail
  have HA0 := Lib.hid (show ∃ F' c', Tb w2 G F' c' (copT (L.take 0)) ∧ c' ≤ 0 ∧ ∀ z ∈ F', G ≤ z from ⟨[G], 0, N2.out, Nat.le_refl _, fun z hz => by rw [List.mem_singleton.1 hz]; exact Nat.le_refl _⟩)
  go_loopw [12] (fun s wr => ∃ i : Nat, s = .int .i64 (i : Int) ∧ i ≤ L.length ∧ Hid (∃ F' c', Tb wr G F' c' (copT (L.take i)) ∧ c' ≤ i ∧ ∀ z ∈ F', G ≤ z) ∧ Hid (Tb wr g F c L) ∧ Hid (Below G w wr) ∧ Hid (Ow wr 0 9 1 A L.length cn (nms L))) (fun s _ => (L.length - intOf s).toNat)
  case atStart => exact ⟨0, rfl, Nat.zero_le _, HA0, T2, B2, O2⟩
  case round =>
    obtain ⟨i, rfl, hi, M3, T3, B3, O3⟩ := hrel
    clear HA0 T2 B2 O2 N2
    have ti : (i : Int) ≤ 900000 := by have := HL.out; have := HC.out; omega
    by_cases hlt : i < L.length
    · obtain ⟨q, hq⟩ : ∃ q, L[i]? = some q := ⟨L[i], List.getElem?_eq_getElem hlt⟩
      have hm : q ∈ L := List.mem_of_getElem? hq
      have hz := HS.out q hm
      have hz1 : q.1.size ≤ 16 := by omega
      have hz2 : q.2.size ≤ 16 := by omega
      have hz3 : q.1.size + 1 ≤ 17 := by omega
      have HG3 := Lib.hid (PTab.get_of_mem T3.out.ok.srt hm)
      have HN3 := Lib.hid (copT_next hq)
      obtain ⟨gn, rfl, -, -⟩ := O3.out.some (by omega)
      have k0 : wr.cell? ⟨gn, i, none⟩ = some (.string q.1) := (O3.out.cell rfl (i := i) (by unfold nms; rw [List.getElem?_map, hq]; rfl)).1
      clear hq hm
      go_wp2_with fail
      refine (tbGet_c wr g F c L T3.out q.1 (by unfold maxLen; omega)).mono ?_
      rw [HG3.out]
      rintro e w4 ⟨rfl, b4⟩
      obtain ⟨F', c', m3, hc3, hf3⟩ := M3.out
      have M4 := Lib.hid (m3.past b4)
      have HC3 := Lib.hid (And.intro hc3 hf3)
      have T4 := Lib.hid (T3.out.past b4)
      have B4 := Lib.hid (B3.out.trans (b4.mono (GS.out _ B3.out)))
      have O4 := Lib.hid (O3.out.past b4)
      clear b4 M3 T3 B3 O3 m3 hc3 hf3 k0
      simp only [Option.getD_some, Option.isSome_some]
      go_wp2_with fail
      refine (show Calls Tryz.prog 72 #[.pointer (some ⟨G, 0, none⟩), ev (wrdE q)] w4 _ from Do_c w4 G F' c' (copT (L.take i)) M4.out (wrdE q) (by show (q.1 ++ ⟨#[61]⟩ ++ q.2).size ≤ _; simp only [ByteArray.size_append]; have : (⟨#[61]⟩ : ByteArray).size = 1 := rfl; omega) (by have := HC3.out.1; have := HC.out; have := HL.out; omega)).mono ?_
      rintro e w5 ⟨rfl, ⟨F5, m5, hf5⟩, t5⟩
      have hlo : ∀ z ∈ F', G ≤ z := HC3.out.2
      have hs4 : G ≤ w4.heap.size := GS.out _ B4.out
      have M5 := Lib.hid (show ∃ F' c', Tb w5 G F' c' (copT (L.take (i + 1))) ∧ c' ≤ i + 1 ∧ ∀ z ∈ F', G ≤ z from ⟨F5, c' + 1, by rw [HN3.out]; exact m5, by have := HC3.out.1; omega, fun z hz => by
        rcases hf5 z hz with h1 | h1
        · exact hlo z h1
        · omega⟩)
      have T5 := Lib.hid (T4.out.touch t5 (fun z hz hF => by have h1 := hlo z hz; have h2 := HT.out.hi z hF; rw [HGE.out] at h2; omega))
      have B5 := Lib.hid (B4.out.trans (t5.below hlo hs4))
      have O5 := Lib.hid (O4.out.touch t5 (fun z hz hA => by
        obtain ⟨ys, hy⟩ := O4.out.blk hA
        exact M4.out.ne hy (by decide) hz))
      clear m5 hf5 t5 hlo hs4 M4 T4 B4 O4
      go_wp2_with fail
      go_roundw
      case rel => exact ⟨i + 1, by go_num, by omega, M5, T5, B5, O5⟩
      case measure => simp [intOf]; omega
    · obtain rfl : i = L.length := by omega
      go_wp2_with fail
      go_ret
      obtain ⟨F', c', m3, -, -⟩ := M3.out
      rw [List.take_length] at m3
      exact ⟨G, F', c', rfl, m3, by rw [HGE.out]; exact B3.out⟩

theorem Nd.table {w : World} {x d : Nat} {F : List Nat} {p : Np} (h : Nd w x d F p) (hT : p.T.length ≤ 900000) :
    Calls Tryz.prog 23 #[.pointer (some ⟨x, 0, none⟩)] w fun e w' => ∃ g' F' c', e = .returned (.pointer (some ⟨g', 0, none⟩)) ∧ Tb w' g' F' c' (copT p.tab) ∧ Below w.heap.size w w' := by
  obtain ⟨a, s0, -⟩ := h.open
  have B0 : Blk w x 79 (ncs d p a) := s0.sep.get (i := 0) rfl
  have T0 : Tb w a.bg a.FB a.bc p.tab ∧ a.bc ≤ p.T.length := s0.sep.get (i := 10) rfl
  have c19 : w.cell? ⟨x, 19, none⟩ = some (.pointer (some ⟨a.bg, 0, none⟩)) := B0.cell rfl
  have HT := Lib.hid T0
  clear h s0 B0 T0
  go_enter Tryz.func23, Tryz.ntmps23
  go_wp2_with fail
  refine (copyOf_c HT.out.1 (by have := HT.out.2; omega)).mono ?_
  rintro e w1 ⟨g', F', c', rfl, t1, b1⟩
  have T1 := Lib.hid t1
  have B1 := Lib.hid b1
  clear t1 b1
  go_wp2_with fail
  go_ret
  exact ⟨g', F', c', rfl, T1.out, B1.out⟩
end Go.Proofs.YtacipjdaiglnjaaGreatDoor

/- A question that waits (term.ask). -/
namespace Go.Proofs.YtacipjdaiglnjaaGreatDoor
open Go.RowKit

theorem tecs_ten {qg : Nat} {t : Te} {A : Option Addr} {c : Nat} (hw : t.word.length = 7) : (tecs qg t A c)[10]? = some (.slice A t.qs.length c) := by
  unfold tecs is
  rw [List.getElem?_append_right (by simp [hw])]
  simp [hw]
theorem tecs_qs {qg : Nat} {t : Te} {A A2 : Option Addr} {c c2 : Nat} (hw : t.word.length = 7) {q : Qn} : (tecs qg t A c).set 10 (.slice A2 (t.qs.length + 1) c2) = tecs qg { t with qs := t.qs ++ [q] } A2 c2 := by
  unfold tecs is
  rw [List.set_append_right _ _ (by simp [hw])]
  simp [hw]
def qc (q : Qn) : List Value := [.int .i64 q.fr, .int .i64 q.num, .int .i64 q.probe]
def qv (q : Qn) : Value := .agg #[.int .i64 q.fr, .int .i64 q.num, .int .i64 q.probe]
theorem qns_one (q : Qn) : qns [q] = qc q := rfl
theorem qns_append (a b : List Qn) : qns (a ++ b) = qns a ++ qns b := List.flatMap_append ..
theorem qc_oneCell (q : Qn) : ∀ u ∈ qc q, u.oneCell' = true := by
  intro u hu
  simp only [qc, List.mem_cons, List.not_mem_nil, or_false] at hu
  rcases hu with rfl | rfl | rfl <;> rfl
theorem nQn_info : (Tryz.prog.info? 176).map (fun i => (i.zero, i.size, i.bytes)) = some (some (qv ⟨0, 0, 0⟩), 3, 24) := by kernel_rfl
theorem wpList_buildQ {w : World} {ops : Array Oper} {rest : List Oper} {o : Oper} {a : Act} {Q : Exit → Act → World → Prop} (hgd : o.guard = none) (x : Operand) (ho : o.op = .buildSlice 171 1 #[(0, x)]) (q : Qn) (hx : a.eval x = qv q)
    (h : wpList Tryz.prog ops Q rest (a.put o.dst (.slice (some ⟨w.heap.size, 0, none⟩) 1 1)) (w.alloc (.cells (qc q).toArray 176))) : wpList Tryz.prog ops Q (o :: rest) a w := by
  obtain ⟨i, hi0, hz, hk, -⟩ := info_parts nQn_info
  refine wpList_buildSlice hgd 171 176 1 _ ho (qc q).toArray i (qv ⟨0, 0, 0⟩) Tryz.underlying171 hi0 hz (by rw [hk]; omega) (by rw [hk]; omega) ?_ h
  rw [hk]
  have hb : (Array.range (1 * 3)).map (fun x => (qv ⟨0, 0, 0⟩).cells[x % (qv ⟨0, 0, 0⟩).cells.size]!) = (qc ⟨0, 0, 0⟩).toArray := by kernel_rfl
  rw [hb]
  simp [Instr.fill, qv, qc, Value.cells, hx]
theorem run_loadQ {w : World} {dst : Option Tmp} {x : Operand} {ty : TypeId} {pos : String} {after : Array Edge} {guard : Option (Nat × Bool)} {ρ : Operand → Value} {g : Nat} {t : TypeId} {q : Qn}
    (K : Blk w g t (qc q)) (hx : ρ x = .pointer (some ⟨g, 0, none⟩)) :
    (execOp ρ { dst, op := .load 176 x, type := ty, pos, after, guard }).run Tryz.prog w = .ok (.value (qv q)) w := by
  have := run_loadAt_mid (P := Tryz.prog) w g 0 176 (qc q) _ K.range Tryz.underlying176 rfl (by kernel_rfl)
  unfold execOp
  simp only [hx, Sem.run_bind, this, Result.andThen_ok, Sem.run_pure]
  rfl
section
variable {w : World} {dst : Option Tmp} {ty : TypeId} {pos : String} {after : Array Edge} {guard : Option (Nat × Bool)} {ρ : Operand → Value}
theorem ldQs {x : Operand} {g i : Nat} {A : Option Addr} {n c : Nat} (h : w.cell? ⟨g, i, none⟩ = some (.slice A n c)) (hx : ρ x = .pointer (some ⟨g, i, none⟩)) :
    (execOp ρ { dst, op := .load 171 x, type := ty, pos, after, guard }).run Tryz.prog w = .ok (.value (.slice A n c)) w := by
  go_simp
theorem stQs {y z : Operand} {g i : Nat} {v : Value} {A : Option Addr} {n c : Nat} (h : w.cell? ⟨g, i, none⟩ = some v) (_h1 : v.oneCell' = true) (hf : w.frozen? ⟨g, i, none⟩ = false) (hy : ρ y = .pointer (some ⟨g, i, none⟩)) (hz : ρ z = .slice A n c) :
    (execOp ρ { dst := none, op := .store 171 y z, type := ty, pos, after, guard }).run Tryz.prog w = .ok .skip (w.setCell ⟨g, i, none⟩ (.slice A n c)) := by
  go_simp
end

set_option maxHeartbeats 8000000 in
set_option maxRecDepth 100000 in
theorem ask_c {w : World} {tg qg : Nat} {t : Te} {A : Option Addr} {c : Nat} (T : Blk w tg 173 (tecs qg t A c)) (O : Og w 0 176 3 A t.qs.length c (qns t.qs)) (hn : t.qs.length ≤ 1000000) (hw : t.word.length = 7) (q : Qn) :
    Calls Tryz.prog 113 #[.pointer (some ⟨tg, 0, none⟩), qv q] w fun e w' => ∃ A' c', e = .returned (.tuple #[]) ∧ Blk w' tg 173 (tecs qg { t with qs := t.qs ++ [q] } A' c') ∧ Og w' 0 176 3 A' (t.qs ++ [q]).length c' (qns (t.qs ++ [q])) ∧ Touch (tg :: bl A) w w' ∧ (∀ g, bk A' = some g → bk A = some g ∨ w.heap.size ≤ g) := by
  have b0 := Lib.hid ((Below.refl w.heap.size w).alloc (Nat.le_refl _) (.cells #[.int .i64 q.fr, .int .i64 q.num, .int .i64 q.probe] 176))
  have K1 := Lib.hid (show Blk (w.alloc (.cells #[.int .i64 q.fr, .int .i64 q.num, .int .i64 q.probe] 176)).drew w.heap.size 176 (qc q) from Blk.new w _ _)
  have T1 := Lib.hid (show Blk (w.alloc (.cells #[.int .i64 q.fr, .int .i64 q.num, .int .i64 q.probe] 176)).drew tg 173 (tecs qg t A c) from T.alloc _)
  have O1 := Lib.hid (show Og (w.alloc (.cells #[.int .i64 q.fr, .int .i64 q.num, .int .i64 q.probe] 176)).drew 0 176 3 A t.qs.length c (qns t.qs) from O.past b0.out.drew)
  have HLT := Lib.hid T.lt
  have HN := Lib.hid hn
  have hlow : ∀ g, bk A = some g → g < w.heap.size := fun g hg => by obtain ⟨-, ys, hy⟩ := O.blk hg; exact hy.lt
  have HLW := Lib.hid hlow
  have HNI := Lib.hid (show w.heap.size ∉ tg :: bl A from fun hm => by
    rcases List.mem_cons.1 hm with h | h
    · have := HLT.out; omega
    · have := HLW.out _ (mem_bl.1 h); omega)
  have h10 : (tecs qg t A c)[10]? = some (.slice A t.qs.length c) ∧ t.word.length = 7 := ⟨tecs_ten hw, hw⟩
  have H10 := Lib.hid h10
  clear T O hn hlow h10 hw
  show Calls _ _ #[_, .agg #[.int .i64 q.fr, .int .i64 q.num, .int .i64 q.probe]] _ _
  go_enter Tryz.func113, Tryz.ntmps113
  go_wp2_with fail
  generalize hw1 : w.alloc (.cells #[.int .i64 q.fr, .int .i64 q.num, .int .i64 q.probe] 176) = w1 at *
  have HSZ := Lib.hid (show w1.drew.heap.size = w.heap.size + 1 ∧ w1.heap.size = w.heap.size + 1 from by rw [← hw1]; exact ⟨by simp, by simp⟩)
  clear hw1
  refine Hs.begin (tg :: bl A) ?_
  refine Hs.take (v := .pointer (some ⟨tg, 0, none⟩)) 0 4 rfl ?_ (fun _ _ => rfl)
  refine Hs.take (v := .pointer (some ⟨tg, 0, none⟩)) 1 5 rfl ?_ (fun _ _ => rfl)
  refine Hs.take (v := .pointer (some ⟨tg, 0, none⟩)) 2 6 rfl ?_ (fun w' hw' => by go_simp)
  refine Hs.take (v := .pointer (some ⟨tg, 10, none⟩)) 3 7 rfl ?_ (fun w' hw' => by go_simp)
  refine Hs.take (v := qv q) 5 9 rfl ?_ (fun w' hw' => run_loadQ (K1.out.touch hw' HNI.out) rfl)
  refine Hs.two 4 6 ?_ ?_
  · refine Hs.pick 4 (some 8) rfl ?_
    refine wpList_runTo' rfl (.slice A t.qs.length c) _ (ldQs (T1.out.cell H10.out.1) rfl) ?_
    refine Hs.next (.refl _ _) ?_
    refine Hs.only 6 (some 10) rfl ?_
    refine wpList_buildQ rfl (.tmp 9) rfl q rfl ?_
    refine Hs.next (.of_below ((Below.refl _ _).alloc (Nat.le_refl _) _)) ?_
    refine Hs.only 7 (some 11) rfl ?_
    refine wpList_appO2 rfl (.tmp 8) (.tmp 10) 171 rfl 0 176 _ 3 24 Tryz.underlying171 nQn_info rfl (by omega) A t.qs.length c (qns t.qs) rfl (O1.out.past ((Below.refl _ _).alloc (Nat.le_refl _) _)) _ _ _ 1 (qc q) rfl (Rd.new w1.drew (qc q).toArray 176 3 1 rfl (by unfold maxLen; omega)) (by omega) (qc_oneCell q) (by have := HN.out; unfold maxLen; omega) (by have := HN.out; omega) (Nat.zero_le _) ?_
    intro A2 c2 w5 O5 t5 n5
    refine Hs.next (t5.wide (fun k hk => List.mem_cons_of_mem _ hk)) ?_
    refine Hs.take (v := .pointer (some ⟨tg, 0, none⟩)) 8 12 rfl ?_ (fun w' hw' => by go_simp)
    refine Hs.take (v := .pointer (some ⟨tg, 10, none⟩)) 9 13 rfl ?_ (fun w' hw' => by go_simp)
    refine Hs.only 10 none rfl ?_
    have ht : tg ∉ bl A := fun hm => O1.out.ne T1.out (by decide) (mem_bl.1 hm)
    have T5 := (T1.out.alloc (.cells (qc q).toArray 176)).touch t5 ht
    refine wpList_skipTo rfl rfl (w5.setCell ⟨tg, 10, none⟩ (.slice A2 (t.qs.length + 1) c2)) (stQs (T5.cell H10.out.1) rfl (T5.free 10) rfl rfl) ?_
    have T6 := Lib.hid (T5.set 10 (.slice A2 (t.qs.length + 1) c2))
    have hA2 : bk A2 ≠ some tg := fun hg => by
      obtain ⟨-, ys, hy⟩ := O5.blk hg
      exact hy.ne T5 (by decide) rfl
    have O6 := Lib.hid (O5.touch ((Touch.refl [tg] w5).cell (g := tg) (by simp) 10 (.slice A2 (t.qs.length + 1) c2)) (fun g hg => by rw [List.mem_singleton.1 hg]; exact hA2))
    have TT := Lib.hid (show Touch (tg :: bl A) w (w5.setCell ⟨tg, 10, none⟩ (.slice A2 (t.qs.length + 1) c2)) from
      (((Touch.of_below (b0.out.drew.alloc (by have := HSZ.out.1; omega) _)).trans (t5.wide (fun k hk => List.mem_cons_of_mem _ hk))).cell (g := tg) (by simp) 10 _))
    have N5 := Lib.hid n5
    refine Hs.next ((Touch.refl _ _).cell (g := tg) (by simp) 10 _) ?_ (ha := rfl)
    clear T5 O5 t5 n5 ht hA2
    refine Hs.done ?_
    go_end0
    refine ⟨A2, c2, rfl, ?_, ?_, TT.out, fun g hg => ?_⟩
    · have := T6.out
      rw [tecs_qs H10.out.2] at this
      exact this
    · rw [List.length_append, List.length_singleton, qns_append, qns_one]; exact O6.out
    · rcases N5.out g hg with h | h
      · exact .inl h
      · exact .inr (by have := HSZ.out.2; simp at h; omega)
  · refine Hs.pick 6 (some 10) rfl ?_
    refine wpList_buildQ rfl (.tmp 9) rfl q rfl ?_
    refine Hs.next (.of_below ((Below.refl _ _).alloc (Nat.le_refl _) _)) ?_
    refine Hs.only 4 (some 8) rfl ?_
    refine wpList_runTo' rfl (.slice A t.qs.length c) _ (ldQs ((T1.out.alloc _).cell H10.out.1) rfl) ?_
    refine Hs.next (.refl _ _) ?_
    refine Hs.only 7 (some 11) rfl ?_
    refine wpList_appO2 rfl (.tmp 8) (.tmp 10) 171 rfl 0 176 _ 3 24 Tryz.underlying171 nQn_info rfl (by omega) A t.qs.length c (qns t.qs) rfl (O1.out.past ((Below.refl _ _).alloc (Nat.le_refl _) _)) _ _ _ 1 (qc q) rfl (Rd.new w1.drew (qc q).toArray 176 3 1 rfl (by unfold maxLen; omega)) (by omega) (qc_oneCell q) (by have := HN.out; unfold maxLen; omega) (by have := HN.out; omega) (Nat.zero_le _) ?_
    intro A2 c2 w5 O5 t5 n5
    refine Hs.next (t5.wide (fun k hk => List.mem_cons_of_mem _ hk)) ?_
    refine Hs.take (v := .pointer (some ⟨tg, 0, none⟩)) 8 12 rfl ?_ (fun w' hw' => by go_simp)
    refine Hs.take (v := .pointer (some ⟨tg, 10, none⟩)) 9 13 rfl ?_ (fun w' hw' => by go_simp)
    refine Hs.only 10 none rfl ?_
    have ht : tg ∉ bl A := fun hm => O1.out.ne T1.out (by decide) (mem_bl.1 hm)
    have T5 := (T1.out.alloc (.cells (qc q).toArray 176)).touch t5 ht
    refine wpList_skipTo rfl rfl (w5.setCell ⟨tg, 10, none⟩ (.slice A2 (t.qs.length + 1) c2)) (stQs (T5.cell H10.out.1) rfl (T5.free 10) rfl rfl) ?_
    have T6 := Lib.hid (T5.set 10 (.slice A2 (t.qs.length + 1) c2))
    have hA2 : bk A2 ≠ some tg := fun hg => by
      obtain ⟨-, ys, hy⟩ := O5.blk hg
      exact hy.ne T5 (by decide) rfl
    have O6 := Lib.hid (O5.touch ((Touch.refl [tg] w5).cell (g := tg) (by simp) 10 (.slice A2 (t.qs.length + 1) c2)) (fun g hg => by rw [List.mem_singleton.1 hg]; exact hA2))
    have TT := Lib.hid (show Touch (tg :: bl A) w (w5.setCell ⟨tg, 10, none⟩ (.slice A2 (t.qs.length + 1) c2)) from
      (((Touch.of_below (b0.out.drew.alloc (by have := HSZ.out.1; omega) _)).trans (t5.wide (fun k hk => List.mem_cons_of_mem _ hk))).cell (g := tg) (by simp) 10 _))
    have N5 := Lib.hid n5
    refine Hs.next ((Touch.refl _ _).cell (g := tg) (by simp) 10 _) ?_ (ha := rfl)
    clear T5 O5 t5 n5 ht hA2
    refine Hs.done ?_
    go_end0
    refine ⟨A2, c2, rfl, ?_, ?_, TT.out, fun g hg => ?_⟩
    · have := T6.out
      rw [tecs_qs H10.out.2] at this
      exact this
    · rw [List.length_append, List.length_singleton, qns_append, qns_one]; exact O6.out
    · rcases N5.out g hg with h | h
      · exact .inl h
      · exact .inr (by have := HSZ.out.2; simp at h; omega)
end Go.Proofs.YtacipjdaiglnjaaGreatDoor

