/- The walk of NetOwn. -/
import Derived.Test.YtkckibcfanaglaaDoorSeg11
namespace Go.Proofs.YtkckibcfanaglaaDoor
open Go.RowKit

set_option maxHeartbeats 8000000 in
set_option maxRecDepth 100000 in
theorem NetOwn_w (w : World) (ht : Tab w) (m : Msg) (A : Option Addr) (c : Nat) (ra : Rd w w.heap.size A c 7 m.es.length (els m.es)) (oa : MsgOk m) :
    Calls Tryd.prog 5 #[mv m A c] w fun e w' => e = .returned (.bool true) ∧ Below w.heap.size w w' := by
  have OK := Lib.hid oa
  have RA := Lib.hid ra
  have HT := Lib.hid ht
  clear oa ra ht
  have b1 := (Below.refl w.heap.size w).alloc (Nat.le_refl _) (.cells #[.int .i64 m.kind, .int .i64 m.fr, .int .i64 m.dst, .int .i64 m.boot, .int .i64 m.view, .int .i64 m.last, .int .i64 m.mem, .int .i64 m.pos, .slice A m.es.length c, .int .i64 m.com, .int .i64 m.num, .int .i64 m.clk, .bool m.yes] 31)
  have K0 := Blk.new w #[.int .i64 m.kind, .int .i64 m.fr, .int .i64 m.dst, .int .i64 m.boot, .int .i64 m.view, .int .i64 m.last, .int .i64 m.mem, .int .i64 m.pos, .slice A m.es.length c, .int .i64 m.com, .int .i64 m.num, .int .i64 m.clk, .bool m.yes] 31
  show Calls _ _ #[.agg #[.int .i64 m.kind, .int .i64 m.fr, .int .i64 m.dst, .int .i64 m.boot, .int .i64 m.view, .int .i64 m.last, .int .i64 m.mem, .int .i64 m.pos, .slice A m.es.length c, .int .i64 m.com, .int .i64 m.num, .int .i64 m.clk, .bool m.yes]] _ _
  go_enter Tryd.func5, Tryd.ntmps5
  go_wp2_with fail
  generalize w.alloc (.cells #[.int .i64 m.kind, .int .i64 m.fr, .int .i64 m.dst, .int .i64 m.boot, .int .i64 m.view, .int .i64 m.last, .int .i64 m.mem, .int .i64 m.pos, .slice A m.es.length c, .int .i64 m.com, .int .i64 m.num, .int .i64 m.clk, .bool m.yes] 31) = w1 at *
  refine (begunN_c w1 (HT.out.past b1)).mono ?_
  rintro y w2 ⟨rfl, b2⟩
  have BL2 := Lib.hid (b1.trans (b2.mono b1.size))
  have K2 := Lib.hid (show Blk w2 w.heap.size 31 (mcs m A c) from K0.past b2)
  clear b1 b2 K0
  go_wp2_with ((with_reducible show wpList _ _ _ ((⟨some 13, Op.load _ _, _, _, _, _⟩ : Oper) :: _) _ _); go_must (refine wpList_load_row rfl 31 (.tmp 1) rfl w.heap.size rfl 31 #[.int .i64 m.kind, .int .i64 m.fr, .int .i64 m.dst, .int .i64 m.boot, .int .i64 m.view, .int .i64 m.last, .int .i64 m.mem, .int .i64 m.pos, .slice A m.es.length c, .int .i64 m.com, .int .i64 m.num, .int .i64 m.clk, .bool m.yes] (0, 0) _ K2.out Tryd.underlying31 rfl (by kernel_rfl) ?_))
  refine (lCutM_c w2 m A c ((RA.out.past BL2.out).tight) OK.out.ents).mono ?_
  rintro y w3 ⟨A1, c1, es, rfl, hle, hown, -, b3⟩
  have BL3 := Lib.hid (BL2.out.trans (b3.mono BL2.out.size))
  have K3 := Lib.hid (K2.out.past b3)
  have GG := grown_row w3 w.heap.size #[.int .i64 (withE m es).kind, .int .i64 (withE m es).fr, .int .i64 (withE m es).dst, .int .i64 (withE m es).boot, .int .i64 (withE m es).view, .int .i64 (withE m es).last, .int .i64 (withE m es).mem, .int .i64 (withE m es).pos, .slice A1 (withE m es).es.length c1, .int .i64 (withE m es).com, .int .i64 (withE m es).num, .int .i64 (withE m es).clk, .bool (withE m es).yes]
  have HMM := Lib.hid (show -9223372036854775808 ≤ (withE m es).mem ∧ (withE m es).mem ≤ 9223372036854775807 from OK.out.f6)
  have O4 := Lib.hid (show Ow (w3.setRow w.heap.size #[.int .i64 (withE m es).kind, .int .i64 (withE m es).fr, .int .i64 (withE m es).dst, .int .i64 (withE m es).boot, .int .i64 (withE m es).view, .int .i64 (withE m es).last, .int .i64 (withE m es).mem, .int .i64 (withE m es).pos, .slice A1 (withE m es).es.length c1, .int .i64 (withE m es).com, .int .i64 (withE m es).num, .int .i64 (withE m es).clk, .bool (withE m es).yes]) w.heap.size 53 7 A1 (withE m es).es.length c1 (els (withE m es).es) from
    ((Ow.of_own hown).down BL2.out.size).other (Touch.of_grown GG) (fun s hs => by rw [List.mem_singleton.1 hs]; exact ⟨_, _, K3.out, by decide⟩))
  have BL4 := Lib.hid (BL3.out.trans (grown_below GG (Nat.le_refl _) BL3.out.size))
  have K4 := Lib.hid (show Blk (w3.setRow w.heap.size #[.int .i64 (withE m es).kind, .int .i64 (withE m es).fr, .int .i64 (withE m es).dst, .int .i64 (withE m es).boot, .int .i64 (withE m es).view, .int .i64 (withE m es).last, .int .i64 (withE m es).mem, .int .i64 (withE m es).pos, .slice A1 (withE m es).es.length c1, .int .i64 (withE m es).com, .int .i64 (withE m es).num, .int .i64 (withE m es).clk, .bool (withE m es).yes]) w.heap.size 31 (mcs (withE m es) A1 c1) from K3.out.row #[.int .i64 (withE m es).kind, .int .i64 (withE m es).fr, .int .i64 (withE m es).dst, .int .i64 (withE m es).boot, .int .i64 (withE m es).view, .int .i64 (withE m es).last, .int .i64 (withE m es).mem, .int .i64 (withE m es).pos, .slice A1 (withE m es).es.length c1, .int .i64 (withE m es).com, .int .i64 (withE m es).num, .int .i64 (withE m es).clk, .bool (withE m es).yes])
  clear b3 hown K2 BL2 hle GG
  go_wp2_with (first | ((with_reducible show wpList _ _ _ ((⟨none, Op.store 31 (.tmp 1) _, _, _, _, _⟩ : Oper) :: _) _ _); go_must (refine wpList_store_row rfl 31 (.tmp 1) (.tmp 14) rfl w.heap.size _ rfl rfl _ _ K3.out (by kernel_rfl) (by rfl) (by kernel_rfl) ?_)) | ((with_reducible show wpList _ _ _ ((⟨some 15, Op.load _ _, _, _, _, _⟩ : Oper) :: _) _ _); go_must (refine wpList_load_row rfl 31 (.tmp 1) rfl w.heap.size rfl 31 #[.int .i64 (withE m es).kind, .int .i64 (withE m es).fr, .int .i64 (withE m es).dst, .int .i64 (withE m es).boot, .int .i64 (withE m es).view, .int .i64 (withE m es).last, .int .i64 (withE m es).mem, .int .i64 (withE m es).pos, .slice A1 (withE m es).es.length c1, .int .i64 (withE m es).com, .int .i64 (withE m es).num, .int .i64 (withE m es).clk, .bool (withE m es).yes] (0, 0) _ K4.out Tryd.underlying31 rfl (by kernel_rfl) ?_)))
  generalize w3.setRow w.heap.size #[.int .i64 (withE m es).kind, .int .i64 (withE m es).fr, .int .i64 (withE m es).dst, .int .i64 (withE m es).boot, .int .i64 (withE m es).view, .int .i64 (withE m es).last, .int .i64 (withE m es).mem, .int .i64 (withE m es).pos, .slice A1 (withE m es).es.length c1, .int .i64 (withE m es).com, .int .i64 (withE m es).num, .int .i64 (withE m es).clk, .bool (withE m es).yes] = w4 at *
  generalize withE m es = m1 at *
  clear K3 BL3 RA OK
  refine (show Calls _ _ #[.agg #[.int .i64 m1.kind, .int .i64 m1.fr, .int .i64 m1.dst, .int .i64 m1.boot, .int .i64 m1.view, .int .i64 m1.last, .int .i64 m1.mem, .int .i64 m1.pos, .slice A1 m1.es.length c1, .int .i64 m1.com, .int .i64 m1.num, .int .i64 m1.clk, .bool m1.yes]] w4 _ from rMayM_c w4 m1 A1 c1 O4.out.rd).mono ?_
  cases hy : PMsg.may m1
  · rintro y w5 ⟨rfl, b5⟩
    have B5 := Lib.hid (BL4.out.trans (b5.mono BL4.out.size))
    clear hy b5
    go_wp2_with fail
    go_ret
    exact ⟨rfl, B5.out⟩
  · have HS := Lib.hid (show PNet.send [] [m1] = [m1] by simp [PNet.send, PNet.put, hy])
    have HPOS := PMsg.enc_pos hy
    rintro y w5 ⟨rfl, b5⟩
    have B5 := Lib.hid (BL4.out.trans (b5.mono BL4.out.size))
    have K5 := Lib.hid (K4.out.past b5)
    have O5 := Lib.hid (O4.out.past b5)
    clear hy b5 BL4 K4 O4
    go_wp2_with fail
    refine (nNew_sn B5.out).mono ?_
    rintro y w6 ⟨rfl, s6, b6⟩
    have K6 := Lib.hid (K5.out.past b6)
    have b7 := (Below.refl w6.heap.size w6).alloc (Nat.le_refl _) (.cells #[.int .i64 m1.kind, .int .i64 m1.fr, .int .i64 m1.dst, .int .i64 m1.boot, .int .i64 m1.view, .int .i64 m1.last, .int .i64 m1.mem, .int .i64 m1.pos, .slice A1 m1.es.length c1, .int .i64 m1.com, .int .i64 m1.num, .int .i64 m1.clk, .bool m1.yes] 31)
    have M7 := Lib.hid (show Ms (w6.alloc (.cells #[.int .i64 m1.kind, .int .i64 m1.fr, .int .i64 m1.dst, .int .i64 m1.boot, .int .i64 m1.view, .int .i64 m1.last, .int .i64 m1.mem, .int .i64 m1.pos, .slice A1 m1.es.length c1, .int .i64 m1.com, .int .i64 m1.num, .int .i64 m1.clk, .bool m1.yes] 31)) w.heap.size (some ⟨w6.heap.size, 0, none⟩) 1 [⟨m1, A1, c1⟩] from Ms.lit (Q := [⟨m1, A1, c1⟩]) #[.int .i64 m1.kind, .int .i64 m1.fr, .int .i64 m1.dst, .int .i64 m1.boot, .int .i64 m1.view, .int .i64 m1.last, .int .i64 m1.mem, .int .i64 m1.pos, .slice A1 m1.es.length c1, .int .i64 m1.com, .int .i64 m1.num, .int .i64 m1.clk, .bool m1.yes] rfl s6.bel.size (Nat.le_of_ble_eq_true rfl)
      (fun q hq => by rw [List.mem_singleton.1 hq]; exact O5.out.past b6) (fun q hq => by rw [List.mem_singleton.1 hq]; exact HMM.out))
    have K7 := Lib.hid (K6.out.past b7)
    have O7 := Lib.hid ((O5.out.past b6).past b7)
    have S7 := Lib.hid (s6.past b7)
    clear s6 b6 b7 K5 O5 B5
    go_wp2_with ((with_reducible show wpList _ _ _ ((⟨some 20, Op.load _ _, _, _, _, _⟩ : Oper) :: _) _ _); go_must (refine wpList_load_row rfl 31 (.tmp 1) rfl w.heap.size rfl 31 #[.int .i64 m1.kind, .int .i64 m1.fr, .int .i64 m1.dst, .int .i64 m1.boot, .int .i64 m1.view, .int .i64 m1.last, .int .i64 m1.mem, .int .i64 m1.pos, .slice A1 m1.es.length c1, .int .i64 m1.com, .int .i64 m1.num, .int .i64 m1.clk, .bool m1.yes] (0, 0) _ K6.out Tryd.underlying31 rfl (by kernel_rfl) ?_))
    generalize w6.alloc (.cells #[.int .i64 m1.kind, .int .i64 m1.fr, .int .i64 m1.dst, .int .i64 m1.boot, .int .i64 m1.view, .int .i64 m1.last, .int .i64 m1.mem, .int .i64 m1.pos, .slice A1 m1.es.length c1, .int .i64 m1.com, .int .i64 m1.num, .int .i64 m1.clk, .bool m1.yes] 31) = w7 at *
    generalize w6.heap.size = gr at *
    generalize w5.heap.size = g at *
    refine (show Calls Tryd.prog 12 #[.pointer (some ⟨g, 0, none⟩), .slice (some ⟨gr, 0, none⟩) 1 1] w7 (fun e w' => e = .returned (.int .i64 1) ∧ Sn w w' g [m1] ∧ NtT w7 w') from (S7.out.send HT.out M7.out (Nat.le_of_ble_eq_true rfl)).mono fun e w' ⟨h1, h2, h3⟩ => by
      have hs : PNet.send [] (List.map Mp.m [⟨m1, A1, c1⟩]) = [m1] := HS.out
      rw [hs] at h1 h2
      exact ⟨h1, h2, h3⟩).mono ?_
    rintro y w8 ⟨rfl, s8, n8⟩
    have K8 := Lib.hid (n8.blk K7.out (by decide) (by decide) (by decide))
    have O8 := Lib.hid (n8.ow O7.out (by decide) (by decide) (by decide))
    have HB8 := Lib.hid s8.bel
    obtain ⟨F, h1, h2⟩ := s8.ex
    have N8 := Lib.hid h1
    have HF := Lib.hid h2
    clear s8 n8 h1 h2 K6 K7 O7 S7 M7
    go_wp2_with fail
    refine (nLook_in (i := 0) (m := m1) N8.out rfl).mono ?_
    have HEB := Lib.hid (PMsg.enc_byte m1)
    have HEL := Lib.hid (PMsg.enc_len m1)
    rintro y w9 ⟨A9, c9, rfl, o9, b9⟩
    have O9 := Lib.hid (Ow.of_own o9)
    obtain ⟨ga, rfl, hga, -⟩ := O9.out.some HPOS
    have K9 := Lib.hid (K8.out.past b9)
    have E9 := Lib.hid (O8.out.past b9)
    have N9 := Lib.hid (N8.out.past b9)
    have B9 := Lib.hid (HB8.out.trans (b9.mono HB8.out.size))
    have HX := Lib.hid (show ga ∉ F from fun hm => by have := N8.out.hi ga hm; omega)
    have HGA := Lib.hid (show w.heap.size ≤ ga from Nat.le_trans HB8.out.size hga)
    clear o9 b9 hga K8 O8 N8 HB8
    have HEN := Lib.hid (show (PMsg.enc m1).length = (PMsg.enc m1).length from rfl)
    generalize hN : (PMsg.enc m1).length = N at *
    have hNm : N ≤ 5294 := HEL.out
    go_wp2_with fail
    go_loopw [7] (fun s7 wr => ∃ (i : Nat) (E : List Int), s7 = .int .i64 i ∧ i ≤ N ∧ Hid (E.length = N ∧ isB E ∧ Ow wr w8.heap.size 5 1 (some ⟨ga, 0, none⟩) N c9 (bs E)) ∧ Hid (Nt wr g F [m1]) ∧ Hid (Blk wr w.heap.size 31 (mcs m1 A1 c1)) ∧
      Hid (Ow wr w.heap.size 53 7 A1 m1.es.length c1 (els m1.es)) ∧ Hid (Below w.heap.size w wr)) (fun s7 _ => N - (intOf s7).toNat)
    case atStart => exact ⟨0, PMsg.enc m1, rfl, by omega, Lib.hid ⟨hN, HEB.out, O9.out⟩, N9, K9, E9, B9⟩
    case round =>
      clear O9 N9 K9 E9 B9
      obtain ⟨i, E, rfl, hi, HE, NN, K, O, BB⟩ := hrel
      by_cases hlt : i < N
      · obtain ⟨x, hx⟩ : ∃ x, E[i]? = some x := ⟨_, List.getElem?_eq_getElem (by rw [HE.out.1]; exact hlt)⟩
        obtain ⟨d0, f0⟩ := HE.out.2.2.cell (i := i) rfl (u := .int .u8 x) (by simp [bs, hx])
        have hxb := HE.out.2.1 x (List.mem_of_getElem? hx)
        have HI := Lib.hid (show i < E.length by rw [HE.out.1]; exact hlt)
        clear hx
        go_wp2_with fail
        go_roundw
        case rel =>
          have G := grown_set wr ga i (Value.int .u8 ((x + 1) % 256))
          obtain ⟨ys, hy⟩ := HE.out.2.2.blk (g := ga) rfl
          exact ⟨i + 1, E.set i ((x + 1) % 256), by go_num, by omega, Lib.hid ⟨by rw [List.length_set]; exact HE.out.1, fun z hz => (List.mem_or_eq_of_mem_set hz).elim (HE.out.2.1 z) (fun h => by rw [h]; omega),
            by rw [bs, List.map_set]; exact HE.out.2.2.set rfl (by rw [bs_length]; exact HI.out) _⟩, Lib.hid (NN.out.touch (Touch.of_grown G) (by simpa using HX.out)), Lib.hid (K.out.far G (K.out.ne hy (by decide))),
            Lib.hid (O.out.other (Touch.of_grown G) (fun s hs => by rw [List.mem_singleton.1 hs]; exact ⟨_, _, hy, by decide⟩)), Lib.hid (BB.out.trans (grown_below G HGA.out BB.out.size))⟩
        case measure => simp [intOf]; omega
      · obtain rfl : i = N := by omega
        go_wp2_with fail
        refine (nTake_in (i := 0) (m := m1) NN.out rfl).mono ?_
        rw [hN]
        rintro y w10 ⟨A10, c10, rfl, o10, d10⟩
        have K10 := Lib.hid (K.out.touch d10.touch (NN.out.apart K.out (by decide) (by decide) (by decide)))
        have E10 := Lib.hid ((O.out.other d10.touch (NN.out.not (by decide) (by decide) (by decide))).rd)
        have R10 := Lib.hid o10.rd
        have B10 := Lib.hid (BB.out.trans (d10.touch.below HF.out BB.out.size))
        clear o10 d10 K O NN BB HE
        go_wp2_with fail
-- REGION curfew/curfewlaw18.NetOwn 15 nown15 8
        refine Hb.begin ?_
        refine Hb.take (v := .bool true) 0 45 rfl ?_ (fun _ _ => rfl)
        refine Hb.take (v := .bool true) 1 46 rfl ?_ (fun _ _ => rfl)
        refine Hb.take (v := .slice A10 i c10) 2 47 rfl ?_ (fun _ _ => rfl)
        refine Hb.take (v := .string (strOfNums (PMsg.enc m1))) 3 48 rfl ?_ (fun w' hw' => by exact run_toStrOp 5 rfl (R10.out.drew.below hw') Tryd.underlying35 Tryd.underlying5 Tryd.underlying9)
        refine Hb.take (v := mv m1 A1 c1) 4 49 rfl ?_ (fun w' hw' => by exact run_loadM (K10.out.drew.past hw') rfl)
        refine Hb.call (f := 15) (args := #[mv m1 A1 c1]) 5 50 rfl ?_ (run_callf Tryd.func15 (by kernel_rfl) (by kernel_rfl) (by simp only [List.map_toArray, List.map_cons, List.map_nil]; rfl))
        refine (rBytes_c w10.drew m1 A1 c1 E10.out.drew).mono ?_
        rw [hN]
        rintro y w11 ⟨A11, c11, rfl, o11, b11⟩
        have R11 := Lib.hid (Rd.of_own o11)
        have B11 := Lib.hid (show Below w10.heap.size w10 w11 from (Below.refl _ _).drew.trans b11)
        refine Hb.back b11 b11.size ?_
        refine Hb.take (v := .string (strOfNums (PMsg.enc m1))) 6 51 rfl ?_ (fun w' hw' => by exact run_toStrOp 5 rfl (R11.out.below hw') Tryd.underlying35 Tryd.underlying5 Tryd.underlying9)
        refine Hb.take (v := .bool true) 7 52 rfl ?_ (fun w' hw' => by exact run_strEq rfl rfl (by simp))
        refine Hb.take (v := .bool true) 8 53 rfl ?_ (fun _ _ => rfl)
        refine Hb.take (v := .bool true) 9 2 rfl ?_ (fun _ _ => rfl)
        refine Hb.done ?_
-- END
        go_wp2_with fail
        go_ret
        exact ⟨rfl, B10.out.trans (B11.out.mono B10.out.size)⟩
end Go.Proofs.YtkckibcfanaglaaDoor

