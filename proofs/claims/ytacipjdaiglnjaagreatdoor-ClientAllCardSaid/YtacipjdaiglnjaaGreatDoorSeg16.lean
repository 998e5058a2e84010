/- Contract of Decode of messages. -/
import Derived.Test.YtacipjdaiglnjaaGreatDoorSeg15
import Derived.Test.YtacipjdaiglnjaaGreatDoorSeg2
import Derived.Test.YtacipjdaiglnjaaGreatDoorRows
import Derived.Test.YtacipjdaiglnjaaGreatDoorSeg1
import Derived.Laws.StructEq
import Derived.Test.YtacipjdaiglnjaaGreatDoorSeg13
import Derived.Test.YtacipjdaiglnjaaGreatDoorSeg12
import Derived.BigQuiet
import Derived.Deep.QuietTactic
import Derived.WalkSmall
namespace Go.Proofs.YtacipjdaiglnjaaGreatDoor
open Go.RowKit

def mErr : Option Msg → Int
  | some _ => 0
  | none => 1
/-- A message with entries of its own, or a zero one; was there one. -/
def DecPost (w : World) (r : Option Msg) (x : Ending) (w' : World) : Prop :=
  ∃ (A' : Option Addr) (c' : Nat), x = .returned (.tuple #[mv (r.getD zeroM) A' c', .int .i64 (mErr r)]) ∧ w'.ownsRow w.heap.size 93 7 (.slice A' (r.getD zeroM).es.length c') (r.getD zeroM).es.length (els (r.getD zeroM).es) ∧ Below w.heap.size w w'

set_option maxHeartbeats 8000000 in
set_option maxRecDepth 100000 in
theorem wDecode_c (w : World) (B : Nat) (A : Option Addr) (c n : Nat) (l : List Int) (h : Rd w B A c 1 n (bs l)) (hb : isB l) (ht : Tab w) (hn : n ≤ 1000000) :
    Calls Tryz.prog 87 #[.slice A n c] w (DecPost w (PMsg.dec l)) := by
  have R0 := Lib.hid h
  have HB := Lib.hid hb
  have HT := Lib.hid ht
  have HLn := Lib.hid h.blen
  clear h hb ht
  go_enter Tryz.func87, Tryz.ntmps87
  go_wp2_with fail
  have b1 := (Below.refl w.heap.size w).alloc (Nat.le_refl _) (.cells #[.int .i64 0, .int .i64 0, .int .i64 0, .int .i64 0, .int .i64 0, .int .i64 0, .int .i64 0, .int .i64 0, .slice none 0 0, .int .i64 0, .int .i64 0, .int .i64 0, .bool false] 31)
  have K0 := Blk.new w #[.int .i64 0, .int .i64 0, .int .i64 0, .int .i64 0, .int .i64 0, .int .i64 0, .int .i64 0, .int .i64 0, .slice none 0 0, .int .i64 0, .int .i64 0, .int .i64 0, .bool false] 31
  generalize w.alloc (.cells #[.int .i64 0, .int .i64 0, .int .i64 0, .int .i64 0, .int .i64 0, .int .i64 0, .int .i64 0, .int .i64 0, .slice none 0 0, .int .i64 0, .int .i64 0, .int .i64 0, .bool false] 31) = w1 at *
  have KZ1 := Lib.hid (show Blk w1 w.heap.size 31 (mcs zeroM none 0) from K0)
  refine (Open_c w1 _ A c n l (R0.out.past b1) HB.out (HT.out.past b1) (by omega)).mono ?_
  have BL1 := Lib.hid b1
  clear b1 K0
  cases ho : openP l with
  | mk s ok =>
  rintro x w2 ⟨A1, c1, rfl, hr1, b2⟩
  have BL2 := Lib.hid (BL1.out.trans (b2.mono BL1.out.size))
  have KZ2 := Lib.hid (KZ1.out.past b2)
  have RS := Lib.hid hr1
  clear b2 hr1 KZ1 BL1
  cases ok
  · have HD := Lib.hid (show PMsg.dec l = none by unfold PMsg.dec; rw [ho]; rfl)
    clear ho
    go_wp2_with ((with_reducible show wpList _ _ _ ((⟨none, Op.store 31 (.tmp 2) _, _, _, _, _⟩ : Oper) :: _) _ _); go_must (refine wpList_store_row rfl 31 (.tmp 2) (.tmp 18) rfl w.heap.size _ rfl rfl _ _ KZ2.out (by kernel_rfl) (by rfl) (by kernel_rfl) ?_))
    have K2 := KZ2.out.row #[.int .i64 0, .int .i64 0, .int .i64 0, .int .i64 0, .int .i64 0, .int .i64 0, .int .i64 0, .int .i64 0, .slice none 0 0, .int .i64 0, .int .i64 0, .int .i64 0, .bool false]
    have B2 := grown_below (grown_row w2 w.heap.size #[.int .i64 0, .int .i64 0, .int .i64 0, .int .i64 0, .int .i64 0, .int .i64 0, .int .i64 0, .int .i64 0, .slice none 0 0, .int .i64 0, .int .i64 0, .int .i64 0, .bool false]) (Nat.le_refl _) BL2.out.size
    refine bodyPost_ret (v := .tuple #[mv zeroM none 0, .int .i64 1]) (results_rowB rfl _ _ w.heap.size _ _ _ _ rfl rfl K2 Tryz.underlying31 rfl (by kernel_rfl)) rfl ?_
    rw [HD.out]
    exact ⟨none, 0, rfl, World.ownsRow_nil _ _ _ _, BL2.out.trans B2⟩
  · have hy := PMsg.openP_yes HB.out (by rw [ho])
    rw [ho] at hy
    have HSB := Lib.hid hy.2
    have hsl : s.length ≤ 1000000 := by
      have := congrArg List.length hy.1
      rw [sealed_length, HLn.out] at this
      dsimp only at this
      omega
    have HSL := Lib.hid hsl
    have HDD := Lib.hid (show PMsg.dec l = PMsg.rd s by unfold PMsg.dec; rw [ho]; rfl)
    clear ho hy
    simp only
    go_wp2_with fail
    refine (getNumbers_c w2 _ A1 c1 s.length s RS.out HSB.out hsl).mono ?_
    cases hr : PEnt.rdN 13 s with
    | none =>
      have HD := Lib.hid (HDD.out.trans (show PMsg.rd s = none by unfold PMsg.rd; rw [hr]))
      clear hr
      have hz : gtup none = .tuple #[.agg #[.int .i64 0, .int .i64 0, .int .i64 0, .int .i64 0, .int .i64 0, .int .i64 0, .int .i64 0, .int .i64 0, .int .i64 0, .int .i64 0, .int .i64 0, .int .i64 0, .int .i64 0], .int .i64 0, .bool false] := rfl
      rw [hz]
      clear hz
      rintro x w3 ⟨rfl, b3⟩
      have b4 := (Below.refl w3.heap.size w3).alloc (Nat.le_refl _) (.cells #[.int .i64 0, .int .i64 0, .int .i64 0, .int .i64 0, .int .i64 0, .int .i64 0, .int .i64 0, .int .i64 0, .int .i64 0, .int .i64 0, .int .i64 0, .int .i64 0, .int .i64 0] 202)
      have BL3 := Lib.hid ((BL2.out.trans (b3.mono BL2.out.size)).trans (b4.mono (Nat.le_trans BL2.out.size b3.size)))
      have KZ3 := Lib.hid ((KZ2.out.past b3).past b4)
      clear b3 b4
      go_wp2_with ((with_reducible show wpList _ _ _ ((⟨none, Op.store 31 (.tmp 2) _, _, _, _, _⟩ : Oper) :: _) _ _); go_must (refine wpList_store_row rfl 31 (.tmp 2) (.tmp 27) rfl w.heap.size _ rfl rfl _ _ KZ3.out (by kernel_rfl) (by rfl) (by kernel_rfl) ?_))
      have K2 := KZ3.out.row #[.int .i64 0, .int .i64 0, .int .i64 0, .int .i64 0, .int .i64 0, .int .i64 0, .int .i64 0, .int .i64 0, .slice none 0 0, .int .i64 0, .int .i64 0, .int .i64 0, .bool false]
      have B2 := grown_below (grown_row (w3.alloc (.cells #[.int .i64 0, .int .i64 0, .int .i64 0, .int .i64 0, .int .i64 0, .int .i64 0, .int .i64 0, .int .i64 0, .int .i64 0, .int .i64 0, .int .i64 0, .int .i64 0, .int .i64 0] 202)) w.heap.size #[.int .i64 0, .int .i64 0, .int .i64 0, .int .i64 0, .int .i64 0, .int .i64 0, .int .i64 0, .int .i64 0, .slice none 0 0, .int .i64 0, .int .i64 0, .int .i64 0, .bool false]) (Nat.le_refl _) BL3.out.size
      refine bodyPost_ret (v := .tuple #[mv zeroM none 0, .int .i64 1]) (results_rowB rfl _ _ w.heap.size _ _ _ _ rfl rfl K2 Tryz.underlying31 rfl (by kernel_rfl)) rfl ?_
      rw [HD.out]
      exact ⟨none, 0, rfl, World.ownsRow_nil _ _ _ _, BL3.out.trans B2⟩
    | some q =>
      obtain ⟨xs, p⟩ := q
      obtain ⟨i1, i2, -, i4⟩ := PEnt.rdN_inv 13 s xs p HSB.out hr
      have HRD := Lib.hid (show PMsg.rd s = match PEnt.dec (s.drop p) with
        | some es => if PMsg.may (PMsg.ofN xs es) = true ∧ PMsg.ns (PMsg.ofN xs es) = xs then some (PMsg.ofN xs es) else none
        | none => none by
          simp only [PMsg.rd, hr]
          cases PEnt.dec (s.drop p) <;> rfl)
      clear hr
      obtain ⟨x0, x1, x2, x3, x4, x5, x6, x7, x8, x9, x10, x11, x12, rfl⟩ := list13 i1
      have HX6 := Lib.hid (i4 x6 (by simp))
      clear i1 i4
      have hz : gtup (some ([x0, x1, x2, x3, x4, x5, x6, x7, x8, x9, x10, x11, x12], p)) = .tuple #[.agg #[.int .i64 x0, .int .i64 x1, .int .i64 x2, .int .i64 x3, .int .i64 x4, .int .i64 x5, .int .i64 x6, .int .i64 x7, .int .i64 x8, .int .i64 x9, .int .i64 x10, .int .i64 x11, .int .i64 x12], .int .i64 p, .bool true] := rfl
      rw [hz]
      clear hz
      rintro x w3 ⟨rfl, b3⟩
      have b4 := (Below.refl w3.heap.size w3).alloc (Nat.le_refl _) (.cells #[.int .i64 x0, .int .i64 x1, .int .i64 x2, .int .i64 x3, .int .i64 x4, .int .i64 x5, .int .i64 x6, .int .i64 x7, .int .i64 x8, .int .i64 x9, .int .i64 x10, .int .i64 x11, .int .i64 x12] 202)
      have BL4 := Lib.hid ((BL2.out.trans (b3.mono BL2.out.size)).trans (b4.mono (Nat.le_trans BL2.out.size b3.size)))
      have KZ4 := Lib.hid ((KZ2.out.past b3).past b4)
      have RS4 := Lib.hid ((RS.out.past b3).past b4)
      have KN4 := Lib.hid (Blk.new w3 #[.int .i64 x0, .int .i64 x1, .int .i64 x2, .int .i64 x3, .int .i64 x4, .int .i64 x5, .int .i64 x6, .int .i64 x7, .int .i64 x8, .int .i64 x9, .int .i64 x10, .int .i64 x11, .int .i64 x12] 202)
      clear b3 b4 KZ2 RS BL2
      go_wp2_with (with_reducible show wpList _ _ _ ((⟨some 31, Op.slice 68 _ _ _ _, _, _, _, _⟩ : Oper) :: _) _ _
                   go_must (refine wpList_cut rfl 68 (.tmp 29) _ _ rfl 5 _ 1 1 Tryz.underlying68 byte_info _ A1 c1 s.length (bs s) rfl RS4.out p s.length (.inr rfl) (.inl ⟨rfl, rfl⟩) i2 (by omega) ?_))
      intro A2 c2 hr2
      rw [bs_tail rfl] at hr2
      have HR2 := Lib.hid hr2
      clear hr2
      generalize w3.alloc (.cells #[.int .i64 x0, .int .i64 x1, .int .i64 x2, .int .i64 x3, .int .i64 x4, .int .i64 x5, .int .i64 x6, .int .i64 x7, .int .i64 x8, .int .i64 x9, .int .i64 x10, .int .i64 x11, .int .i64 x12] 202) = w4 at *
      generalize hg3 : w3.heap.size = g3 at *
      have HG3 := Lib.hid hg3
      clear hg3
      go_wp2_with fail
      refine (Decode_c w4 _ A2 c2 (s.length - p) (s.drop p) HR2.out (HSB.out.drop p) (by omega)).mono ?_
      cases hd : PEnt.dec (s.drop p) with
      | none =>
        have HD := Lib.hid (HDD.out.trans (HRD.out.trans (by rw [hd])))
        clear hd HRD
        simp only [Option.getD_none, List.length_nil, dErr]
        rintro x w5 ⟨A3, c3, rfl, -, b5⟩
        have BL5 := Lib.hid (BL4.out.trans (b5.mono BL4.out.size))
        have KZ5 := Lib.hid (KZ4.out.past b5)
        clear b5
        go_wp2_with ((with_reducible show wpList _ _ _ ((⟨none, Op.store 31 (.tmp 2) _, _, _, _, _⟩ : Oper) :: _) _ _); go_must (refine wpList_store_row rfl 31 (.tmp 2) (.tmp 37) rfl w.heap.size _ rfl rfl _ _ KZ5.out (by kernel_rfl) (by rfl) (by kernel_rfl) ?_))
        have K2 := KZ5.out.row #[.int .i64 0, .int .i64 0, .int .i64 0, .int .i64 0, .int .i64 0, .int .i64 0, .int .i64 0, .int .i64 0, .slice none 0 0, .int .i64 0, .int .i64 0, .int .i64 0, .bool false]
        have B2 := grown_below (grown_row w5 w.heap.size #[.int .i64 0, .int .i64 0, .int .i64 0, .int .i64 0, .int .i64 0, .int .i64 0, .int .i64 0, .int .i64 0, .slice none 0 0, .int .i64 0, .int .i64 0, .int .i64 0, .bool false]) (Nat.le_refl _) BL5.out.size
        refine bodyPost_ret (v := .tuple #[mv zeroM none 0, .int .i64 1]) (results_rowB rfl _ _ w.heap.size _ _ _ _ rfl rfl K2 Tryz.underlying31 rfl (by kernel_rfl)) rfl ?_
        rw [HD.out]
        exact ⟨none, 0, rfl, World.ownsRow_nil _ _ _ _, BL5.out.trans B2⟩
      | some es =>
        have HRR := Lib.hid (HDD.out.trans (HRD.out.trans (by rw [hd])) : PMsg.dec l = if PMsg.may (PMsg.ofN [x0, x1, x2, x3, x4, x5, x6, x7, x8, x9, x10, x11, x12] es) = true ∧ PMsg.ns (PMsg.ofN [x0, x1, x2, x3, x4, x5, x6, x7, x8, x9, x10, x11, x12] es) = [x0, x1, x2, x3, x4, x5, x6, x7, x8, x9, x10, x11, x12] then some (PMsg.ofN [x0, x1, x2, x3, x4, x5, x6, x7, x8, x9, x10, x11, x12] es) else none)
        clear hd HRD
        simp only [Option.getD_some, dErr]
        rintro x w5 ⟨A3, c3, rfl, hown, b5⟩
        have BL5 := Lib.hid (BL4.out.trans (b5.mono BL4.out.size))
        have KZ5 := Lib.hid (KZ4.out.past b5)
        have KN5 := Lib.hid (KN4.out.past b5)
        have RE5 := Lib.hid (Rd.of_own hown)
        have OW5 := Lib.hid (own_base hown BL4.out.size)
        clear b5 hown KZ4 KN4 BL4
        go_wp2_with ((with_reducible show wpList _ _ _ ((⟨some 38, Op.load _ _, _, _, _, _⟩ : Oper) :: _) _ _); go_must (refine wpList_load_row rfl 202 (.tmp 6) rfl g3 rfl 202 #[.int .i64 x0, .int .i64 x1, .int .i64 x2, .int .i64 x3, .int .i64 x4, .int .i64 x5, .int .i64 x6, .int .i64 x7, .int .i64 x8, .int .i64 x9, .int .i64 x10, .int .i64 x11, .int .i64 x12] (0, 0) _ KN5.out Tryz.underlying202 rfl (by kernel_rfl) ?_))
        refine (show Calls Tryz.prog 140 #[.agg #[.int .i64 x0, .int .i64 x1, .int .i64 x2, .int .i64 x3, .int .i64 x4, .int .i64 x5, .int .i64 x6, .int .i64 x7, .int .i64 x8, .int .i64 x9, .int .i64 x10, .int .i64 x11, .int .i64 x12], .slice A3 es.length c3] w5 (fun x w' => x = .returned (.agg #[.int .i64 x0, .int .i64 x1, .int .i64 x2, .int .i64 x3, .int .i64 x4, .int .i64 x5, .int .i64 x6, .int .i64 x7, .slice A3 es.length c3, .int .i64 x8, .int .i64 x9, .int .i64 x10, .bool (x11 == 1)]) ∧ Below w5.heap.size w5 w') from wOf_c w5 x0 x1 x2 x3 x4 x5 x6 x7 x8 x9 x10 x11 x12 es A3 c3).mono ?_
        rintro x w6 ⟨rfl, b6⟩
        have b7 := (Below.refl w6.heap.size w6).alloc (Nat.le_refl _) (.cells #[.int .i64 x0, .int .i64 x1, .int .i64 x2, .int .i64 x3, .int .i64 x4, .int .i64 x5, .int .i64 x6, .int .i64 x7, .slice A3 es.length c3, .int .i64 x8, .int .i64 x9, .int .i64 x10, .bool (x11 == 1)] 31)
        have BL7 := Lib.hid ((BL5.out.trans (b6.mono BL5.out.size)).trans (b7.mono (Nat.le_trans BL5.out.size b6.size)))
        have KZ7 := Lib.hid ((KZ5.out.past b6).past b7)
        have KN7 := Lib.hid ((KN5.out.past b6).past b7)
        have RE7 := Lib.hid (((RE5.out.past b6).past b7).tight)
        have OW7 := Lib.hid (own_touch OW5.out (S := []) (Touch.of_below (b6.trans (b7.mono b6.size))) (by simp))
        have KM7 := Lib.hid (show Blk (w6.alloc (.cells #[.int .i64 x0, .int .i64 x1, .int .i64 x2, .int .i64 x3, .int .i64 x4, .int .i64 x5, .int .i64 x6, .int .i64 x7, .slice A3 es.length c3, .int .i64 x8, .int .i64 x9, .int .i64 x10, .bool (x11 == 1)] 31)) w6.heap.size 31 (mcs (PMsg.ofN [x0, x1, x2, x3, x4, x5, x6, x7, x8, x9, x10, x11, x12] es) A3 c3) from Blk.new w6 #[.int .i64 x0, .int .i64 x1, .int .i64 x2, .int .i64 x3, .int .i64 x4, .int .i64 x5, .int .i64 x6, .int .i64 x7, .slice A3 es.length c3, .int .i64 x8, .int .i64 x9, .int .i64 x10, .bool (x11 == 1)] 31)
        clear b6 b7 KZ5 KN5 RE5 BL5
        go_wp2_with fail
        generalize w6.alloc (.cells #[.int .i64 x0, .int .i64 x1, .int .i64 x2, .int .i64 x3, .int .i64 x4, .int .i64 x5, .int .i64 x6, .int .i64 x7, .slice A3 es.length c3, .int .i64 x8, .int .i64 x9, .int .i64 x10, .bool (x11 == 1)] 31) = w7 at *
        generalize hg6 : w6.heap.size = g6 at *
        have HG6 := Lib.hid hg6
        clear hg6
        have HLM := Lib.hid (PMsg.ns_length (PMsg.ofN [x0, x1, x2, x3, x4, x5, x6, x7, x8, x9, x10, x11, x12] es))
        cases hm : PMsg.may (PMsg.ofN [x0, x1, x2, x3, x4, x5, x6, x7, x8, x9, x10, x11, x12] es)
        · have HD := Lib.hid (HRR.out.trans (if_neg (fun h => by rw [hm] at h; cases h.1)))
          have HM := Lib.hid hm
          clear hm
-- REGION curfew/wire.Decode 11 wdec11a 10
          refine Hb.begin ?_
          refine Hb.take (v := mv (PMsg.ofN [x0, x1, x2, x3, x4, x5, x6, x7, x8, x9, x10, x11, x12] es) A3 c3) 0 41 rfl ?_ (fun w' hw' => by exact run_loadM (KM7.out.drew.past hw') rfl)
          refine Hb.call (f := 141) (args := #[mv (PMsg.ofN [x0, x1, x2, x3, x4, x5, x6, x7, x8, x9, x10, x11, x12] es) A3 c3]) 1 42 rfl ?_ (run_callf Tryz.func141 (by kernel_rfl) (by kernel_rfl) (by simp only [List.map_toArray, List.map_cons, List.map_nil]; rfl))
          refine (wMay_c w7.drew (PMsg.ofN [x0, x1, x2, x3, x4, x5, x6, x7, x8, x9, x10, x11, x12] es) A3 c3 RE7.out HX6.out).mono ?_
          rw [HM.out]
          rintro x w8 ⟨rfl, b8⟩
          have B8 := Lib.hid (show Below w7.heap.size w7 w8 from (Below.refl _ _).drew.trans b8)
          refine Hb.back b8 b8.size ?_
          refine Hb.take (v := .bool true) 2 43 rfl ?_ (fun w' hw' => by go_simp; first | done | rfl | omega | exact wrap_in (by omega) (by omega) | exact Int.tmod_eq_emod_of_nonneg (by omega) | exact Int.tdiv_eq_ediv_of_nonneg (by omega) | (simp; omega))
          refine Hb.take (v := .bool true) 3 44 rfl ?_ (fun _ _ => rfl)
          refine Hb.pass 4 45 rfl ?_
          refine Hb.pass 5 46 rfl ?_
          refine Hb.pass 6 47 rfl ?_
          refine Hb.pass 7 48 rfl ?_
          refine Hb.take (v := Value.bool true) 8 49 rfl ?_ (fun _ _ => rfl)
          refine Hb.done ?_
-- END
          have BL9 := Lib.hid (BL7.out.trans (B8.out.mono BL7.out.size))
          have KZ9 := Lib.hid (KZ7.out.past B8.out)
          go_wp2_with ((with_reducible show wpList _ _ _ ((⟨none, Op.store 31 (.tmp 2) _, _, _, _, _⟩ : Oper) :: _) _ _); go_must (refine wpList_store_row rfl 31 (.tmp 2) (.tmp 50) rfl w.heap.size _ rfl rfl _ _ KZ9.out (by kernel_rfl) (by rfl) (by kernel_rfl) ?_))
          have K2 := KZ9.out.row #[.int .i64 0, .int .i64 0, .int .i64 0, .int .i64 0, .int .i64 0, .int .i64 0, .int .i64 0, .int .i64 0, .slice none 0 0, .int .i64 0, .int .i64 0, .int .i64 0, .bool false]
          have B2 := grown_below (grown_row w8 w.heap.size #[.int .i64 0, .int .i64 0, .int .i64 0, .int .i64 0, .int .i64 0, .int .i64 0, .int .i64 0, .int .i64 0, .slice none 0 0, .int .i64 0, .int .i64 0, .int .i64 0, .bool false]) (Nat.le_refl _) BL9.out.size
          refine bodyPost_ret (v := .tuple #[mv zeroM none 0, .int .i64 1]) (results_rowB rfl _ _ w.heap.size _ _ _ _ rfl rfl K2 Tryz.underlying31 rfl (by kernel_rfl)) rfl ?_
          rw [HD.out]
          exact ⟨none, 0, rfl, World.ownsRow_nil _ _ _ _, BL9.out.trans B2⟩
        · have HM := Lib.hid hm
          cases hq : decide (PMsg.ns (PMsg.ofN [x0, x1, x2, x3, x4, x5, x6, x7, x8, x9, x10, x11, x12] es) = [x0, x1, x2, x3, x4, x5, x6, x7, x8, x9, x10, x11, x12])
          · have HD := Lib.hid (HRR.out.trans (if_neg (fun h => of_decide_eq_false hq h.2)))
            have HQ := Lib.hid (show (!decide (PMsg.ns (PMsg.ofN [x0, x1, x2, x3, x4, x5, x6, x7, x8, x9, x10, x11, x12] es) = [x0, x1, x2, x3, x4, x5, x6, x7, x8, x9, x10, x11, x12])) = true by rw [hq]; rfl)
            clear hm hq
-- REGION curfew/wire.Decode 11 wdec11b 12
            refine Hb.begin ?_
            refine Hb.take (v := mv (PMsg.ofN [x0, x1, x2, x3, x4, x5, x6, x7, x8, x9, x10, x11, x12] es) A3 c3) 0 41 rfl ?_ (fun w' hw' => by exact run_loadM (KM7.out.drew.past hw') rfl)
            refine Hb.call (f := 141) (args := #[mv (PMsg.ofN [x0, x1, x2, x3, x4, x5, x6, x7, x8, x9, x10, x11, x12] es) A3 c3]) 1 42 rfl ?_ (run_callf Tryz.func141 (by kernel_rfl) (by kernel_rfl) (by simp only [List.map_toArray, List.map_cons, List.map_nil]; rfl))
            refine (wMay_c w7.drew (PMsg.ofN [x0, x1, x2, x3, x4, x5, x6, x7, x8, x9, x10, x11, x12] es) A3 c3 RE7.out HX6.out).mono ?_
            rw [HM.out]
            rintro x w8 ⟨rfl, b8⟩
            have B8 := Lib.hid (show Below w7.heap.size w7 w8 from (Below.refl _ _).drew.trans b8)
            refine Hb.back b8 b8.size ?_
            refine Hb.take (v := .bool false) 2 43 rfl ?_ (fun w' hw' => by go_simp; first | done | rfl | omega | exact wrap_in (by omega) (by omega) | exact Int.tmod_eq_emod_of_nonneg (by omega) | exact Int.tdiv_eq_ediv_of_nonneg (by omega) | (simp; omega))
            refine Hb.take (v := .bool false) 3 44 rfl ?_ (fun _ _ => rfl)
            refine Hb.take (v := mv (PMsg.ofN [x0, x1, x2, x3, x4, x5, x6, x7, x8, x9, x10, x11, x12] es) A3 c3) 4 45 rfl ?_ (fun w' hw' => by exact run_loadM ((KM7.out.past B8.out).past hw') rfl)
            refine Hb.take (v := nv13 [x0, x1, x2, x3, x4, x5, x6, x7, x8, x9, x10, x11, x12]) 6 47 rfl ?_ (fun w' hw' => by exact run_loadN ((KN7.out.past B8.out).past hw') rfl)
            refine Hb.call (f := 142) (args := #[mv (PMsg.ofN [x0, x1, x2, x3, x4, x5, x6, x7, x8, x9, x10, x11, x12] es) A3 c3]) 5 46 rfl ?_ (run_callf Tryz.func142 (by kernel_rfl) (by kernel_rfl) (by simp only [List.map_toArray, List.map_cons, List.map_nil]; rfl))
            refine (wNums_c w8 (PMsg.ofN [x0, x1, x2, x3, x4, x5, x6, x7, x8, x9, x10, x11, x12] es) A3 c3).mono ?_
            rintro x w9 ⟨rfl, b9⟩
            have B9 := Lib.hid (B8.out.trans (b9.mono B8.out.size))
            refine Hb.back b9 b9.size ?_
            refine Hb.take (v := .bool true) 7 48 rfl ?_ (fun w' hw' => by exact run_numsNe rfl rfl HLM.out rfl HQ.out)
            refine Hb.take (v := .bool true) 8 49 rfl ?_ (fun _ _ => rfl)
            refine Hb.done ?_
-- END
            have BL9 := Lib.hid (BL7.out.trans (B9.out.mono BL7.out.size))
            have KZ9 := Lib.hid (KZ7.out.past B9.out)
            go_wp2_with ((with_reducible show wpList _ _ _ ((⟨none, Op.store 31 (.tmp 2) _, _, _, _, _⟩ : Oper) :: _) _ _); go_must (refine wpList_store_row rfl 31 (.tmp 2) (.tmp 50) rfl w.heap.size _ rfl rfl _ _ KZ9.out (by kernel_rfl) (by rfl) (by kernel_rfl) ?_))
            have K2 := KZ9.out.row #[.int .i64 0, .int .i64 0, .int .i64 0, .int .i64 0, .int .i64 0, .int .i64 0, .int .i64 0, .int .i64 0, .slice none 0 0, .int .i64 0, .int .i64 0, .int .i64 0, .bool false]
            have B2 := grown_below (grown_row w9 w.heap.size #[.int .i64 0, .int .i64 0, .int .i64 0, .int .i64 0, .int .i64 0, .int .i64 0, .int .i64 0, .int .i64 0, .slice none 0 0, .int .i64 0, .int .i64 0, .int .i64 0, .bool false]) (Nat.le_refl _) BL9.out.size
            refine bodyPost_ret (v := .tuple #[mv zeroM none 0, .int .i64 1]) (results_rowB rfl _ _ w.heap.size _ _ _ _ rfl rfl K2 Tryz.underlying31 rfl (by kernel_rfl)) rfl ?_
            rw [HD.out]
            exact ⟨none, 0, rfl, World.ownsRow_nil _ _ _ _, BL9.out.trans B2⟩
          · have HD := Lib.hid (HRR.out.trans (if_pos ⟨hm, of_decide_eq_true hq⟩))
            have HQ := Lib.hid (show (!decide (PMsg.ns (PMsg.ofN [x0, x1, x2, x3, x4, x5, x6, x7, x8, x9, x10, x11, x12] es) = [x0, x1, x2, x3, x4, x5, x6, x7, x8, x9, x10, x11, x12])) = false by rw [hq]; rfl)
            clear hm hq
-- REGION curfew/wire.Decode 11 wdec11c 12
            refine Hb.begin ?_
            refine Hb.take (v := mv (PMsg.ofN [x0, x1, x2, x3, x4, x5, x6, x7, x8, x9, x10, x11, x12] es) A3 c3) 0 41 rfl ?_ (fun w' hw' => by exact run_loadM (KM7.out.drew.past hw') rfl)
            refine Hb.call (f := 141) (args := #[mv (PMsg.ofN [x0, x1, x2, x3, x4, x5, x6, x7, x8, x9, x10, x11, x12] es) A3 c3]) 1 42 rfl ?_ (run_callf Tryz.func141 (by kernel_rfl) (by kernel_rfl) (by simp only [List.map_toArray, List.map_cons, List.map_nil]; rfl))
            refine (wMay_c w7.drew (PMsg.ofN [x0, x1, x2, x3, x4, x5, x6, x7, x8, x9, x10, x11, x12] es) A3 c3 RE7.out HX6.out).mono ?_
            rw [HM.out]
            rintro x w8 ⟨rfl, b8⟩
            have B8 := Lib.hid (show Below w7.heap.size w7 w8 from (Below.refl _ _).drew.trans b8)
            refine Hb.back b8 b8.size ?_
            refine Hb.take (v := .bool false) 2 43 rfl ?_ (fun w' hw' => by go_simp; first | done | rfl | omega | exact wrap_in (by omega) (by omega) | exact Int.tmod_eq_emod_of_nonneg (by omega) | exact Int.tdiv_eq_ediv_of_nonneg (by omega) | (simp; omega))
            refine Hb.take (v := .bool false) 3 44 rfl ?_ (fun _ _ => rfl)
            refine Hb.take (v := mv (PMsg.ofN [x0, x1, x2, x3, x4, x5, x6, x7, x8, x9, x10, x11, x12] es) A3 c3) 4 45 rfl ?_ (fun w' hw' => by exact run_loadM ((KM7.out.past B8.out).past hw') rfl)
            refine Hb.take (v := nv13 [x0, x1, x2, x3, x4, x5, x6, x7, x8, x9, x10, x11, x12]) 6 47 rfl ?_ (fun w' hw' => by exact run_loadN ((KN7.out.past B8.out).past hw') rfl)
            refine Hb.call (f := 142) (args := #[mv (PMsg.ofN [x0, x1, x2, x3, x4, x5, x6, x7, x8, x9, x10, x11, x12] es) A3 c3]) 5 46 rfl ?_ (run_callf Tryz.func142 (by kernel_rfl) (by kernel_rfl) (by simp only [List.map_toArray, List.map_cons, List.map_nil]; rfl))
            refine (wNums_c w8 (PMsg.ofN [x0, x1, x2, x3, x4, x5, x6, x7, x8, x9, x10, x11, x12] es) A3 c3).mono ?_
            rintro x w9 ⟨rfl, b9⟩
            have B9 := Lib.hid (B8.out.trans (b9.mono B8.out.size))
            refine Hb.back b9 b9.size ?_
            refine Hb.take (v := .bool false) 7 48 rfl ?_ (fun w' hw' => by exact run_numsNe rfl rfl HLM.out rfl HQ.out)
            refine Hb.take (v := .bool false) 8 49 rfl ?_ (fun _ _ => rfl)
            refine Hb.done ?_
-- END
            have BL9 := Lib.hid (BL7.out.trans (B9.out.mono BL7.out.size))
            have KZ9 := Lib.hid (KZ7.out.past B9.out)
            have KM9 := Lib.hid (KM7.out.past B9.out)
            go_wp2_with (first
              | ((with_reducible show wpList _ _ _ ((⟨some 51, Op.load _ _, _, _, _, _⟩ : Oper) :: _) _ _); go_must (refine wpList_load_row rfl 31 (.tmp 10) rfl g6 rfl 31 #[.int .i64 x0, .int .i64 x1, .int .i64 x2, .int .i64 x3, .int .i64 x4, .int .i64 x5, .int .i64 x6, .int .i64 x7, .slice A3 es.length c3, .int .i64 x8, .int .i64 x9, .int .i64 x10, .bool (x11 == 1)] (0, 0) _ KM9.out Tryz.underlying31 rfl (by kernel_rfl) ?_))
              | ((with_reducible show wpList _ _ _ ((⟨none, Op.store 31 (.tmp 2) _, _, _, _, _⟩ : Oper) :: _) _ _); go_must (refine wpList_store_row rfl 31 (.tmp 2) (.tmp 51) rfl w.heap.size _ rfl rfl _ _ KZ9.out (by kernel_rfl) (by rfl) (by kernel_rfl) ?_)))
            have K2 := KZ9.out.row #[.int .i64 x0, .int .i64 x1, .int .i64 x2, .int .i64 x3, .int .i64 x4, .int .i64 x5, .int .i64 x6, .int .i64 x7, .slice A3 es.length c3, .int .i64 x8, .int .i64 x9, .int .i64 x10, .bool (x11 == 1)]
            have b2 := grown_row w9 w.heap.size #[.int .i64 x0, .int .i64 x1, .int .i64 x2, .int .i64 x3, .int .i64 x4, .int .i64 x5, .int .i64 x6, .int .i64 x7, .slice A3 es.length c3, .int .i64 x8, .int .i64 x9, .int .i64 x10, .bool (x11 == 1)]
            have B2 := grown_below b2 (Nat.le_refl _) BL9.out.size
            refine bodyPost_ret (v := .tuple #[mv (PMsg.ofN [x0, x1, x2, x3, x4, x5, x6, x7, x8, x9, x10, x11, x12] es) A3 c3, .int .i64 0]) (results_rowB rfl _ _ w.heap.size _ _ _ _ rfl rfl K2 Tryz.underlying31 rfl (by kernel_rfl)) rfl ?_
            rw [HD.out]
            refine ⟨A3, c3, rfl, ?_, BL9.out.trans B2⟩
            exact own_touch (own_touch OW7.out (S := []) (Touch.of_below B9.out) (by simp)) (Touch.of_grown b2) (fun s hs zs hz => by
              obtain rfl := List.mem_singleton.1 hs
              exact KZ9.out.ne hz (by decide) rfl)
end Go.Proofs.YtacipjdaiglnjaaGreatDoor

/- Contract of the statements' Cut. -/
namespace Go.Proofs.YtacipjdaiglnjaaGreatDoor
open Go.RowKit

end Go.Proofs.YtacipjdaiglnjaaGreatDoor

/- Contracts of the statements' Cut, Entries. -/
namespace Go.Proofs.YtacipjdaiglnjaaGreatDoor
open Go.RowKit

end Go.Proofs.YtacipjdaiglnjaaGreatDoor

/- The statements' Cut of a message. -/
namespace Go.Proofs.YtacipjdaiglnjaaGreatDoor
open Go.RowKit

end Go.Proofs.YtacipjdaiglnjaaGreatDoor

/- Decode in two ways (the statements' Cut of a message: XWireM). -/
namespace Go.Proofs.YtacipjdaiglnjaaGreatDoor
open Go.RowKit


theorem wDecode_none {w : World} {B : Nat} {A : Option Addr} {c n : Nat} {l : List Int} (h : Rd w B A c 1 n (bs l)) (hb : isB l) (ht : Tab w) (hn : n ≤ 1000000) (hd : PMsg.dec l = none) :
    Calls Tryz.prog 87 #[.slice A n c] w fun x w' => ∃ (A' : Option Addr) (c' : Nat), x = .returned (.tuple #[.agg #[.int .i64 0, .int .i64 0, .int .i64 0, .int .i64 0, .int .i64 0, .int .i64 0, .int .i64 0, .int .i64 0, .slice A' 0 c', .int .i64 0, .int .i64 0, .int .i64 0, .bool false], .int .i64 1]) ∧ Below w.heap.size w w' := by
  have := wDecode_c w B A c n l h hb ht hn
  rw [hd] at this
  exact this.mono fun x w' ⟨A', c', e, _, hb⟩ => ⟨A', c', e, hb⟩
end Go.Proofs.YtacipjdaiglnjaaGreatDoor

/- Contract of Hear. -/
namespace Go.Proofs.YtacipjdaiglnjaaGreatDoor
open Go.RowKit

/-- Blocks that are made on the way may be written, too. -/
theorem Touch.new {S S2 : List Nat} {a b c : World} (h : Touch S a b) (k : Touch S2 b c) (hs : ∀ q ∈ S2, q ∈ S ∨ a.heap.size ≤ q) : Touch S a c :=
  ⟨k.os.trans h.os, k.tape.trans h.tape, k.output.trans h.output, Nat.le_trans h.size k.size, fun i hi hn => (k.block i (Nat.lt_of_lt_of_le hi h.size) fun hm => by
    rcases hs i hm with h1 | h1
    · exact hn h1
    · omega).trans (h.block i hi hn)⟩
theorem Touch.draws {S : List Nat} {a b : World} (h : Touch S a b) (n : Nat) : Touch S a (b.drewN n) := ⟨h.os, h.tape, h.output, h.size, h.block⟩

/-- The message or a zero one, what is told; the gram behind it. -/
def HearPost (w : World) (g : Nat) (me : Int) (L : List Oth) (r : Option Msg) (x : Ending) (w' : World) : Prop :=
  ∃ (A' : Option Addr) (c' : Nat), x = .returned (.tuple #[mv (PGram.hmsg me L r) A' c', .int .i64 (PGram.herr me L r)]) ∧
    w'.ownsRow w.heap.size 93 7 (.slice A' (PGram.hmsg me L r).es.length c') (PGram.hmsg me L r).es.length (els (PGram.hmsg me L r).es) ∧ Gm w' g me (PGram.hleft me L r) ∧ Touch [g] w w'

/-- What Decode tells where there is a message: its entries are its own. -/
theorem wDecode_own {w : World} {B : Nat} {A : Option Addr} {c n : Nat} {l : List Int} {m : Msg} (h : Rd w B A c 1 n (bs l)) (hb : isB l) (ht : Tab w) (hn : n ≤ 1000000) (hd : PMsg.dec l = some m) :
    Calls Tryz.prog 87 #[.slice A n c] w fun x w' => ∃ (A' : Option Addr) (c' : Nat), x = .returned (.tuple #[.agg #[.int .i64 m.kind, .int .i64 m.fr, .int .i64 m.dst, .int .i64 m.boot, .int .i64 m.view, .int .i64 m.last, .int .i64 m.mem, .int .i64 m.pos, .slice A' m.es.length c', .int .i64 m.com, .int .i64 m.num, .int .i64 m.clk, .bool m.yes], .int .i64 0]) ∧ w'.ownsRow w.heap.size 93 7 (.slice A' m.es.length c') m.es.length (els m.es) ∧ Below w.heap.size w w' := by
  have := wDecode_c w B A c n l h hb ht hn
  rw [hd] at this
  exact this

set_option maxHeartbeats 4000000 in
set_option maxRecDepth 100000 in
theorem hear_c (w : World) (g : Nat) (me : Int) (L : List Oth) (A : Option Addr) (c n : Nat) (l : List Int) (hg : Gm w g me L) (h : Rd w w.heap.size A c 1 n (bs l)) (hb : isB l) (ht : Tab w) (hn : n ≤ 1000000) :
    Calls Tryz.prog 55 #[.pointer (some ⟨g, 0, none⟩), .slice A n c] w (HearPost w g me L (PMsg.dec l)) := by
  have HMAY := Lib.hid (fun m (h : PMsg.dec l = some m) => (PMsg.may_iff m).1 (PMsg.dec_inv hb h).1)
  have b1 := (Below.refl w.heap.size w).alloc (Nat.le_refl _) (.cells #[.int .i64 0, .int .i64 0, .int .i64 0, .int .i64 0, .int .i64 0, .int .i64 0, .int .i64 0, .int .i64 0, .slice none 0 0, .int .i64 0, .int .i64 0, .int .i64 0, .bool false] 31)
  have K0 := Blk.new w #[.int .i64 0, .int .i64 0, .int .i64 0, .int .i64 0, .int .i64 0, .int .i64 0, .int .i64 0, .int .i64 0, .slice none 0 0, .int .i64 0, .int .i64 0, .int .i64 0, .bool false] 31
  have R0 := Lib.hid h
  have HB := Lib.hid hb
  have HT := Lib.hid ht
  have HG := Lib.hid hg
  have HGL := Lib.hid hg.1.lt
  clear h hb ht hg
  cases hd : PMsg.dec l with
  | none =>
    go_enter Tryz.func55, Tryz.ntmps55
    go_wp2_with fail
    generalize w.alloc (.cells #[.int .i64 0, .int .i64 0, .int .i64 0, .int .i64 0, .int .i64 0, .int .i64 0, .int .i64 0, .int .i64 0, .slice none 0 0, .int .i64 0, .int .i64 0, .int .i64 0, .bool false] 31) = w1 at *
    have K1 := Lib.hid (show Blk w1 w.heap.size 31 (mcs zeroM none 0) from K0)
    have BL1 := Lib.hid b1
    clear K0 b1
    refine (wDecode_none (R0.out.past BL1.out) HB.out (HT.out.past BL1.out) hn hd).mono ?_
    clear hd HMAY
    rintro x w2 ⟨A1, c1, rfl, b2⟩
    have BL2 := Lib.hid (BL1.out.trans (b2.mono BL1.out.size))
    have K2 := Lib.hid (K1.out.past b2)
    have b3 := (Below.refl w2.heap.size w2).alloc (Nat.le_refl _) (.cells #[.int .i64 0, .int .i64 0, .int .i64 0, .int .i64 0, .int .i64 0, .int .i64 0, .int .i64 0, .int .i64 0, .slice A1 0 c1, .int .i64 0, .int .i64 0, .int .i64 0, .bool false] 31)
    have BL3 := Lib.hid (BL2.out.trans (b3.mono BL2.out.size))
    have K3 := Lib.hid (K2.out.past b3)
    clear b2 b3 K2 K1 BL1 BL2
    go_wp2_with fail
    generalize w2.alloc (.cells #[.int .i64 0, .int .i64 0, .int .i64 0, .int .i64 0, .int .i64 0, .int .i64 0, .int .i64 0, .int .i64 0, .slice A1 0 c1, .int .i64 0, .int .i64 0, .int .i64 0, .bool false] 31) = w3 at *
    go_quiet (fail)
    go_wp2_with ((with_reducible show wpList _ _ _ ((⟨none, Op.store 31 (.tmp 4) _, _, _, _, _⟩ : Oper) :: _) _ _); go_must (refine wpList_store_row rfl 31 (.tmp 4) (.tmp 28) rfl w.heap.size _ rfl rfl _ _ K3.out (by kernel_rfl) (by rfl) (by kernel_rfl) ?_))
    refine bodyPost_ret (v := .tuple #[mv zeroM none 0, .int .i64 1]) (results_rowB rfl _ _ w.heap.size _ _ _ _ rfl rfl (Blk.row (w := w3.drewN _) K3.out #[.int .i64 0, .int .i64 0, .int .i64 0, .int .i64 0, .int .i64 0, .int .i64 0, .int .i64 0, .int .i64 0, .slice none 0 0, .int .i64 0, .int .i64 0, .int .i64 0, .bool false]) Tryz.underlying31 rfl (by kernel_rfl)) rfl ?_
    exact ⟨none, 0, rfl, World.ownsRow_nil _ _ _ _, Gm.far (w := w3.drewN _) (show Gm w3 g me L from HG.out.past BL3.out) (Touch.of_grown (grown_row _ _ _)) (by simpa using Nat.ne_of_lt HGL.out), ((Touch.of_below BL3.out).draws _).new (Touch.of_grown (grown_row _ _ _)) (by simp)⟩
  | some m =>
    have HM := Lib.hid (HMAY.out m hd)
    have HLN := Lib.hid (show L.length = 7 from HG.out.2)
    obtain ⟨k, hk, hfr⟩ : ∃ k : Nat, k < 7 ∧ m.fr = (k : Int) + 1 := ⟨(m.fr - 1).toNat, by have := HM.out.2.1; omega, by have := HM.out.2.1; omega⟩
    have HF := Lib.hid hfr
    obtain ⟨o, ho⟩ : ∃ o, L.getD k PGram.zero = o := ⟨_, rfl⟩
    have HA := Lib.hid (show PGram.at_ L m.fr = o by rw [hfr, PGram.at_k]; exact ho)
    have HP := Lib.hid (show ∀ o', PGram.put L m.fr o' = L.set k o' by intro o'; rw [hfr, PGram.put_k])
    have HO := Lib.hid ho
    clear hfr ho HMAY HM
    by_cases hme : m.dst = me
    · have t1 : (m.dst != me) = false := by simp [hme]
      have hme' := Lib.hid hme
      clear hme
      by_cases hlt : m.boot < o.boot
      · have t2 : decide (m.boot < o.boot) = true := decide_eq_true hlt
        have HE := Lib.hid (show PGram.herr me L (some m) = 7 ∧ PGram.hmsg me L (some m) = zeroM ∧ PGram.hleft me L (some m) = L by
          unfold PGram.herr PGram.hmsg PGram.hleft
          simp only [hme'.out, ne_eq, not_true_eq_false, if_false, HA.out, hlt, if_true, and_self])
        clear hlt
        go_enter Tryz.func55, Tryz.ntmps55
        go_wp2_with fail
        generalize w.alloc (.cells #[.int .i64 0, .int .i64 0, .int .i64 0, .int .i64 0, .int .i64 0, .int .i64 0, .int .i64 0, .int .i64 0, .slice none 0 0, .int .i64 0, .int .i64 0, .int .i64 0, .bool false] 31) = w1 at *
        have K1 := Lib.hid (show Blk w1 w.heap.size 31 (mcs zeroM none 0) from K0)
        have BL1 := Lib.hid b1
        clear K0 b1
        refine (wDecode_own (R0.out.past BL1.out) HB.out (HT.out.past BL1.out) hn hd).mono ?_
        clear hd
        rintro x w2 ⟨A1, c1, rfl, o2, b2⟩
        have BL2 := Lib.hid (BL1.out.trans (b2.mono BL1.out.size))
        have K2 := Lib.hid (K1.out.past b2)
        have O2 := Lib.hid (own_base o2 (show w.heap.size ≤ w1.heap.size from BL1.out.size))
        have b3 := (Below.refl w2.heap.size w2).alloc (Nat.le_refl _) (.cells #[.int .i64 m.kind, .int .i64 m.fr, .int .i64 m.dst, .int .i64 m.boot, .int .i64 m.view, .int .i64 m.last, .int .i64 m.mem, .int .i64 m.pos, .slice A1 m.es.length c1, .int .i64 m.com, .int .i64 m.num, .int .i64 m.clk, .bool m.yes] 31)
        have BL3 := Lib.hid (BL2.out.trans (b3.mono BL2.out.size))
        have K3 := Lib.hid (K2.out.past b3)
        have O3 := Lib.hid (own_touch O2.out (S := []) (Touch.of_below b3) (by simp))
        have KM3 := Lib.hid (show Blk (w2.alloc (.cells #[.int .i64 m.kind, .int .i64 m.fr, .int .i64 m.dst, .int .i64 m.boot, .int .i64 m.view, .int .i64 m.last, .int .i64 m.mem, .int .i64 m.pos, .slice A1 m.es.length c1, .int .i64 m.com, .int .i64 m.num, .int .i64 m.clk, .bool m.yes] 31)) w2.heap.size 31 (mcs m A1 c1) from Blk.new w2 #[.int .i64 m.kind, .int .i64 m.fr, .int .i64 m.dst, .int .i64 m.boot, .int .i64 m.view, .int .i64 m.last, .int .i64 m.mem, .int .i64 m.pos, .slice A1 m.es.length c1, .int .i64 m.com, .int .i64 m.num, .int .i64 m.clk, .bool m.yes] 31)
        have G3 := Lib.hid (HG.out.past BL3.out)
        clear o2 b2 b3 K2 K1 O2
        go_wp2_with fail
        generalize w2.alloc (.cells #[.int .i64 m.kind, .int .i64 m.fr, .int .i64 m.dst, .int .i64 m.boot, .int .i64 m.view, .int .i64 m.last, .int .i64 m.mem, .int .i64 m.pos, .slice A1 m.es.length c1, .int .i64 m.com, .int .i64 m.num, .int .i64 m.clk, .bool m.yes] 31) = w3 at *
        generalize w2.heap.size = gm at *
        have k1 := KM3.out.cell (i := 1) rfl
        have k2 := KM3.out.cell (i := 2) rfl
        have k3 := KM3.out.cell (i := 3) rfl
        have gme := G3.out.self
        have gb := (G3.out.cells hk HO.out).1
        go_quiet (fail)
        go_wp2_with fail
        refine (other_c _ g k hk _ HF.out).mono ?_
        rintro e w4 ⟨rfl, rfl⟩
        go_wp2_with fail
        go_quiet (fail)
        go_wp2_with ((with_reducible show wpList _ _ _ ((⟨none, Op.store 31 (.tmp 4) _, _, _, _, _⟩ : Oper) :: _) _ _); go_must (refine wpList_store_row rfl 31 (.tmp 4) (.tmp 40) rfl w.heap.size _ rfl rfl _ _ K3.out (by kernel_rfl) (by rfl) (by kernel_rfl) ?_))
        refine bodyPost_ret (v := .tuple #[mv zeroM none 0, .int .i64 7]) (results_rowB rfl _ _ w.heap.size _ _ _ _ rfl rfl (Blk.row (w := w3.drewN _) K3.out #[.int .i64 0, .int .i64 0, .int .i64 0, .int .i64 0, .int .i64 0, .int .i64 0, .int .i64 0, .int .i64 0, .slice none 0 0, .int .i64 0, .int .i64 0, .int .i64 0, .bool false]) Tryz.underlying31 rfl (by kernel_rfl)) rfl ?_
        unfold HearPost
        rw [HE.out.1, HE.out.2.1, HE.out.2.2]
        exact ⟨none, 0, rfl, World.ownsRow_nil _ _ _ _, Gm.far (w := w3.drewN _) G3.out (Touch.of_grown (grown_row _ _ _)) (by simpa using Nat.ne_of_lt HGL.out), ((Touch.of_below BL3.out).draws _).new (Touch.of_grown (grown_row _ _ _)) (by simp)⟩
      · have t2 : decide (m.boot < o.boot) = false := decide_eq_false hlt
        have HE := Lib.hid (show PGram.herr me L (some m) = 0 ∧ PGram.hmsg me L (some m) = m ∧ PGram.hleft me L (some m) = L.set k ⟨m.boot, o.num, o.clk, o.sent⟩ by
          unfold PGram.herr PGram.hmsg PGram.hleft
          simp only [hme'.out, ne_eq, not_true_eq_false, if_false, HA.out, hlt, if_false, HP.out, and_self])
        clear hlt
        go_enter Tryz.func55, Tryz.ntmps55
        go_wp2_with fail
        generalize w.alloc (.cells #[.int .i64 0, .int .i64 0, .int .i64 0, .int .i64 0, .int .i64 0, .int .i64 0, .int .i64 0, .int .i64 0, .slice none 0 0, .int .i64 0, .int .i64 0, .int .i64 0, .bool false] 31) = w1 at *
        have K1 := Lib.hid (show Blk w1 w.heap.size 31 (mcs zeroM none 0) from K0)
        have BL1 := Lib.hid b1
        clear K0 b1
        refine (wDecode_own (R0.out.past BL1.out) HB.out (HT.out.past BL1.out) hn hd).mono ?_
        clear hd
        rintro x w2 ⟨A1, c1, rfl, o2, b2⟩
        have BL2 := Lib.hid (BL1.out.trans (b2.mono BL1.out.size))
        have K2 := Lib.hid (K1.out.past b2)
        have O2 := Lib.hid (own_base o2 (show w.heap.size ≤ w1.heap.size from BL1.out.size))
        have b3 := (Below.refl w2.heap.size w2).alloc (Nat.le_refl _) (.cells #[.int .i64 m.kind, .int .i64 m.fr, .int .i64 m.dst, .int .i64 m.boot, .int .i64 m.view, .int .i64 m.last, .int .i64 m.mem, .int .i64 m.pos, .slice A1 m.es.length c1, .int .i64 m.com, .int .i64 m.num, .int .i64 m.clk, .bool m.yes] 31)
        have BL3 := Lib.hid (BL2.out.trans (b3.mono BL2.out.size))
        have K3 := Lib.hid (K2.out.past b3)
        have O3 := Lib.hid (own_touch O2.out (S := []) (Touch.of_below b3) (by simp))
        have KM3 := Lib.hid (show Blk (w2.alloc (.cells #[.int .i64 m.kind, .int .i64 m.fr, .int .i64 m.dst, .int .i64 m.boot, .int .i64 m.view, .int .i64 m.last, .int .i64 m.mem, .int .i64 m.pos, .slice A1 m.es.length c1, .int .i64 m.com, .int .i64 m.num, .int .i64 m.clk, .bool m.yes] 31)) w2.heap.size 31 (mcs m A1 c1) from Blk.new w2 #[.int .i64 m.kind, .int .i64 m.fr, .int .i64 m.dst, .int .i64 m.boot, .int .i64 m.view, .int .i64 m.last, .int .i64 m.mem, .int .i64 m.pos, .slice A1 m.es.length c1, .int .i64 m.com, .int .i64 m.num, .int .i64 m.clk, .bool m.yes] 31)
        have G3 := Lib.hid (HG.out.past BL3.out)
        clear o2 b2 b3 K2 K1 O2
        go_wp2_with fail
        generalize w2.alloc (.cells #[.int .i64 m.kind, .int .i64 m.fr, .int .i64 m.dst, .int .i64 m.boot, .int .i64 m.view, .int .i64 m.last, .int .i64 m.mem, .int .i64 m.pos, .slice A1 m.es.length c1, .int .i64 m.com, .int .i64 m.num, .int .i64 m.clk, .bool m.yes] 31) = w3 at *
        generalize w2.heap.size = gm at *
        have k1 := KM3.out.cell (i := 1) rfl
        have k2 := KM3.out.cell (i := 2) rfl
        have k3 := KM3.out.cell (i := 3) rfl
        have gme := G3.out.self
        have gb := (G3.out.cells hk HO.out).1
        go_quiet (fail)
        go_wp2_with fail
        refine (other_c _ g k hk _ HF.out).mono ?_
        rintro e w4 ⟨rfl, rfl⟩
        go_wp2_with fail
        go_quiet (fail)
        have f0 := G3.out.1.free (1 + k * 4)
        have HNE := Lib.hid (show gm ≠ g from KM3.out.ne G3.out.1 (by decide))
        have KM4 := Lib.hid (fun n => show Blk ((w3.drewN n).setCell ⟨g, 1 + k * 4, none⟩ (.int .i64 m.boot)) gm 31 (mcs m A1 c1) from Blk.touch (w := w3.drewN n) KM3.out (Touch.of_grown (grown_set _ _ _ _)) (by simpa using HNE.out))
        have K4 := Lib.hid (fun n => show Blk ((w3.drewN n).setCell ⟨g, 1 + k * 4, none⟩ (.int .i64 m.boot)) w.heap.size 31 (mcs zeroM none 0) from Blk.touch (w := w3.drewN n) K3.out (Touch.of_grown (grown_set _ _ _ _)) (by simpa using (Nat.ne_of_lt HGL.out).symm))
        have O4 := Lib.hid (fun n => own_touch (w := w3.drewN n) O3.out (Touch.of_grown (grown_set _ g (1 + k * 4) (.int .i64 m.boot))) (fun s hs zs hz => by
          obtain rfl := List.mem_singleton.1 hs
          exact Blk.ne G3.out.1 hz (by decide) rfl))
        have G4 := Lib.hid (fun n => Gm.set (w := w3.drewN n) G3.out hk HO.out (j := 0) (by omega) (o' := ⟨m.boot, o.num, o.clk, o.sent⟩) (v := .int .i64 m.boot) rfl)
        go_wp2_with (first | ((with_reducible show wpList _ _ _ ((⟨some 46, Op.load _ _, _, _, _, _⟩ : Oper) :: _) _ _); go_must (refine wpList_load_row rfl 31 (.tmp 6) rfl gm rfl 31 #[.int .i64 m.kind, .int .i64 m.fr, .int .i64 m.dst, .int .i64 m.boot, .int .i64 m.view, .int .i64 m.last, .int .i64 m.mem, .int .i64 m.pos, .slice A1 m.es.length c1, .int .i64 m.com, .int .i64 m.num, .int .i64 m.clk, .bool m.yes] (0, 0) _ (KM4.out _) Tryz.underlying31 rfl (by kernel_rfl) ?_)) | ((with_reducible show wpList _ _ _ ((⟨none, Op.store 31 (.tmp 4) _, _, _, _, _⟩ : Oper) :: _) _ _); go_must (refine wpList_store_row rfl 31 (.tmp 4) (.tmp 46) rfl w.heap.size _ rfl rfl _ _ (K4.out _) (by kernel_rfl) (by rfl) (by kernel_rfl) ?_)))
        refine bodyPost_ret (v := .tuple #[mv m A1 c1, .int .i64 0]) (results_rowB rfl _ _ w.heap.size _ _ _ _ rfl rfl (Blk.row (K4.out _) #[.int .i64 m.kind, .int .i64 m.fr, .int .i64 m.dst, .int .i64 m.boot, .int .i64 m.view, .int .i64 m.last, .int .i64 m.mem, .int .i64 m.pos, .slice A1 m.es.length c1, .int .i64 m.com, .int .i64 m.num, .int .i64 m.clk, .bool m.yes]) Tryz.underlying31 rfl (by kernel_rfl)) rfl ?_
        unfold HearPost
        rw [HE.out.1, HE.out.2.1, HE.out.2.2]
        refine ⟨A1, c1, rfl, own_touch (O4.out _) (Touch.of_grown (grown_row _ _ _)) (fun s hs zs hz => ?_), (G4.out _).far (Touch.of_grown (grown_row _ _ _)) (by simpa using Nat.ne_of_lt HGL.out), (((Touch.of_below BL3.out).draws _).trans (Touch.of_grown (grown_set _ _ _ _))).new (Touch.of_grown (grown_row _ _ _)) (by simp)⟩
        obtain rfl := List.mem_singleton.1 hs
        exact Blk.ne (K4.out _) hz (by decide) rfl
    · have t1 : (m.dst != me) = true := by simp [hme]
      have HE := Lib.hid (show PGram.herr me L (some m) = 1 ∧ PGram.hmsg me L (some m) = zeroM ∧ PGram.hleft me L (some m) = L by
        unfold PGram.herr PGram.hmsg PGram.hleft
        simp only [hme, ne_eq, not_false_eq_true, if_true, and_self])
      clear hme
      go_enter Tryz.func55, Tryz.ntmps55
      go_wp2_with fail
      generalize w.alloc (.cells #[.int .i64 0, .int .i64 0, .int .i64 0, .int .i64 0, .int .i64 0, .int .i64 0, .int .i64 0, .int .i64 0, .slice none 0 0, .int .i64 0, .int .i64 0, .int .i64 0, .bool false] 31) = w1 at *
      have K1 := Lib.hid (show Blk w1 w.heap.size 31 (mcs zeroM none 0) from K0)
      have BL1 := Lib.hid b1
      clear K0 b1
      refine (wDecode_own (R0.out.past BL1.out) HB.out (HT.out.past BL1.out) hn hd).mono ?_
      clear hd
      rintro x w2 ⟨A1, c1, rfl, o2, b2⟩
      have BL2 := Lib.hid (BL1.out.trans (b2.mono BL1.out.size))
      have K2 := Lib.hid (K1.out.past b2)
      have O2 := Lib.hid (own_base o2 (show w.heap.size ≤ w1.heap.size from BL1.out.size))
      have b3 := (Below.refl w2.heap.size w2).alloc (Nat.le_refl _) (.cells #[.int .i64 m.kind, .int .i64 m.fr, .int .i64 m.dst, .int .i64 m.boot, .int .i64 m.view, .int .i64 m.last, .int .i64 m.mem, .int .i64 m.pos, .slice A1 m.es.length c1, .int .i64 m.com, .int .i64 m.num, .int .i64 m.clk, .bool m.yes] 31)
      have BL3 := Lib.hid (BL2.out.trans (b3.mono BL2.out.size))
      have K3 := Lib.hid (K2.out.past b3)
      have O3 := Lib.hid (own_touch O2.out (S := []) (Touch.of_below b3) (by simp))
      have KM3 := Lib.hid (show Blk (w2.alloc (.cells #[.int .i64 m.kind, .int .i64 m.fr, .int .i64 m.dst, .int .i64 m.boot, .int .i64 m.view, .int .i64 m.last, .int .i64 m.mem, .int .i64 m.pos, .slice A1 m.es.length c1, .int .i64 m.com, .int .i64 m.num, .int .i64 m.clk, .bool m.yes] 31)) w2.heap.size 31 (mcs m A1 c1) from Blk.new w2 #[.int .i64 m.kind, .int .i64 m.fr, .int .i64 m.dst, .int .i64 m.boot, .int .i64 m.view, .int .i64 m.last, .int .i64 m.mem, .int .i64 m.pos, .slice A1 m.es.length c1, .int .i64 m.com, .int .i64 m.num, .int .i64 m.clk, .bool m.yes] 31)
      have G3 := Lib.hid (HG.out.past BL3.out)
      clear o2 b2 b3 K2 K1 O2
      go_wp2_with fail
      generalize w2.alloc (.cells #[.int .i64 m.kind, .int .i64 m.fr, .int .i64 m.dst, .int .i64 m.boot, .int .i64 m.view, .int .i64 m.last, .int .i64 m.mem, .int .i64 m.pos, .slice A1 m.es.length c1, .int .i64 m.com, .int .i64 m.num, .int .i64 m.clk, .bool m.yes] 31) = w3 at *
      generalize w2.heap.size = gm at *
      have k1 := KM3.out.cell (i := 1) rfl
      have k2 := KM3.out.cell (i := 2) rfl
      have k3 := KM3.out.cell (i := 3) rfl
      have gme := G3.out.self
      have gb := (G3.out.cells hk HO.out).1
      go_quiet (fail)
      go_wp2_with ((with_reducible show wpList _ _ _ ((⟨none, Op.store 31 (.tmp 4) _, _, _, _, _⟩ : Oper) :: _) _ _); go_must (refine wpList_store_row rfl 31 (.tmp 4) (.tmp 28) rfl w.heap.size _ rfl rfl _ _ K3.out (by kernel_rfl) (by rfl) (by kernel_rfl) ?_))
      refine bodyPost_ret (v := .tuple #[mv zeroM none 0, .int .i64 1]) (results_rowB rfl _ _ w.heap.size _ _ _ _ rfl rfl (Blk.row (w := w3.drewN _) K3.out #[.int .i64 0, .int .i64 0, .int .i64 0, .int .i64 0, .int .i64 0, .int .i64 0, .int .i64 0, .int .i64 0, .slice none 0 0, .int .i64 0, .int .i64 0, .int .i64 0, .bool false]) Tryz.underlying31 rfl (by kernel_rfl)) rfl ?_
      unfold HearPost
      rw [HE.out.1, HE.out.2.1, HE.out.2.2]
      exact ⟨none, 0, rfl, World.ownsRow_nil _ _ _ _, Gm.far (w := w3.drewN _) G3.out (Touch.of_grown (grown_row _ _ _)) (by simpa using Nat.ne_of_lt HGL.out), ((Touch.of_below BL3.out).draws _).new (Touch.of_grown (grown_row _ _ _)) (by simp)⟩
end Go.Proofs.YtacipjdaiglnjaaGreatDoor

