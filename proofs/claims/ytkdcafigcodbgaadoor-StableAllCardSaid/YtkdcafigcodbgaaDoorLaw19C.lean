/- The walk of StableAll. -/
import Derived.Test.YtkdcafigcodbgaaDoorStabK
import Derived.Test.YtkdcafigcodbgaaDoorHeldT
import Derived.Test.YtkdcafigcodbgaaDoorInt
import Derived.Test.YtkdcafigcodbgaaDoorBools
import Derived.WalkSmall
import Derived.Deep.CutRange
import Derived.Deep.CutBlock
import Derived.Deep.LoopGhost
namespace Go.Proofs.YtkdcafigcodbgaaDoor
open Go.RowKit PStab

/-- The law's disk beside the document's own. -/
structure Sa (w0 w : World) (g g2 : Nat) (b v : Int) : Prop where
  sd : Sd w0 w g b v
  dr : Dr w g2 b v
  low : w0.heap.size ≤ g2
section
variable {w0 w w' : World} {g g2 : Nat} {b v : Int}
theorem Sa.past (h : Sa w0 w g g2 b v) (t : Below w.heap.size w w') : Sa w0 w' g g2 b v := ⟨h.sd.past t, h.dr.past t, h.low⟩
theorem Sa.drew (h : Sa w0 w g g2 b v) : Sa w0 w.drew g g2 b v := h.past (Below.refl _ _).drew
theorem Sa.ne (h : Sa w0 w g g2 b v) : g ≠ g2 := Blk.ne h.sd.ds h.dr (by decide)
theorem Sa.mid (h : Sa w0 w g g2 b v) (t : Touch [g] w w') : Dr w' g2 b v := Blk.touch h.dr t (by simpa using h.ne.symm)
end

set_option maxHeartbeats 4000000 in
set_option maxRecDepth 100000 in
theorem StableAll_w (w : World) (ht : Tab w) (A : Option Addr) (c n : Nat) (l : List Int) (h : Rd w w.heap.size A c 1 n (is l)) (SA : Option Addr) (sc sn : Nat) (sl : List Bool) (hs : Rd w w.heap.size SA sc 1 sn (sl.map Value.bool)) :
    Calls Tryd.prog 3 #[.slice A n c, .slice SA sn sc] w fun e w' => e = .returned (.bool true) ∧ Below w.heap.size w w' := by
  have HR := Lib.hid h
  have HS := Lib.hid hs
  have HT := Lib.hid ht
  clear h hs ht
  go_enter Tryd.func3, Tryd.ntmps3
  go_wp2_with fail
  refine (begunS_c w HT.out).mono ?_
  rintro e w1 ⟨rfl, b1⟩
  have S1 := Lib.hid b1
  clear b1
  have a2 := (Below.refl w1.heap.size w1).alloc (Nat.le_refl _) (.cells #[.int .i64 0, .int .i64 0] 27)
  have d2 : Hid (Sd w (w1.alloc (.cells #[.int .i64 0, .int .i64 0] 27)) w1.heap.size 0 0) := Lib.hid ⟨S1.out.trans (a2.mono S1.out.size), S1.out.size, Blk.new w1 #[.int .i64 0, .int .i64 0] _, ok_0, ok_0⟩
  have hsz : (w1.alloc (.cells #[.int .i64 0, .int .i64 0] 27)).heap.size = w1.heap.size + 1 := by simp
  have e3 := Blk.new (w1.alloc (.cells #[.int .i64 0, .int .i64 0] 27)) #[.int .i64 0, .int .i64 0] 30
  have a3 := (Below.refl (w1.alloc (.cells #[.int .i64 0, .int .i64 0] 27)).heap.size (w1.alloc (.cells #[.int .i64 0, .int .i64 0] 27))).alloc (Nat.le_refl _) (.cells #[.int .i64 0, .int .i64 0] 30)
  rw [hsz] at e3
  have A3 : Hid (Sa w ((w1.alloc (.cells #[.int .i64 0, .int .i64 0] 27)).alloc (.cells #[.int .i64 0, .int .i64 0] 30)) w1.heap.size (w1.heap.size + 1) 0 0) := Lib.hid ⟨d2.out.past a3, e3, Nat.le_succ_of_le S1.out.size⟩
  clear a2 d2 hsz e3 a3 S1
  go_wp2_with fail
  generalize (w1.alloc (.cells #[.int .i64 0, .int .i64 0] 27)).alloc (.cells #[.int .i64 0, .int .i64 0] 30) = w3 at *
  generalize hg2 : w1.heap.size + 1 = g2 at *
  generalize w1.heap.size = g at *
  clear hg2
  go_loopg [6, 8] n (fun k s6 s8 wr => ∃ (i g : Nat) (b v : Int), k = n - i ∧ i ≤ n ∧ i ≤ 30 ∧ s6 = .pointer (some ⟨g, 0, none⟩) ∧ s8 = .int .i64 i ∧ b ≤ i ∧ Hid (Sa w wr g g2 b v))
  case atStart => exact ⟨0, g, 0, 0, by omega, by omega, by omega, rfl, rfl, by omega, A3⟩
  case round =>
    clear A3
    obtain ⟨i, g, b, v, rfl, hin, hi30, rfl, rfl, hbi, AS⟩ := hrel
    by_cases hi1 : i < n
    · by_cases hi2 : i < 30
      · obtain ⟨bo, oo, rfl, hb0, hc0⟩ := HR.out.at_ hi1
        obtain ⟨x, hx⟩ : ∃ x, (is l).getD i undef = .int .i64 x := ⟨_, is_getD l i (by have := HR.out.ilen; omega)⟩
        rw [hx] at hc0
        have HB := Lib.hid hb0
        have HC := Lib.hid ((AS.out.sd.bel.cell (p := ⟨bo, oo + i, none⟩) hb0).trans hc0)
        clear hb0 hc0 hx
        go_upto_region 9 with fail
-- REGION curfew/curfewlaw19.StableAll 9 sall9 8
        refine Hb.beginB (B := w.heap.size) ?_
        refine Hb.take (v := .pointer (some ⟨g, 0, none⟩)) 0 28 rfl ?_ (fun _ _ => rfl)
        refine Hb.take (v := .slice (some ⟨bo, oo, none⟩) n c) 1 29 rfl ?_ (fun _ _ => rfl)
        refine Hb.take (v := .int .i64 (i : Int)) 2 30 rfl ?_ (fun _ _ => rfl)
        refine Hb.take (v := .pointer (some ⟨bo, oo + i, none⟩)) 3 31 rfl ?_ (fun w' hw' => by go_simp; first | done | rfl | omega | exact wrap_in (by omega) (by omega) | exact Int.tmod_eq_emod_of_nonneg (by omega) | exact Int.tdiv_eq_ediv_of_nonneg (by omega) | (simp; omega))
        refine Hb.take (v := .int .i64 x) 4 32 rfl ?_ (fun w' hw' => by have cc := (hw'.cell (p := ⟨bo, oo + i, none⟩) HB.out).trans HC.out; go_simp)
        refine Hb.take (v := .pointer (some ⟨g2, 0, none⟩)) 6 34 rfl ?_ (fun _ _ => rfl)
        refine Hb.take (v := .slice (some ⟨bo, oo, none⟩) n c) 7 35 rfl ?_ (fun _ _ => rfl)
        refine Hb.take (v := .int .i64 (i : Int)) 8 36 rfl ?_ (fun _ _ => rfl)
        refine Hb.take (v := .pointer (some ⟨bo, oo + i, none⟩)) 9 37 rfl ?_ (fun w' hw' => by go_simp; first | done | rfl | omega | exact wrap_in (by omega) (by omega) | exact Int.tmod_eq_emod_of_nonneg (by omega) | exact Int.tdiv_eq_ediv_of_nonneg (by omega) | (simp; omega))
        refine Hb.take (v := .int .i64 x) 10 38 rfl ?_ (fun w' hw' => by have cc := (hw'.cell (p := ⟨bo, oo + i, none⟩) HB.out).trans HC.out; go_simp)
        refine Hb.call (f := 10) (args := #[.pointer (some ⟨g, 0, none⟩), .int .i64 x]) 5 33 rfl ?_ (run_callf Tryd.func10 (by kernel_rfl) (by kernel_rfl) (by simp only [List.map_toArray, List.map_cons, List.map_nil]; rfl))
        refine (AS.out.sd.drew.promise x).mono ?_
        rintro e w3 ⟨rfl, s3, t3⟩
        have S3 := Lib.hid s3
        have R3 := Lib.hid (AS.out.drew.mid t3)
        refine Hb.back (t3.below (by simpa using AS.out.sd.own) AS.out.sd.bel.size) (Nat.le_refl _) ?_
        clear s3 t3
        refine Hb.call (f := 11) (args := #[.pointer (some ⟨g2, 0, none⟩), .int .i64 x]) 11 39 rfl ?_ (run_callf Tryd.func11 (by kernel_rfl) (by kernel_rfl) (by simp only [List.map_toArray, List.map_cons, List.map_nil]; rfl))
        refine (rProm_c w3 g2 b v R3.out x).mono ?_
        rintro e w4 ⟨rfl, r4, t4⟩
        have AS4 := Lib.hid (show Sa w w4 g g2 b (put v x) from ⟨S3.out.far t4 AS.out.low AS.out.ne, r4, AS.out.low⟩)
        refine Hb.back (t4.below (by simpa using AS.out.low) S3.out.bel.size) (Nat.le_refl _) ?_
        clear r4 t4
        refine Hb.take (v := .bool false) 12 40 rfl ?_ (fun w' hw' => by cases may v x <;> (go_simp; first | done | rfl))
        refine Hb.done ?_
-- END
        clear AS S3 R3 HC HB
        have HOV := Lib.hid AS4.out.sd.ov
        generalize put v x = v' at *
        generalize may v x = mm at *
        go_upto_region 11 with fail
        go_cut [50] from 41 to 116 (fun s50 wx => ∃ sb : Bool, s50 = .bool sb ∧ wx = w4)
        case first =>
          by_cases hs1 : i < sn
          · obtain ⟨b1, o1, y, rfl, hy⟩ := (HS.out.below AS4.out.sd.bel).bool hs1
            go_wp2_with fail
            go_meet
            case rel => exact ⟨y, rfl, rfl⟩
          · go_wp2_with fail
            go_meet
            case rel => exact ⟨false, rfl, rfl⟩
        case rest =>
          obtain ⟨sb, rfl, rfl⟩ := hcut
          go_upto_if 50 with fail
          go_cut [] from 51 to 116 (fun wx => ∃ b' : Int, b' ≤ i + 1 ∧ Hid (Sa w wx g g2 b' v'))
          case first =>
            cases sb
            · go_wp2_with fail
              go_meet
              case rel => exact ⟨b, by omega, AS4⟩
            · have q0 := Blk.cell AS4.out.dr (i := 0) rfl
              have f0 := Blk.free AS4.out.dr 0
              have hob := AS4.out.sd.ob
              have hob1 := hob.1
              go_upto_region 13 with fail
              have GG := grown_set wc g2 0 (.int .i64 (b + 1))
              have D5 := Lib.hid (show Dr (wc.setCell ⟨g2, 0, none⟩ (.int .i64 (b + 1))) g2 (b + 1) v' from Blk.set AS4.out.dr 0 _)
              have S5 := Lib.hid (AS4.out.sd.far (Touch.of_grown GG) AS4.out.low AS4.out.ne)
              have HNE := Lib.hid (show g2 ∉ [g] by simpa using AS4.out.ne.symm)
              have LOW := Lib.hid AS4.out.low
              clear GG q0 f0 AS4
              generalize wc.setCell ⟨g2, 0, none⟩ (.int .i64 (b + 1)) = w5 at *
-- REGION curfew/curfewlaw19.StableAll 13 sall13 14
              refine Hs.begin ([g]) ?_
              refine Hs.take (v := .pointer (some ⟨g, 0, none⟩)) 0 58 rfl ?_ (fun _ _ => rfl)
              refine Hs.take (v := .pointer (some ⟨g2, 0, none⟩)) 2 60 rfl ?_ (fun _ _ => rfl)
              refine Hs.take (v := .pointer (some ⟨g2, 0, none⟩)) 3 61 rfl ?_ (fun w' hw' => by go_simp; first | done | rfl | omega | exact wrap_in (by omega) (by omega) | exact Int.tmod_eq_emod_of_nonneg (by omega) | exact Int.tdiv_eq_ediv_of_nonneg (by omega) | (simp; omega))
              refine Hs.take (v := .pointer (some ⟨g2, 0, none⟩)) 4 62 rfl ?_ (fun w' hw' => by go_simp; first | done | rfl | omega | exact wrap_in (by omega) (by omega) | exact Int.tmod_eq_emod_of_nonneg (by omega) | exact Int.tdiv_eq_ediv_of_nonneg (by omega) | (simp; omega))
              refine Hs.take (v := .int .i64 (b + 1)) 5 63 rfl ?_ (fun w' hw' => by have cc := (Blk.touch (show Blk w5.drew _ _ _ from D5.out) hw' HNE.out).cell (i := 0) rfl; go_simp)
              refine Hs.call (f := 12) (args := #[.pointer (some ⟨g, 0, none⟩)]) 1 59 rfl ?_ (run_callf Tryd.func12 (by kernel_rfl) (by kernel_rfl) (by simp only [List.map_toArray, List.map_cons, List.map_nil]; rfl))
              refine (S5.out.drew.start (by omega)).mono ?_
              rintro e w7 ⟨rfl, s7, t7⟩
              have AS7 := Lib.hid (show Sa w w7 g g2 (b + 1) v' from ⟨s7, Blk.touch (show Blk w5.drew _ _ _ from D5.out) t7 HNE.out, LOW.out⟩)
              refine Hs.back t7 ?_
              clear s7 t7
              refine Hs.take (v := .bool false) 6 64 rfl ?_ (fun w' hw' => by go_simp; first | done | rfl | omega | exact wrap_in (by omega) (by omega) | exact Int.tmod_eq_emod_of_nonneg (by omega) | exact Int.tdiv_eq_ediv_of_nonneg (by omega) | (simp; omega))
              refine Hs.done ?_
-- END
              go_wp2_with fail
              go_meet
              case rel => exact ⟨b + 1, by omega, AS7⟩
          case rest =>
            clear AS4 hbi HOV
            obtain ⟨b, hbi, AS8⟩ := hcut
            generalize v' = v at *
            go_wp2_with fail
            refine (AS8.out.sd.bytes HT.out).mono ?_
            rintro e w9 ⟨A9, c9, rfl, ho9, b9⟩
            have R9 := Lib.hid (Rd.of_own ho9)
            have AS9 := Lib.hid (AS8.out.past b9)
            clear ho9 b9 AS8
            go_upto_region 16 with fail
-- REGION curfew/curfewlaw19.StableAll 16 sall16 12
            refine Hb.begin ?_
            refine Hb.take (v := .pointer (some ⟨g, 0, none⟩)) 0 67 rfl ?_ (fun _ _ => rfl)
            refine Hb.take (v := .pointer (some ⟨g2, 0, none⟩)) 2 69 rfl ?_ (fun _ _ => rfl)
            refine Hb.take (v := .pointer (some ⟨g2, 0, none⟩)) 3 70 rfl ?_ (fun w' hw' => by go_simp; first | done | rfl | omega | exact wrap_in (by omega) (by omega) | exact Int.tmod_eq_emod_of_nonneg (by omega) | exact Int.tdiv_eq_ediv_of_nonneg (by omega) | (simp; omega))
            refine Hb.take (v := .pointer (some ⟨g2, 0, none⟩)) 4 71 rfl ?_ (fun w' hw' => by go_simp; first | done | rfl | omega | exact wrap_in (by omega) (by omega) | exact Int.tmod_eq_emod_of_nonneg (by omega) | exact Int.tdiv_eq_ediv_of_nonneg (by omega) | (simp; omega))
            refine Hb.take (v := .int .i64 b) 5 72 rfl ?_ (fun w' hw' => by have cc := (hw'.cell (p := ⟨g2, 0, none⟩) AS9.out.drew.dr.lt).trans (Blk.cell AS9.out.drew.dr (i := 0) rfl); go_simp)
            refine Hb.call (f := 14) (args := #[.pointer (some ⟨g, 0, none⟩)]) 1 68 rfl ?_ (run_callf Tryd.func14 (by kernel_rfl) (by kernel_rfl) (by simp only [List.map_toArray, List.map_cons, List.map_nil]; rfl))
            refine (boot_c _ g b v AS9.out.drew.sd.ds).mono ?_
            rintro e w' ⟨rfl, rfl⟩
            refine Hb.back (Below.refl _ _) (Nat.le_refl _) ?_
            refine Hb.take (v := .bool false) 6 73 rfl ?_ (fun w' hw' => by go_simp; first | done | rfl | omega | exact wrap_in (by omega) (by omega) | exact Int.tmod_eq_emod_of_nonneg (by omega) | exact Int.tdiv_eq_ediv_of_nonneg (by omega) | (simp; omega))
            refine Hb.take (v := .bool false) 7 74 rfl ?_ (fun _ _ => rfl)
            refine Hb.take (v := .pointer (some ⟨g, 0, none⟩)) 8 75 rfl ?_ (fun _ _ => rfl)
            refine Hb.take (v := .pointer (some ⟨g2, 0, none⟩)) 10 77 rfl ?_ (fun _ _ => rfl)
            refine Hb.take (v := .pointer (some ⟨g2, 0, none⟩)) 11 78 rfl ?_ (fun w' hw' => by go_simp; first | done | rfl | omega | exact wrap_in (by omega) (by omega) | exact Int.tmod_eq_emod_of_nonneg (by omega) | exact Int.tdiv_eq_ediv_of_nonneg (by omega) | (simp; omega))
            refine Hb.take (v := .pointer (some ⟨g2, 1, none⟩)) 12 79 rfl ?_ (fun w' hw' => by go_simp; first | done | rfl | omega | exact wrap_in (by omega) (by omega) | exact Int.tmod_eq_emod_of_nonneg (by omega) | exact Int.tdiv_eq_ediv_of_nonneg (by omega) | (simp; omega))
            refine Hb.take (v := .int .i64 v) 13 80 rfl ?_ (fun w' hw' => by have cc := (hw'.cell (p := ⟨g2, 1, none⟩) AS9.out.drew.dr.lt).trans (Blk.cell AS9.out.drew.dr (i := 1) rfl); go_simp)
            refine Hb.call (f := 15) (args := #[.pointer (some ⟨g, 0, none⟩)]) 9 76 rfl ?_ (run_callf Tryd.func15 (by kernel_rfl) (by kernel_rfl) (by simp only [List.map_toArray, List.map_cons, List.map_nil]; rfl))
            refine (view_c _ g b v AS9.out.drew.sd.ds).mono ?_
            rintro e w' ⟨rfl, rfl⟩
            refine Hb.back (Below.refl _ _) (Nat.le_refl _) ?_
            refine Hb.take (v := .bool false) 14 81 rfl ?_ (fun w' hw' => by go_simp; first | done | rfl | omega | exact wrap_in (by omega) (by omega) | exact Int.tmod_eq_emod_of_nonneg (by omega) | exact Int.tdiv_eq_ediv_of_nonneg (by omega) | (simp; omega))
            refine Hb.take (v := .bool false) 15 82 rfl ?_ (fun _ _ => rfl)
            refine Hb.take (v := .bool false) 16 83 rfl ?_ (fun _ _ => rfl)
            refine Hb.take (v := .slice A9 (enc b v).length c9) 17 84 rfl ?_ (fun _ _ => rfl)
            refine Hb.take (v := .string (strOfNums (enc b v))) 18 85 rfl ?_ (fun w' hw' => by exact run_toStrOp 5 rfl (R9.out.drew.below hw') Tryd.underlying33 Tryd.underlying5 Tryd.underlying9)
            refine Hb.take (v := .pointer (some ⟨g2, 0, none⟩)) 19 86 rfl ?_ (fun _ _ => rfl)
            refine Hb.call (f := 16) (args := #[.pointer (some ⟨g2, 0, none⟩)]) 20 87 rfl ?_ (run_callf Tryd.func16 (by kernel_rfl) (by kernel_rfl) (by simp only [List.map_toArray, List.map_cons, List.map_nil]; rfl))
            refine (rBytes_c _ g2 b v AS9.out.drew.dr AS9.out.sd.ob.fit AS9.out.sd.ov.fit).mono ?_
            rintro e w11 ⟨A11, c11, rfl, ho11, b11⟩
            have R11 := Lib.hid (Rd.of_own ho11)
            have AS11 := Lib.hid (AS9.out.drew.past b11)
            have R9' := Lib.hid ((R9.out.drew.past b11).tight)
            clear ho11
            refine Hb.back b11 b11.size ?_
            refine Hb.take (v := .string (strOfNums (enc b v))) 21 88 rfl ?_ (fun w' hw' => by exact run_toStrOp 5 rfl (R11.out.below hw') Tryd.underlying33 Tryd.underlying5 Tryd.underlying9)
            refine Hb.take (v := .bool false) 22 89 rfl ?_ (fun w' hw' => by exact run_strNe rfl rfl (by simp))
            refine Hb.take (v := .bool false) 23 90 rfl ?_ (fun _ _ => rfl)
            refine Hb.done ?_
-- END
            have HL := Lib.hid (enc_len AS11.out.sd.ob.fit AS11.out.sd.ov.fit)
            have HD := Lib.hid (dec_yes AS11.out.sd.ob AS11.out.sd.ov)
            clear R9 R11 AS9
            go_wp2_with fail
            refine (read_c w11 _ A9 c9 _ _ R9'.out (enc_byte b v) (HT.out.past AS11.out.sd.bel) (by have := HL.out; omega)).mono ?_
            rw [HD.out]
            rintro e w12 ⟨g3, rfl, hg3, d12, b12⟩
            have AS12 := Lib.hid (show Sa w w12 g3 g2 b v from ⟨⟨AS11.out.sd.bel.trans (b12.mono AS11.out.sd.bel.size), Nat.le_trans AS11.out.sd.bel.size hg3, d12, AS11.out.sd.ob, AS11.out.sd.ov⟩, AS11.out.dr.past b12, AS11.out.low⟩)
            clear hg3 d12 b12 AS11 R9' HD HL
            go_upto_region 19 with fail
-- REGION curfew/curfewlaw19.StableAll 19 sall19 12
            refine Hb.begin ?_
            refine Hb.take (v := .int .i64 0) 0 96 rfl ?_ (fun _ _ => rfl)
            refine Hb.take (v := .bool false) 1 97 rfl ?_ (fun w' hw' => by go_simp; first | done | rfl | omega | exact wrap_in (by omega) (by omega) | exact Int.tmod_eq_emod_of_nonneg (by omega) | exact Int.tdiv_eq_ediv_of_nonneg (by omega) | (simp; omega))
            refine Hb.take (v := .bool false) 2 98 rfl ?_ (fun _ _ => rfl)
            refine Hb.take (v := .pointer (some ⟨g3, 0, none⟩)) 3 99 rfl ?_ (fun _ _ => rfl)
            refine Hb.take (v := .pointer (some ⟨g2, 0, none⟩)) 5 101 rfl ?_ (fun _ _ => rfl)
            refine Hb.take (v := .pointer (some ⟨g2, 0, none⟩)) 6 102 rfl ?_ (fun w' hw' => by go_simp; first | done | rfl | omega | exact wrap_in (by omega) (by omega) | exact Int.tmod_eq_emod_of_nonneg (by omega) | exact Int.tdiv_eq_ediv_of_nonneg (by omega) | (simp; omega))
            refine Hb.take (v := .pointer (some ⟨g2, 0, none⟩)) 7 103 rfl ?_ (fun w' hw' => by go_simp; first | done | rfl | omega | exact wrap_in (by omega) (by omega) | exact Int.tmod_eq_emod_of_nonneg (by omega) | exact Int.tdiv_eq_ediv_of_nonneg (by omega) | (simp; omega))
            refine Hb.take (v := .int .i64 b) 8 104 rfl ?_ (fun w' hw' => by have cc := (hw'.cell (p := ⟨g2, 0, none⟩) AS12.out.drew.dr.lt).trans (Blk.cell AS12.out.drew.dr (i := 0) rfl); go_simp)
            refine Hb.call (f := 14) (args := #[.pointer (some ⟨g3, 0, none⟩)]) 4 100 rfl ?_ (run_callf Tryd.func14 (by kernel_rfl) (by kernel_rfl) (by simp only [List.map_toArray, List.map_cons, List.map_nil]; rfl))
            refine (boot_c _ g3 b v AS12.out.drew.sd.ds).mono ?_
            rintro e w' ⟨rfl, rfl⟩
            refine Hb.back (Below.refl _ _) (Nat.le_refl _) ?_
            refine Hb.take (v := .bool false) 9 105 rfl ?_ (fun w' hw' => by go_simp; first | done | rfl | omega | exact wrap_in (by omega) (by omega) | exact Int.tmod_eq_emod_of_nonneg (by omega) | exact Int.tdiv_eq_ediv_of_nonneg (by omega) | (simp; omega))
            refine Hb.take (v := .bool false) 10 106 rfl ?_ (fun _ _ => rfl)
            refine Hb.take (v := .bool false) 11 107 rfl ?_ (fun _ _ => rfl)
            refine Hb.take (v := .pointer (some ⟨g3, 0, none⟩)) 12 108 rfl ?_ (fun _ _ => rfl)
            refine Hb.take (v := .pointer (some ⟨g2, 0, none⟩)) 14 110 rfl ?_ (fun _ _ => rfl)
            refine Hb.take (v := .pointer (some ⟨g2, 0, none⟩)) 15 111 rfl ?_ (fun w' hw' => by go_simp; first | done | rfl | omega | exact wrap_in (by omega) (by omega) | exact Int.tmod_eq_emod_of_nonneg (by omega) | exact Int.tdiv_eq_ediv_of_nonneg (by omega) | (simp; omega))
            refine Hb.take (v := .pointer (some ⟨g2, 1, none⟩)) 16 112 rfl ?_ (fun w' hw' => by go_simp; first | done | rfl | omega | exact wrap_in (by omega) (by omega) | exact Int.tmod_eq_emod_of_nonneg (by omega) | exact Int.tdiv_eq_ediv_of_nonneg (by omega) | (simp; omega))
            refine Hb.take (v := .int .i64 v) 17 113 rfl ?_ (fun w' hw' => by have cc := (hw'.cell (p := ⟨g2, 1, none⟩) AS12.out.drew.dr.lt).trans (Blk.cell AS12.out.drew.dr (i := 1) rfl); go_simp)
            refine Hb.call (f := 15) (args := #[.pointer (some ⟨g3, 0, none⟩)]) 13 109 rfl ?_ (run_callf Tryd.func15 (by kernel_rfl) (by kernel_rfl) (by simp only [List.map_toArray, List.map_cons, List.map_nil]; rfl))
            refine (view_c _ g3 b v AS12.out.drew.sd.ds).mono ?_
            rintro e w' ⟨rfl, rfl⟩
            refine Hb.back (Below.refl _ _) (Nat.le_refl _) ?_
            refine Hb.take (v := .bool false) 18 114 rfl ?_ (fun w' hw' => by go_simp; first | done | rfl | omega | exact wrap_in (by omega) (by omega) | exact Int.tmod_eq_emod_of_nonneg (by omega) | exact Int.tdiv_eq_ediv_of_nonneg (by omega) | (simp; omega))
            refine Hb.take (v := .bool false) 19 115 rfl ?_ (fun _ _ => rfl)
            refine Hb.done ?_
-- END
            have AS13 := Lib.hid AS12.out.drew
            clear AS12
            go_wp2_with fail
            go_roundg (n - (i + 1))
            case measure => omega
            case rel => exact ⟨i + 1, g3, b, v, rfl, by omega, by omega, rfl, by go_num, by omega, AS13⟩
      · go_wp2_with fail
        go_ret
        exact ⟨rfl, AS.out.sd.bel⟩
    · go_wp2_with fail
      go_ret
      exact ⟨rfl, AS.out.sd.bel⟩
end Go.Proofs.YtkdcafigcodbgaaDoor
