/- Contract of begun (layer 17). -/
import Derived.Test.YtfijjdahoimoeaaDoorSeg8
import Derived.Test.YtfijjdahoimoeaaDoorSeg12
import Derived.Test.YtfijjdahoimoeaaDoorSeg1
import Derived.Lib.LaidTab
import Derived.LaidMore
namespace Go.Proofs.YtfijjdahoimoeaaDoor
open Go.RowKit

def gOne : Msg := ⟨13, 1, 2, 3, 0, 0, 0, 0, [], 0, 5, 100, false⟩
def gTwo : Msg := ⟨13, 1, 2, 2, 0, 0, 0, 0, [], 0, 5, 100, false⟩
def gL1 : List Oth := PGram.hleft 2 PGram.zeroL (some gOne)
def gL2 : List Oth := PGram.sentL gL1 1 5 10

set_option maxHeartbeats 4000000 in
set_option maxRecDepth 100000 in
theorem begunG_c (w : World) (ht : Tab w) : Calls Tryd.prog 8 #[] w fun x w' => x = .returned (.bool true) ∧ Below w.heap.size w w' := by
  have HT := Lib.hid ht
  have H1 := Lib.hid (show said gOne = some gOne from if_pos (show PMsg.may gOne = true by decide))
  have H2 := Lib.hid (show said gTwo = some gTwo from if_pos (show PMsg.may gTwo = true by decide))
  have H3 := Lib.hid (show PGram.herr 2 PGram.zeroL (some gOne) = 0 by decide)
  have H4 := Lib.hid (show PGram.herr 2 gL1 (some gTwo) = 7 by decide)
  have H5 := Lib.hid (show PGram.took gL2 gOne 30 0 = (20, true) by decide)
  have H6 := Lib.hid (show PGram.bootOf gL2 1 = 3 by decide)
  have H7 := Lib.hid (show PGram.bootOf gL2 2 = 0 by decide)
  have HL1 := Lib.hid (PMsg.enc_len gOne)
  have HL2 := Lib.hid (PMsg.enc_len gTwo)
  have HB1 := Lib.hid (PMsg.enc_byte gOne)
  have HB2 := Lib.hid (PMsg.enc_byte gTwo)
  have HD1 := Lib.hid ((dec_said gOne).trans H1.out)
  have HD2 := Lib.hid ((dec_said gTwo).trans H2.out)
  clear ht H1 H2
  go_enter Tryd.func8, Tryd.ntmps8
  go_wp2_with fail
  refine (gNew_gs (Below.refl w.heap.size w) 2 (by decide)).mono ?_
  rintro e w1 ⟨rfl, g1, -⟩
  have G1 := Lib.hid g1
  clear g1
  generalize w.heap.size = g at *
  go_wp2_with fail
  refine (gNew_no w1 0 (by decide)).mono ?_
  rintro e w2 ⟨rfl, rfl⟩
  go_wp2_with fail
  refine (gNew_no w1 8 (by decide)).mono ?_
  rintro e w2 ⟨rfl, rfl⟩
  have b2 := (Below.refl w1.heap.size w1).alloc (Nat.le_refl _) (.cells #[.int .i64 13, .int .i64 1, .int .i64 2, .int .i64 3, .int .i64 0, .int .i64 0, .int .i64 0, .int .i64 0, .slice none 0 0, .int .i64 0, .int .i64 5, .int .i64 100, .bool false] 30)
  have G2 := Lib.hid (G1.out.past b2)
  have K2 := Lib.hid (show Blk (w1.alloc (.cells #[.int .i64 13, .int .i64 1, .int .i64 2, .int .i64 3, .int .i64 0, .int .i64 0, .int .i64 0, .int .i64 0, .slice none 0 0, .int .i64 0, .int .i64 5, .int .i64 100, .bool false] 30)) w1.heap.size 30 (mcs gOne none 0) from Blk.new w1 #[.int .i64 13, .int .i64 1, .int .i64 2, .int .i64 3, .int .i64 0, .int .i64 0, .int .i64 0, .int .i64 0, .slice none 0 0, .int .i64 0, .int .i64 5, .int .i64 100, .bool false] 30)
  clear b2 G1
  go_wp2_with fail
  generalize w1.alloc (.cells #[.int .i64 13, .int .i64 1, .int .i64 2, .int .i64 3, .int .i64 0, .int .i64 0, .int .i64 0, .int .i64 0, .slice none 0 0, .int .i64 0, .int .i64 5, .int .i64 100, .bool false] 30) = w2 at *
  generalize w1.heap.size = gm at *
  refine (show Calls _ _ #[.agg #[.int .i64 13, .int .i64 1, .int .i64 2, .int .i64 3, .int .i64 0, .int .i64 0, .int .i64 0, .int .i64 0, .slice none 0 0, .int .i64 0, .int .i64 5, .int .i64 100, .bool false]] w2 _ from rBytes_c w2 gOne none 0 (Rd.nil _ _ _)).mono ?_
  generalize PMsg.enc gOne = E1 at *
  rintro x w3 ⟨A3, c3, rfl, o3, b3⟩
  have G3 := Lib.hid (G2.out.past b3)
  have K3 := Lib.hid (K2.out.past b3)
  have R3 := Lib.hid (Rd.of_own o3)
  clear o3 b3 G2 K2
  go_wp2_with fail
  refine (show Calls Tryd.prog 11 #[.pointer (some ⟨g, 0, none⟩), .slice A3 E1.length c3] w3 (fun x w' => ∃ (A' : Option Addr) (c' : Nat), x = .returned (.tuple #[.agg #[.int .i64 13, .int .i64 1, .int .i64 2, .int .i64 3, .int .i64 0, .int .i64 0, .int .i64 0, .int .i64 0, .slice A' 0 c', .int .i64 0, .int .i64 5, .int .i64 100, .bool false], .int .i64 0]) ∧ Gm w' g 2 gL1 ∧ Touch [g] w3 w') from (hear_ok G3.out.gm R3.out HB1.out (G3.out.tab HT.out) (by have := HL1.out; omega) HD1.out rfl H3.out).mono fun _ _ ⟨A', c', h1, _, h2, h3⟩ => ⟨A', c', h1, h2, h3⟩).mono ?_
  rintro x w4 ⟨A4, c4, rfl, g4, t4⟩
  have b5 := (Below.refl w4.heap.size w4).alloc (Nat.le_refl _) (.cells #[.int .i64 13, .int .i64 1, .int .i64 2, .int .i64 3, .int .i64 0, .int .i64 0, .int .i64 0, .int .i64 0, .slice A4 0 c4, .int .i64 0, .int .i64 5, .int .i64 100, .bool false] 30)
  have G5 := Lib.hid ((G3.out.go g4 t4).past b5)
  have K5 := Lib.hid (Blk.past (G3.out.blk K3.out (by decide) t4) b5)
  have X5 := Lib.hid (show Blk (w4.alloc (.cells #[.int .i64 13, .int .i64 1, .int .i64 2, .int .i64 3, .int .i64 0, .int .i64 0, .int .i64 0, .int .i64 0, .slice A4 0 c4, .int .i64 0, .int .i64 5, .int .i64 100, .bool false] 30)) w4.heap.size 30 (mcs gOne A4 c4) from Blk.new w4 #[.int .i64 13, .int .i64 1, .int .i64 2, .int .i64 3, .int .i64 0, .int .i64 0, .int .i64 0, .int .i64 0, .slice A4 0 c4, .int .i64 0, .int .i64 5, .int .i64 100, .bool false] 30)
  clear g4 t4 b5 G3 K3 R3
  go_wp2_with ((with_reducible show wpList _ _ _ ((⟨some 29, Op.load _ _, _, _, _, _⟩ : Oper) :: _) _ _); go_must (refine wpList_load_row rfl 30 (.tmp 2) rfl gm rfl 30 #[.int .i64 13, .int .i64 1, .int .i64 2, .int .i64 3, .int .i64 0, .int .i64 0, .int .i64 0, .int .i64 0, .slice none 0 0, .int .i64 0, .int .i64 5, .int .i64 100, .bool false] (0, 0) _ (show Blk _ gm 30 (mcs gOne none 0) from K5.out) Tryd.underlying30 rfl (by kernel_rfl) ?_))
  have b6 := (Below.refl (w4.alloc (.cells #[.int .i64 13, .int .i64 1, .int .i64 2, .int .i64 3, .int .i64 0, .int .i64 0, .int .i64 0, .int .i64 0, .slice A4 0 c4, .int .i64 0, .int .i64 5, .int .i64 100, .bool false] 30)).heap.size (w4.alloc (.cells #[.int .i64 13, .int .i64 1, .int .i64 2, .int .i64 3, .int .i64 0, .int .i64 0, .int .i64 0, .int .i64 0, .slice A4 0 c4, .int .i64 0, .int .i64 5, .int .i64 100, .bool false] 30))).alloc (Nat.le_refl _) (.cells #[.int .i64 13, .int .i64 1, .int .i64 2, .int .i64 2, .int .i64 0, .int .i64 0, .int .i64 0, .int .i64 0, .slice none 0 0, .int .i64 0, .int .i64 5, .int .i64 100, .bool false] 30)
  have G6 := Lib.hid (G5.out.past b6)
  have K6 := Lib.hid (K5.out.past b6)
  have X6 := Lib.hid (X5.out.past b6)
  clear b6 G5 K5 X5
  generalize (w4.alloc (.cells #[.int .i64 13, .int .i64 1, .int .i64 2, .int .i64 3, .int .i64 0, .int .i64 0, .int .i64 0, .int .i64 0, .slice A4 0 c4, .int .i64 0, .int .i64 5, .int .i64 100, .bool false] 30)).alloc (.cells #[.int .i64 13, .int .i64 1, .int .i64 2, .int .i64 2, .int .i64 0, .int .i64 0, .int .i64 0, .int .i64 0, .slice none 0 0, .int .i64 0, .int .i64 5, .int .i64 100, .bool false] 30) = w6 at *
  generalize w4.heap.size = gx at *
  refine (show Calls _ _ #[.agg #[.int .i64 13, .int .i64 1, .int .i64 2, .int .i64 2, .int .i64 0, .int .i64 0, .int .i64 0, .int .i64 0, .slice none 0 0, .int .i64 0, .int .i64 5, .int .i64 100, .bool false]] w6 _ from rBytes_c w6 gTwo none 0 (Rd.nil _ _ _)).mono ?_
  generalize PMsg.enc gTwo = E2 at *
  rintro x w7 ⟨A7, c7, rfl, o7, b7⟩
  have G7 := Lib.hid (G6.out.past b7)
  have K7 := Lib.hid (K6.out.past b7)
  have X7 := Lib.hid (X6.out.past b7)
  have R7 := Lib.hid (Rd.of_own o7)
  clear o7 b7 G6 K6 X6
  go_wp2_with fail
  refine (hear_no G7.out.gm R7.out HB2.out (G7.out.tab HT.out) (by have := HL2.out; omega) HD2.out H4.out (by decide)).mono ?_
  rintro x w8 ⟨A8, c8, rfl, g8, t8⟩
  have b9 := (Below.refl w8.heap.size w8).alloc (Nat.le_refl _) (.cells #[.int .i64 0, .int .i64 0, .int .i64 0, .int .i64 0, .int .i64 0, .int .i64 0, .int .i64 0, .int .i64 0, .slice A8 0 c8, .int .i64 0, .int .i64 0, .int .i64 0, .bool false] 30)
  have G9 := Lib.hid ((G7.out.go g8 t8).past b9)
  have K9 := Lib.hid (Blk.past (G7.out.blk K7.out (by decide) t8) b9)
  have X9 := Lib.hid (Blk.past (G7.out.blk X7.out (by decide) t8) b9)
  clear g8 t8 b9 G7 K7 X7 R7
  go_wp2_with fail
  generalize w8.alloc (.cells #[.int .i64 0, .int .i64 0, .int .i64 0, .int .i64 0, .int .i64 0, .int .i64 0, .int .i64 0, .int .i64 0, .slice A8 0 c8, .int .i64 0, .int .i64 0, .int .i64 0, .bool false] 30) = w9 at *
  refine (sent_c w9 g 2 gL1 G9.out.gm 1 5 10).mono ?_
  rintro e w10 ⟨rfl, g10, t10⟩
  have G10 := Lib.hid (G9.out.go (show Gm w10 g 2 gL2 from g10) t10)
  have K10 := Lib.hid (G9.out.blk K9.out (by decide) t10)
  have X10 := Lib.hid (G9.out.blk X9.out (by decide) t10)
  clear g10 t10 G9 K9 X9
  go_wp2_with ((with_reducible show wpList _ _ _ ((⟨some 42, Op.load _ _, _, _, _, _⟩ : Oper) :: _) _ _); go_must (refine wpList_load_row rfl 30 (.tmp 2) rfl gm rfl 30 #[.int .i64 13, .int .i64 1, .int .i64 2, .int .i64 3, .int .i64 0, .int .i64 0, .int .i64 0, .int .i64 0, .slice none 0 0, .int .i64 0, .int .i64 5, .int .i64 100, .bool false] (0, 0) _ (show Blk _ gm 30 (mcs gOne none 0) from K10.out) Tryd.underlying30 rfl (by kernel_rfl) ?_))
  have e1 := took_c w10 g 2 gL2 G10.out.gm gOne none 0 30 0
  rw [H5.out] at e1
  refine (show Calls _ _ #[_, .agg #[.int .i64 13, .int .i64 1, .int .i64 2, .int .i64 3, .int .i64 0, .int .i64 0, .int .i64 0, .int .i64 0, .slice none 0 0, .int .i64 0, .int .i64 5, .int .i64 100, .bool false], _, _] w10 _ from e1).mono ?_
  clear e1
  rintro x w11 ⟨rfl, b11⟩
  have G11 := Lib.hid (G10.out.past b11)
  have X11 := Lib.hid (X10.out.past b11)
  have k11 := X11.out.cell (i := 11) rfl
  clear b11 G10 K10 X10
  go_wp2_with fail
  refine (boot_c w11 g 2 gL2 G11.out.gm 1).mono ?_
  rw [H6.out]
  rintro x w12 ⟨rfl, rfl⟩
  go_wp2_with fail
  refine (boot_c w11 g 2 gL2 G11.out.gm 2).mono ?_
  rw [H7.out]
  rintro x w12 ⟨rfl, rfl⟩
  go_wp2_with fail
  go_ret
  exact ⟨rfl, G11.out.bel⟩
end Go.Proofs.YtfijjdahoimoeaaDoor

/- What the rows' condition on the listed variables gives: the table of crc lies as it is declared. -/
namespace Go.Proofs.YtfijjdahoimoeaaDoor
open Go.RowKit

/-- What the walks ask of the listed variables. -/
def LaidIs (w : World) : Prop := Tab w

theorem laidIs_of {W : World} (h : laidMetH Tryd.prog [("curfew/crc.halves", Rows.laid_curfew_crc_halves)] W) : LaidIs W := by
  rw [MakeChecks.laidMetH_plain _ _ _ (by kernel_rfl)] at h
  have hT : Lib.TabIs Tryd.prog W "curfew/crc.halves" .u32 (PCrc.tab.map fun n : Nat => (n : Int)) :=
    Lib.tabIs_of_head (g := 0) (t := 105) (e := 88) (n := 16) (rest := []) (by kernel_rfl) (by kernel_rfl) Tryd.underlying105 Tryd.underlying88 (by kernel_rfl) (by kernel_rfl) h
  intro j hj
  have := hT.cell (g := 0) (by kernel_rfl) j (by simpa [PCrc.tab] using hj)
  rw [this]
  simp [List.getD, List.getElem?_map]
  cases PCrc.tab[j]? <;> simp

end Go.Proofs.YtfijjdahoimoeaaDoor

