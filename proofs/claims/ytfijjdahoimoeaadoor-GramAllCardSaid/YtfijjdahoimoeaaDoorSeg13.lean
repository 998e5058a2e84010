/- Contract of begun (layer 17). -/
import Derived.Test.YtfijjdahoimoeaaDoorSeg8
import Derived.Test.YtfijjdahoimoeaaDoorSeg12
import Derived.Test.YtfijjdahoimoeaaDoorSeg1
import Derived.Lib.LaidTab
import Derived.LaidMore
import Derived.Test.YtfijjdahoimoeaaDoorRows
import Derived.Test.YtfijjdahoimoeaaDoorSeg2
import Derived.Laws.StructEq
import Derived.Test.YtfijjdahoimoeaaDoorSeg6
namespace Go.Proofs.YtfijjdahoimoeaaDoor
open Go.RowKit

def gOne : Msg := ⟨13, 1, 2, 3, 0, 0, 0, 0, [], 0, 5, 100, false⟩
def gTwo : Msg := ⟨13, 1, 2, 2, 0, 0, 0, 0, [], 0, 5, 100, false⟩
def gL1 : List Oth := PGram.hleft 2 PGram.zeroL (some gOne)
def gL2 : List Oth := PGram.sentL gL1 1 5 10

set_option maxHeartbeats 4000000 in
set_option maxRecDepth 100000 in
theorem begunG_c (w : World) (ht : Tab w) : Calls Tryd.prog 8 #[] w fun x w' => x = .returned (.bool true) ∧ Below w.heap.size w w' := by
  have HT := Lib.hid ht
  have H1 := Lib.hid (show said gOne = some gOne from if_pos (show PMsg.may gOne = true by decide))
  have H2 := Lib.hid (show said gTwo = some gTwo from if_pos (show PMsg.may gTwo = true by decide))
  have H3 := Lib.hid (show PGram.herr 2 PGram.zeroL (some gOne) = 0 by decide)
  have H4 := Lib.hid (show PGram.herr 2 gL1 (some gTwo) = 7 by decide)
  have H5 := Lib.hid (show PGram.took gL2 gOne 30 0 = (20, true) by decide)
  have H6 := Lib.hid (show PGram.bootOf gL2 1 = 3 by decide)
  have H7 := Lib.hid (show PGram.bootOf gL2 2 = 0 by decide)
  have HL1 := Lib.hid (PMsg.enc_len gOne)
  have HL2 := Lib.hid (PMsg.enc_len gTwo)
  have HB1 := Lib.hid (PMsg.enc_byte gOne)
  have HB2 := Lib.hid (PMsg.enc_byte gTwo)
  have HD1 := Lib.hid ((dec_said gOne).trans H1.out)
  have HD2 := Lib.hid ((dec_said gTwo).trans H2.out)
  clear ht H1 H2
  go_enter Tryd.func8, Tryd.ntmps8
  go_wp2_with fail
  refine (gNew_gs (Below.refl w.heap.size w) 2 (by decide)).mono ?_
  rintro e w1 ⟨rfl, g1, -⟩
  have G1 := Lib.hid g1
  clear g1
  generalize w.heap.size = g at *
  go_wp2_with fail
  refine (gNew_no w1 0 (by decide)).mono ?_
  rintro e w2 ⟨rfl, rfl⟩
  go_wp2_with fail
  refine (gNew_no w1 8 (by decide)).mono ?_
  rintro e w2 ⟨rfl, rfl⟩
  have b2 := (Below.refl w1.heap.size w1).alloc (Nat.le_refl _) (.cells #[.int .i64 13, .int .i64 1, .int .i64 2, .int .i64 3, .int .i64 0, .int .i64 0, .int .i64 0, .int .i64 0, .slice none 0 0, .int .i64 0, .int .i64 5, .int .i64 100, .bool false] 30)
  have G2 := Lib.hid (G1.out.past b2)
  have K2 := Lib.hid (show Blk (w1.alloc (.cells #[.int .i64 13, .int .i64 1, .int .i64 2, .int .i64 3, .int .i64 0, .int .i64 0, .int .i64 0, .int .i64 0, .slice none 0 0, .int .i64 0, .int .i64 5, .int .i64 100, .bool false] 30)) w1.heap.size 30 (mcs gOne none 0) from Blk.new w1 #[.int .i64 13, .int .i64 1, .int .i64 2, .int .i64 3, .int .i64 0, .int .i64 0, .int .i64 0, .int .i64 0, .slice none 0 0, .int .i64 0, .int .i64 5, .int .i64 100, .bool false] 30)
  clear b2 G1
  go_wp2_with fail
  generalize w1.alloc (.cells #[.int .i64 13, .int .i64 1, .int .i64 2, .int .i64 3, .int .i64 0, .int .i64 0, .int .i64 0, .int .i64 0, .slice none 0 0, .int .i64 0, .int .i64 5, .int .i64 100, .bool false] 30) = w2 at *
  generalize w1.heap.size = gm at *
  refine (show Calls _ _ #[.agg #[.int .i64 13, .int .i64 1, .int .i64 2, .int .i64 3, .int .i64 0, .int .i64 0, .int .i64 0, .int .i64 0, .slice none 0 0, .int .i64 0, .int .i64 5, .int .i64 100, .bool false]] w2 _ from rBytes_c w2 gOne none 0 (Rd.nil _ _ _)).mono ?_
  generalize PMsg.enc gOne = E1 at *
  rintro x w3 ⟨A3, c3, rfl, o3, b3⟩
  have G3 := Lib.hid (G2.out.past b3)
  have K3 := Lib.hid (K2.out.past b3)
  have R3 := Lib.hid (Rd.of_own o3)
  clear o3 b3 G2 K2
  go_wp2_with fail
  refine (show Calls Tryd.prog 11 #[.pointer (some ⟨g, 0, none⟩), .slice A3 E1.length c3] w3 (fun x w' => ∃ (A' : Option Addr) (c' : Nat), x = .returned (.tuple #[.agg #[.int .i64 13, .int .i64 1, .int .i64 2, .int .i64 3, .int .i64 0, .int .i64 0, .int .i64 0, .int .i64 0, .slice A' 0 c', .int .i64 0, .int .i64 5, .int .i64 100, .bool false], .int .i64 0]) ∧ Gm w' g 2 gL1 ∧ Touch [g] w3 w') from (hear_ok G3.out.gm R3.out HB1.out (G3.out.tab HT.out) (by have := HL1.out; omega) HD1.out rfl H3.out).mono fun _ _ ⟨A', c', h1, _, h2, h3⟩ => ⟨A', c', h1, h2, h3⟩).mono ?_
  rintro x w4 ⟨A4, c4, rfl, g4, t4⟩
  have b5 := (Below.refl w4.heap.size w4).alloc (Nat.le_refl _) (.cells #[.int .i64 13, .int .i64 1, .int .i64 2, .int .i64 3, .int .i64 0, .int .i64 0, .int .i64 0, .int .i64 0, .slice A4 0 c4, .int .i64 0, .int .i64 5, .int .i64 100, .bool false] 30)
  have G5 := Lib.hid ((G3.out.go g4 t4).past b5)
  have K5 := Lib.hid (Blk.past (G3.out.blk K3.out (by decide) t4) b5)
  have X5 := Lib.hid (show Blk (w4.alloc (.cells #[.int .i64 13, .int .i64 1, .int .i64 2, .int .i64 3, .int .i64 0, .int .i64 0, .int .i64 0, .int .i64 0, .slice A4 0 c4, .int .i64 0, .int .i64 5, .int .i64 100, .bool false] 30)) w4.heap.size 30 (mcs gOne A4 c4) from Blk.new w4 #[.int .i64 13, .int .i64 1, .int .i64 2, .int .i64 3, .int .i64 0, .int .i64 0, .int .i64 0, .int .i64 0, .slice A4 0 c4, .int .i64 0, .int .i64 5, .int .i64 100, .bool false] 30)
  clear g4 t4 b5 G3 K3 R3
  go_wp2_with ((with_reducible show wpList _ _ _ ((⟨some 29, Op.load _ _, _, _, _, _⟩ : Oper) :: _) _ _); go_must (refine wpList_load_row rfl 30 (.tmp 2) rfl gm rfl 30 #[.int .i64 13, .int .i64 1, .int .i64 2, .int .i64 3, .int .i64 0, .int .i64 0, .int .i64 0, .int .i64 0, .slice none 0 0, .int .i64 0, .int .i64 5, .int .i64 100, .bool false] (0, 0) _ (show Blk _ gm 30 (mcs gOne none 0) from K5.out) Tryd.underlying30 rfl (by kernel_rfl) ?_))
  have b6 := (Below.refl (w4.alloc (.cells #[.int .i64 13, .int .i64 1, .int .i64 2, .int .i64 3, .int .i64 0, .int .i64 0, .int .i64 0, .int .i64 0, .slice A4 0 c4, .int .i64 0, .int .i64 5, .int .i64 100, .bool false] 30)).heap.size (w4.alloc (.cells #[.int .i64 13, .int .i64 1, .int .i64 2, .int .i64 3, .int .i64 0, .int .i64 0, .int .i64 0, .int .i64 0, .slice A4 0 c4, .int .i64 0, .int .i64 5, .int .i64 100, .bool false] 30))).alloc (Nat.le_refl _) (.cells #[.int .i64 13, .int .i64 1, .int .i64 2, .int .i64 2, .int .i64 0, .int .i64 0, .int .i64 0, .int .i64 0, .slice none 0 0, .int .i64 0, .int .i64 5, .int .i64 100, .bool false] 30)
  have G6 := Lib.hid (G5.out.past b6)
  have K6 := Lib.hid (K5.out.past b6)
  have X6 := Lib.hid (X5.out.past b6)
  clear b6 G5 K5 X5
  generalize (w4.alloc (.cells #[.int .i64 13, .int .i64 1, .int .i64 2, .int .i64 3, .int .i64 0, .int .i64 0, .int .i64 0, .int .i64 0, .slice A4 0 c4, .int .i64 0, .int .i64 5, .int .i64 100, .bool false] 30)).alloc (.cells #[.int .i64 13, .int .i64 1, .int .i64 2, .int .i64 2, .int .i64 0, .int .i64 0, .int .i64 0, .int .i64 0, .slice none 0 0, .int .i64 0, .int .i64 5, .int .i64 100, .bool false] 30) = w6 at *
  generalize w4.heap.size = gx at *
  refine (show Calls _ _ #[.agg #[.int .i64 13, .int .i64 1, .int .i64 2, .int .i64 2, .int .i64 0, .int .i64 0, .int .i64 0, .int .i64 0, .slice none 0 0, .int .i64 0, .int .i64 5, .int .i64 100, .bool false]] w6 _ from rBytes_c w6 gTwo none 0 (Rd.nil _ _ _)).mono ?_
  generalize PMsg.enc gTwo = E2 at *
  rintro x w7 ⟨A7, c7, rfl, o7, b7⟩
  have G7 := Lib.hid (G6.out.past b7)
  have K7 := Lib.hid (K6.out.past b7)
  have X7 := Lib.hid (X6.out.past b7)
  have R7 := Lib.hid (Rd.of_own o7)
  clear o7 b7 G6 K6 X6
  go_wp2_with fail
  refine (hear_no G7.out.gm R7.out HB2.out (G7.out.tab HT.out) (by have := HL2.out; omega) HD2.out H4.out (by decide)).mono ?_
  rintro x w8 ⟨A8, c8, rfl, g8, t8⟩
  have b9 := (Below.refl w8.heap.size w8).alloc (Nat.le_refl _) (.cells #[.int .i64 0, .int .i64 0, .int .i64 0, .int .i64 0, .int .i64 0, .int .i64 0, .int .i64 0, .int .i64 0, .slice A8 0 c8, .int .i64 0, .int .i64 0, .int .i64 0, .bool false] 30)
  have G9 := Lib.hid ((G7.out.go g8 t8).past b9)
  have K9 := Lib.hid (Blk.past (G7.out.blk K7.out (by decide) t8) b9)
  have X9 := Lib.hid (Blk.past (G7.out.blk X7.out (by decide) t8) b9)
  clear g8 t8 b9 G7 K7 X7 R7
  go_wp2_with fail
  generalize w8.alloc (.cells #[.int .i64 0, .int .i64 0, .int .i64 0, .int .i64 0, .int .i64 0, .int .i64 0, .int .i64 0, .int .i64 0, .slice A8 0 c8, .int .i64 0, .int .i64 0, .int .i64 0, .bool false] 30) = w9 at *
  refine (sent_c w9 g 2 gL1 G9.out.gm 1 5 10).mono ?_
  rintro e w10 ⟨rfl, g10, t10⟩
  have G10 := Lib.hid (G9.out.go (show Gm w10 g 2 gL2 from g10) t10)
  have K10 := Lib.hid (G9.out.blk K9.out (by decide) t10)
  have X10 := Lib.hid (G9.out.blk X9.out (by decide) t10)
  clear g10 t10 G9 K9 X9
  go_wp2_with ((with_reducible show wpList _ _ _ ((⟨some 42, Op.load _ _, _, _, _, _⟩ : Oper) :: _) _ _); go_must (refine wpList_load_row rfl 30 (.tmp 2) rfl gm rfl 30 #[.int .i64 13, .int .i64 1, .int .i64 2, .int .i64 3, .int .i64 0, .int .i64 0, .int .i64 0, .int .i64 0, .slice none 0 0, .int .i64 0, .int .i64 5, .int .i64 100, .bool false] (0, 0) _ (show Blk _ gm 30 (mcs gOne none 0) from K10.out) Tryd.underlying30 rfl (by kernel_rfl) ?_))
  have e1 := took_c w10 g 2 gL2 G10.out.gm gOne none 0 30 0
  rw [H5.out] at e1
  refine (show Calls _ _ #[_, .agg #[.int .i64 13, .int .i64 1, .int .i64 2, .int .i64 3, .int .i64 0, .int .i64 0, .int .i64 0, .int .i64 0, .slice none 0 0, .int .i64 0, .int .i64 5, .int .i64 100, .bool false], _, _] w10 _ from e1).mono ?_
  clear e1
  rintro x w11 ⟨rfl, b11⟩
  have G11 := Lib.hid (G10.out.past b11)
  have X11 := Lib.hid (X10.out.past b11)
  have k11 := X11.out.cell (i := 11) rfl
  clear b11 G10 K10 X10
  go_wp2_with fail
  refine (boot_c w11 g 2 gL2 G11.out.gm 1).mono ?_
  rw [H6.out]
  rintro x w12 ⟨rfl, rfl⟩
  go_wp2_with fail
  refine (boot_c w11 g 2 gL2 G11.out.gm 2).mono ?_
  rw [H7.out]
  rintro x w12 ⟨rfl, rfl⟩
  go_wp2_with fail
  go_ret
  exact ⟨rfl, G11.out.bel⟩
end Go.Proofs.YtfijjdahoimoeaaDoor

/- What the rows' condition on the listed variables gives: the table of crc lies as it is declared. -/
namespace Go.Proofs.YtfijjdahoimoeaaDoor
open Go.RowKit

/-- What the walks ask of the listed variables. -/
def LaidIs (w : World) : Prop := Tab w

theorem laidIs_of {W : World} (h : laidMetH Tryd.prog [("curfew/crc.halves", Rows.laid_curfew_crc_halves)] W) : LaidIs W := by
  rw [MakeChecks.laidMetH_plain _ _ _ (by kernel_rfl)] at h
  have hT : Lib.TabIs Tryd.prog W "curfew/crc.halves" .u32 (PCrc.tab.map fun n : Nat => (n : Int)) :=
    Lib.tabIs_of_head (g := 0) (t := 105) (e := 88) (n := 16) (rest := []) (by kernel_rfl) (by kernel_rfl) Tryd.underlying105 Tryd.underlying88 (by kernel_rfl) (by kernel_rfl) h
  intro j hj
  have := hT.cell (g := 0) (by kernel_rfl) j (by simpa [PCrc.tab] using hj)
  rw [this]
  simp [List.getD, List.getElem?_map]
  cases PCrc.tab[j]? <;> simp

end Go.Proofs.YtfijjdahoimoeaaDoor

/- Contracts of the document's Same and Eq. -/
namespace Go.Proofs.YtfijjdahoimoeaaDoor
open Go.RowKit

set_option maxRecDepth 100000 in
theorem rSame_c (w : World) (a b : Ent) : Calls Tryd.prog 58 #[ev a, ev b] w fun x w' => x = .returned (.bool (PEnt.same a b)) ∧ Below w.heap.size w w' := by
  obtain ⟨fr0, boot0, seq0, ord0, lev0, stamp0, data0⟩ := a
  obtain ⟨fr1, boot1, seq1, ord1, lev1, stamp1, data1⟩ := b
  have HS := Lib.hid (show PEnt.same ⟨fr0, boot0, seq0, ord0, lev0, stamp0, data0⟩ ⟨fr1, boot1, seq1, ord1, lev1, stamp1, data1⟩ = (fr0 == fr1 && boot0 == boot1 && seq0 == seq1) from rfl)
  cases q0 : (fr0 == fr1)
  · show Calls _ _ #[.agg #[.int .i64 fr0, .int .i64 boot0, .int .i64 seq0, .int .i64 ord0, .int .i64 lev0, .int .i64 stamp0, .string data0], .agg #[.int .i64 fr1, .int .i64 boot1, .int .i64 seq1, .int .i64 ord1, .int .i64 lev1, .int .i64 stamp1, .string data1]] _ _
    go_enter Tryd.func58, Tryd.ntmps58
    go_wp2_with fail
    go_ret
    exact ⟨by rw [HS.out]; simp [q0], ((Below.refl _ _).alloc (Nat.le_refl _) _).alloc (by simp) _⟩
  cases q1 : (boot0 == boot1)
  · show Calls _ _ #[.agg #[.int .i64 fr0, .int .i64 boot0, .int .i64 seq0, .int .i64 ord0, .int .i64 lev0, .int .i64 stamp0, .string data0], .agg #[.int .i64 fr1, .int .i64 boot1, .int .i64 seq1, .int .i64 ord1, .int .i64 lev1, .int .i64 stamp1, .string data1]] _ _
    go_enter Tryd.func58, Tryd.ntmps58
    go_wp2_with fail
    go_ret
    exact ⟨by rw [HS.out]; simp [q0, q1], ((Below.refl _ _).alloc (Nat.le_refl _) _).alloc (by simp) _⟩
  cases q2 : (seq0 == seq1)
  · show Calls _ _ #[.agg #[.int .i64 fr0, .int .i64 boot0, .int .i64 seq0, .int .i64 ord0, .int .i64 lev0, .int .i64 stamp0, .string data0], .agg #[.int .i64 fr1, .int .i64 boot1, .int .i64 seq1, .int .i64 ord1, .int .i64 lev1, .int .i64 stamp1, .string data1]] _ _
    go_enter Tryd.func58, Tryd.ntmps58
    go_wp2_with fail
    go_ret
    exact ⟨by rw [HS.out]; simp [q0, q1, q2], ((Below.refl _ _).alloc (Nat.le_refl _) _).alloc (by simp) _⟩
  show Calls _ _ #[.agg #[.int .i64 fr0, .int .i64 boot0, .int .i64 seq0, .int .i64 ord0, .int .i64 lev0, .int .i64 stamp0, .string data0], .agg #[.int .i64 fr1, .int .i64 boot1, .int .i64 seq1, .int .i64 ord1, .int .i64 lev1, .int .i64 stamp1, .string data1]] _ _
  go_enter Tryd.func58, Tryd.ntmps58
  go_wp2_with fail
  go_ret
  exact ⟨by rw [HS.out]; simp [q0, q1, q2], ((Below.refl _ _).alloc (Nat.le_refl _) _).alloc (by simp) _⟩

set_option maxRecDepth 100000 in
theorem rEq_c (w : World) (a b : Ent) : Calls Tryd.prog 43 #[ev a, ev b] w fun x w' => x = .returned (.bool (PEnt.eqE a b)) ∧ Below w.heap.size w w' := by
  have KS := Lib.hid (fun w => rSame_c w a b)
  obtain ⟨fr0, boot0, seq0, ord0, lev0, stamp0, data0⟩ := a
  obtain ⟨fr1, boot1, seq1, ord1, lev1, stamp1, data1⟩ := b
  have HS := Lib.hid (show PEnt.eqE ⟨fr0, boot0, seq0, ord0, lev0, stamp0, data0⟩ ⟨fr1, boot1, seq1, ord1, lev1, stamp1, data1⟩ = (fr0 == fr1 && boot0 == boot1 && seq0 == seq1 && ord0 == ord1 && lev0 == lev1 && stamp0 == stamp1 && data0.toList == data1.toList) from rfl)
  have HP := Lib.hid (show PEnt.same ⟨fr0, boot0, seq0, ord0, lev0, stamp0, data0⟩ ⟨fr1, boot1, seq1, ord1, lev1, stamp1, data1⟩ = (fr0 == fr1 && boot0 == boot1 && seq0 == seq1) from rfl)
  cases q0 : (fr0 == fr1 && boot0 == boot1 && seq0 == seq1)
  · rw [q0] at HS HP
    show Calls _ _ #[.agg #[.int .i64 fr0, .int .i64 boot0, .int .i64 seq0, .int .i64 ord0, .int .i64 lev0, .int .i64 stamp0, .string data0], .agg #[.int .i64 fr1, .int .i64 boot1, .int .i64 seq1, .int .i64 ord1, .int .i64 lev1, .int .i64 stamp1, .string data1]] _ _
    go_enter Tryd.func43, Tryd.ntmps43
    go_wp2_with fail
    have b0 := ((Below.refl w.heap.size w).alloc (Nat.le_refl _) (.cells #[.int .i64 fr0, .int .i64 boot0, .int .i64 seq0, .int .i64 ord0, .int .i64 lev0, .int .i64 stamp0, .string data0] 70)).alloc (by simp) (.cells #[.int .i64 fr1, .int .i64 boot1, .int .i64 seq1, .int .i64 ord1, .int .i64 lev1, .int .i64 stamp1, .string data1] 70)
    refine (KS.out _).mono ?_
    rw [HP.out]
    rintro e w1 ⟨rfl, b1⟩
    have k0 := (Blk.newEnt w 70 ⟨fr0, boot0, seq0, ord0, lev0, stamp0, data0⟩).alloc (.cells #[.int .i64 fr1, .int .i64 boot1, .int .i64 seq1, .int .i64 ord1, .int .i64 lev1, .int .i64 stamp1, .string data1] 70)
    have k1 := Blk.newEnt (w.alloc (.cells #[.int .i64 fr0, .int .i64 boot0, .int .i64 seq0, .int .i64 ord0, .int .i64 lev0, .int .i64 stamp0, .string data0] 70)) 70 ⟨fr1, boot1, seq1, ord1, lev1, stamp1, data1⟩
    rw [show (w.alloc (.cells #[.int .i64 fr0, .int .i64 boot0, .int .i64 seq0, .int .i64 ord0, .int .i64 lev0, .int .i64 stamp0, .string data0] 70)).heap.size = w.heap.size + 1 by simp] at k1
    obtain ⟨-, -, -, c03, c04, c05, c06⟩ := (k0.past b1).ent
    obtain ⟨-, -, -, c13, c14, c15, c16⟩ := (k1.past b1).ent
    have b2 := b0.trans (b1.mono b0.size)
    clear k0 k1 b0 b1
    go_wp2_with fail
    go_ret
    exact ⟨by rw [HS.out]; simp [], b2⟩
  rw [q0] at HS HP
  cases q1 : (ord0 == ord1)
  · show Calls _ _ #[.agg #[.int .i64 fr0, .int .i64 boot0, .int .i64 seq0, .int .i64 ord0, .int .i64 lev0, .int .i64 stamp0, .string data0], .agg #[.int .i64 fr1, .int .i64 boot1, .int .i64 seq1, .int .i64 ord1, .int .i64 lev1, .int .i64 stamp1, .string data1]] _ _
    go_enter Tryd.func43, Tryd.ntmps43
    go_wp2_with fail
    have b0 := ((Below.refl w.heap.size w).alloc (Nat.le_refl _) (.cells #[.int .i64 fr0, .int .i64 boot0, .int .i64 seq0, .int .i64 ord0, .int .i64 lev0, .int .i64 stamp0, .string data0] 70)).alloc (by simp) (.cells #[.int .i64 fr1, .int .i64 boot1, .int .i64 seq1, .int .i64 ord1, .int .i64 lev1, .int .i64 stamp1, .string data1] 70)
    refine (KS.out _).mono ?_
    rw [HP.out]
    rintro e w1 ⟨rfl, b1⟩
    have k0 := (Blk.newEnt w 70 ⟨fr0, boot0, seq0, ord0, lev0, stamp0, data0⟩).alloc (.cells #[.int .i64 fr1, .int .i64 boot1, .int .i64 seq1, .int .i64 ord1, .int .i64 lev1, .int .i64 stamp1, .string data1] 70)
    have k1 := Blk.newEnt (w.alloc (.cells #[.int .i64 fr0, .int .i64 boot0, .int .i64 seq0, .int .i64 ord0, .int .i64 lev0, .int .i64 stamp0, .string data0] 70)) 70 ⟨fr1, boot1, seq1, ord1, lev1, stamp1, data1⟩
    rw [show (w.alloc (.cells #[.int .i64 fr0, .int .i64 boot0, .int .i64 seq0, .int .i64 ord0, .int .i64 lev0, .int .i64 stamp0, .string data0] 70)).heap.size = w.heap.size + 1 by simp] at k1
    obtain ⟨-, -, -, c03, c04, c05, c06⟩ := (k0.past b1).ent
    obtain ⟨-, -, -, c13, c14, c15, c16⟩ := (k1.past b1).ent
    have b2 := b0.trans (b1.mono b0.size)
    clear k0 k1 b0 b1
    go_wp2_with fail
    go_ret
    exact ⟨by rw [HS.out]; simp [q1], b2⟩
  cases q2 : (lev0 == lev1)
  · show Calls _ _ #[.agg #[.int .i64 fr0, .int .i64 boot0, .int .i64 seq0, .int .i64 ord0, .int .i64 lev0, .int .i64 stamp0, .string data0], .agg #[.int .i64 fr1, .int .i64 boot1, .int .i64 seq1, .int .i64 ord1, .int .i64 lev1, .int .i64 stamp1, .string data1]] _ _
    go_enter Tryd.func43, Tryd.ntmps43
    go_wp2_with fail
    have b0 := ((Below.refl w.heap.size w).alloc (Nat.le_refl _) (.cells #[.int .i64 fr0, .int .i64 boot0, .int .i64 seq0, .int .i64 ord0, .int .i64 lev0, .int .i64 stamp0, .string data0] 70)).alloc (by simp) (.cells #[.int .i64 fr1, .int .i64 boot1, .int .i64 seq1, .int .i64 ord1, .int .i64 lev1, .int .i64 stamp1, .string data1] 70)
    refine (KS.out _).mono ?_
    rw [HP.out]
    rintro e w1 ⟨rfl, b1⟩
    have k0 := (Blk.newEnt w 70 ⟨fr0, boot0, seq0, ord0, lev0, stamp0, data0⟩).alloc (.cells #[.int .i64 fr1, .int .i64 boot1, .int .i64 seq1, .int .i64 ord1, .int .i64 lev1, .int .i64 stamp1, .string data1] 70)
    have k1 := Blk.newEnt (w.alloc (.cells #[.int .i64 fr0, .int .i64 boot0, .int .i64 seq0, .int .i64 ord0, .int .i64 lev0, .int .i64 stamp0, .string data0] 70)) 70 ⟨fr1, boot1, seq1, ord1, lev1, stamp1, data1⟩
    rw [show (w.alloc (.cells #[.int .i64 fr0, .int .i64 boot0, .int .i64 seq0, .int .i64 ord0, .int .i64 lev0, .int .i64 stamp0, .string data0] 70)).heap.size = w.heap.size + 1 by simp] at k1
    obtain ⟨-, -, -, c03, c04, c05, c06⟩ := (k0.past b1).ent
    obtain ⟨-, -, -, c13, c14, c15, c16⟩ := (k1.past b1).ent
    have b2 := b0.trans (b1.mono b0.size)
    clear k0 k1 b0 b1
    go_wp2_with fail
    go_ret
    exact ⟨by rw [HS.out]; simp [q1, q2], b2⟩
  cases q3 : (stamp0 == stamp1)
  · show Calls _ _ #[.agg #[.int .i64 fr0, .int .i64 boot0, .int .i64 seq0, .int .i64 ord0, .int .i64 lev0, .int .i64 stamp0, .string data0], .agg #[.int .i64 fr1, .int .i64 boot1, .int .i64 seq1, .int .i64 ord1, .int .i64 lev1, .int .i64 stamp1, .string data1]] _ _
    go_enter Tryd.func43, Tryd.ntmps43
    go_wp2_with fail
    have b0 := ((Below.refl w.heap.size w).alloc (Nat.le_refl _) (.cells #[.int .i64 fr0, .int .i64 boot0, .int .i64 seq0, .int .i64 ord0, .int .i64 lev0, .int .i64 stamp0, .string data0] 70)).alloc (by simp) (.cells #[.int .i64 fr1, .int .i64 boot1, .int .i64 seq1, .int .i64 ord1, .int .i64 lev1, .int .i64 stamp1, .string data1] 70)
    refine (KS.out _).mono ?_
    rw [HP.out]
    rintro e w1 ⟨rfl, b1⟩
    have k0 := (Blk.newEnt w 70 ⟨fr0, boot0, seq0, ord0, lev0, stamp0, data0⟩).alloc (.cells #[.int .i64 fr1, .int .i64 boot1, .int .i64 seq1, .int .i64 ord1, .int .i64 lev1, .int .i64 stamp1, .string data1] 70)
    have k1 := Blk.newEnt (w.alloc (.cells #[.int .i64 fr0, .int .i64 boot0, .int .i64 seq0, .int .i64 ord0, .int .i64 lev0, .int .i64 stamp0, .string data0] 70)) 70 ⟨fr1, boot1, seq1, ord1, lev1, stamp1, data1⟩
    rw [show (w.alloc (.cells #[.int .i64 fr0, .int .i64 boot0, .int .i64 seq0, .int .i64 ord0, .int .i64 lev0, .int .i64 stamp0, .string data0] 70)).heap.size = w.heap.size + 1 by simp] at k1
    obtain ⟨-, -, -, c03, c04, c05, c06⟩ := (k0.past b1).ent
    obtain ⟨-, -, -, c13, c14, c15, c16⟩ := (k1.past b1).ent
    have b2 := b0.trans (b1.mono b0.size)
    clear k0 k1 b0 b1
    go_wp2_with fail
    go_ret
    exact ⟨by rw [HS.out]; simp [q1, q2, q3], b2⟩
  cases q4 : (data0.toList == data1.toList)
  · show Calls _ _ #[.agg #[.int .i64 fr0, .int .i64 boot0, .int .i64 seq0, .int .i64 ord0, .int .i64 lev0, .int .i64 stamp0, .string data0], .agg #[.int .i64 fr1, .int .i64 boot1, .int .i64 seq1, .int .i64 ord1, .int .i64 lev1, .int .i64 stamp1, .string data1]] _ _
    go_enter Tryd.func43, Tryd.ntmps43
    go_wp2_with fail
    have b0 := ((Below.refl w.heap.size w).alloc (Nat.le_refl _) (.cells #[.int .i64 fr0, .int .i64 boot0, .int .i64 seq0, .int .i64 ord0, .int .i64 lev0, .int .i64 stamp0, .string data0] 70)).alloc (by simp) (.cells #[.int .i64 fr1, .int .i64 boot1, .int .i64 seq1, .int .i64 ord1, .int .i64 lev1, .int .i64 stamp1, .string data1] 70)
    refine (KS.out _).mono ?_
    rw [HP.out]
    rintro e w1 ⟨rfl, b1⟩
    have k0 := (Blk.newEnt w 70 ⟨fr0, boot0, seq0, ord0, lev0, stamp0, data0⟩).alloc (.cells #[.int .i64 fr1, .int .i64 boot1, .int .i64 seq1, .int .i64 ord1, .int .i64 lev1, .int .i64 stamp1, .string data1] 70)
    have k1 := Blk.newEnt (w.alloc (.cells #[.int .i64 fr0, .int .i64 boot0, .int .i64 seq0, .int .i64 ord0, .int .i64 lev0, .int .i64 stamp0, .string data0] 70)) 70 ⟨fr1, boot1, seq1, ord1, lev1, stamp1, data1⟩
    rw [show (w.alloc (.cells #[.int .i64 fr0, .int .i64 boot0, .int .i64 seq0, .int .i64 ord0, .int .i64 lev0, .int .i64 stamp0, .string data0] 70)).heap.size = w.heap.size + 1 by simp] at k1
    obtain ⟨-, -, -, c03, c04, c05, c06⟩ := (k0.past b1).ent
    obtain ⟨-, -, -, c13, c14, c15, c16⟩ := (k1.past b1).ent
    have b2 := b0.trans (b1.mono b0.size)
    clear k0 k1 b0 b1
    go_wp2_with fail
    go_ret
    exact ⟨by rw [HS.out]; simp [q1, q2, q3, q4], b2⟩
  show Calls _ _ #[.agg #[.int .i64 fr0, .int .i64 boot0, .int .i64 seq0, .int .i64 ord0, .int .i64 lev0, .int .i64 stamp0, .string data0], .agg #[.int .i64 fr1, .int .i64 boot1, .int .i64 seq1, .int .i64 ord1, .int .i64 lev1, .int .i64 stamp1, .string data1]] _ _
  go_enter Tryd.func43, Tryd.ntmps43
  go_wp2_with fail
  have b0 := ((Below.refl w.heap.size w).alloc (Nat.le_refl _) (.cells #[.int .i64 fr0, .int .i64 boot0, .int .i64 seq0, .int .i64 ord0, .int .i64 lev0, .int .i64 stamp0, .string data0] 70)).alloc (by simp) (.cells #[.int .i64 fr1, .int .i64 boot1, .int .i64 seq1, .int .i64 ord1, .int .i64 lev1, .int .i64 stamp1, .string data1] 70)
  refine (KS.out _).mono ?_
  rw [HP.out]
  rintro e w1 ⟨rfl, b1⟩
  have k0 := (Blk.newEnt w 70 ⟨fr0, boot0, seq0, ord0, lev0, stamp0, data0⟩).alloc (.cells #[.int .i64 fr1, .int .i64 boot1, .int .i64 seq1, .int .i64 ord1, .int .i64 lev1, .int .i64 stamp1, .string data1] 70)
  have k1 := Blk.newEnt (w.alloc (.cells #[.int .i64 fr0, .int .i64 boot0, .int .i64 seq0, .int .i64 ord0, .int .i64 lev0, .int .i64 stamp0, .string data0] 70)) 70 ⟨fr1, boot1, seq1, ord1, lev1, stamp1, data1⟩
  rw [show (w.alloc (.cells #[.int .i64 fr0, .int .i64 boot0, .int .i64 seq0, .int .i64 ord0, .int .i64 lev0, .int .i64 stamp0, .string data0] 70)).heap.size = w.heap.size + 1 by simp] at k1
  obtain ⟨-, -, -, c03, c04, c05, c06⟩ := (k0.past b1).ent
  obtain ⟨-, -, -, c13, c14, c15, c16⟩ := (k1.past b1).ent
  have b2 := b0.trans (b1.mono b0.size)
  clear k0 k1 b0 b1
  go_wp2_with fail
  go_ret
  exact ⟨by rw [HS.out]; simp [q1, q2, q3, q4], b2⟩

end Go.Proofs.YtfijjdahoimoeaaDoor

/- Contract of the document's EqAll; an entry loaded in a region that draws. -/
namespace Go.Proofs.YtfijjdahoimoeaaDoor
open Go.RowKit

set_option maxHeartbeats 4000000 in
set_option maxRecDepth 100000 in
theorem EqAll_c (w : World) (A A2 : Option Addr) (c n c2 n2 : Nat) (l l2 : List Ent) (h : Rd w w.heap.size A c 7 n (els l)) (h2 : Rd w w.heap.size A2 c2 7 n2 (els l2)) :
    Calls Tryd.prog 29 #[.slice A n c, .slice A2 n2 c2] w fun x w' => x = .returned (.bool (PEnt.eqL l l2)) ∧ Below w.heap.size w w' := by
  have HL1 := Lib.hid h.elen
  have HL2 := Lib.hid h2.elen
  have hcap := h.cap
  have hle := h.le
  have hn : n ≤ 9223372036854775807 := by unfold maxLen at hcap; omega
  have hcap2 := h2.cap
  have hle2 := h2.le
  have hn2 : n2 ≤ 9223372036854775807 := by unfold maxLen at hcap2; omega
  have R1 := Lib.hid h
  have R2 := Lib.hid h2
  clear h h2 hcap hle hcap2 hle2
  by_cases hne : n = n2
  · subst hne
    go_enter Tryd.func29, Tryd.ntmps29
    go_wp2_with fail
    go_loopw [5] (fun s5 wr => ∃ i : Nat, i ≤ n ∧ s5 = .int .i64 i ∧ Hid (PEnt.eqL l l2 = PEnt.eqL (l.drop i) (l2.drop i)) ∧ Hid (Below w.heap.size w wr)) (fun s5 _ => n - (intOf s5).toNat)
    case atStart => exact ⟨0, by omega, rfl, Lib.hid rfl, Lib.hid (Below.refl _ _)⟩
    case round =>
      obtain ⟨i, hi, rfl, HQ, BL⟩ := hrel
      by_cases hlt : i < n
      · obtain ⟨b1, o1, e1, rfl, hb1, he1, -, hr1⟩ := (R1.out.below BL.out).entR hlt
        obtain ⟨b2, o2, e2, rfl, hb2, he2, -, hr2⟩ := (R2.out.below BL.out).entR hlt
        have HS := Lib.hid (eqL_step he1 he2)
        have HB1 := Lib.hid (show b1 < wr.drew.heap.size from Nat.lt_of_lt_of_le hb1 BL.out.size)
        have HB2 := Lib.hid (show b2 < wr.drew.heap.size from Nat.lt_of_lt_of_le hb2 BL.out.size)
        have HR1 := Lib.hid (show wr.drew.rangeAt b1 (o1 + i * 7) (ecs e1) from hr1)
        have HR2 := Lib.hid (show wr.drew.rangeAt b2 (o2 + i * 7) (ecs e2) from hr2)
        clear he1 he2 hb1 hb2 hr1 hr2
        cases hq : PEnt.eqE e1 e2
        · have HE := Lib.hid (HQ.out.trans (HS.out.trans (by rw [hq])))
          have HK := Lib.hid hq
          clear hq
          go_wp2_with fail
-- REGION curfew/curfewref12.EqAll 6 eqall6f 10
          refine Hb.begin ?_
          refine Hb.take (v := .slice (some ⟨b1, o1, none⟩) n c) 0 17 rfl ?_ (fun _ _ => rfl)
          refine Hb.take (v := .int .i64 (i : Int)) 1 18 rfl ?_ (fun _ _ => rfl)
          refine Hb.take (v := .pointer (some ⟨b1, o1 + i * 7, none⟩)) 2 19 rfl ?_ (fun w' hw' => by go_simp; first | done | rfl | omega | exact wrap_in (by omega) (by omega) | exact Int.tmod_eq_emod_of_nonneg (by omega) | exact Int.tdiv_eq_ediv_of_nonneg (by omega) | (simp; omega))
          refine Hb.take (v := ev e1) 3 20 rfl ?_ (fun w' hw' => by exact run_loadE (rangeAt_below HR1.out hw' HB1.out) rfl)
          refine Hb.take (v := .slice (some ⟨b2, o2, none⟩) n c2) 4 21 rfl ?_ (fun _ _ => rfl)
          refine Hb.take (v := .int .i64 (i : Int)) 5 22 rfl ?_ (fun _ _ => rfl)
          refine Hb.take (v := .pointer (some ⟨b2, o2 + i * 7, none⟩)) 6 23 rfl ?_ (fun w' hw' => by go_simp; first | done | rfl | omega | exact wrap_in (by omega) (by omega) | exact Int.tmod_eq_emod_of_nonneg (by omega) | exact Int.tdiv_eq_ediv_of_nonneg (by omega) | (simp; omega))
          refine Hb.take (v := ev e2) 7 24 rfl ?_ (fun w' hw' => by exact run_loadE (rangeAt_below HR2.out hw' HB2.out) rfl)
          refine Hb.call (f := 43) (args := #[ev e1, ev e2]) 8 25 rfl ?_ (run_callf Tryd.func43 (by kernel_rfl) (by kernel_rfl) (by simp only [List.map_toArray, List.map_cons, List.map_nil]; rfl))
          refine (rEq_c wr.drew e1 e2).mono ?_
          rw [HK.out]
          rintro x w3 ⟨rfl, b3⟩
          refine Hb.back b3 (Nat.le_refl _) ?_
          refine Hb.take (v := .bool true) 9 26 rfl ?_ (fun w' hw' => by go_simp; first | done | rfl | omega | exact wrap_in (by omega) (by omega) | exact Int.tmod_eq_emod_of_nonneg (by omega) | exact Int.tdiv_eq_ediv_of_nonneg (by omega) | (simp; omega))
          refine Hb.done ?_
-- END
          go_wp2_with fail
          go_ret
          exact ⟨by rw [HE.out]; rfl, BL.out.drew.trans (b3.mono BL.out.size)⟩
        · have HE := Lib.hid (HQ.out.trans (HS.out.trans (by rw [hq])))
          have HK := Lib.hid hq
          clear hq
          go_wp2_with fail
-- REGION curfew/curfewref12.EqAll 6 eqall6t 10
          refine Hb.begin ?_
          refine Hb.take (v := .slice (some ⟨b1, o1, none⟩) n c) 0 17 rfl ?_ (fun _ _ => rfl)
          refine Hb.take (v := .int .i64 (i : Int)) 1 18 rfl ?_ (fun _ _ => rfl)
          refine Hb.take (v := .pointer (some ⟨b1, o1 + i * 7, none⟩)) 2 19 rfl ?_ (fun w' hw' => by go_simp; first | done | rfl | omega | exact wrap_in (by omega) (by omega) | exact Int.tmod_eq_emod_of_nonneg (by omega) | exact Int.tdiv_eq_ediv_of_nonneg (by omega) | (simp; omega))
          refine Hb.take (v := ev e1) 3 20 rfl ?_ (fun w' hw' => by exact run_loadE (rangeAt_below HR1.out hw' HB1.out) rfl)
          refine Hb.take (v := .slice (some ⟨b2, o2, none⟩) n c2) 4 21 rfl ?_ (fun _ _ => rfl)
          refine Hb.take (v := .int .i64 (i : Int)) 5 22 rfl ?_ (fun _ _ => rfl)
          refine Hb.take (v := .pointer (some ⟨b2, o2 + i * 7, none⟩)) 6 23 rfl ?_ (fun w' hw' => by go_simp; first | done | rfl | omega | exact wrap_in (by omega) (by omega) | exact Int.tmod_eq_emod_of_nonneg (by omega) | exact Int.tdiv_eq_ediv_of_nonneg (by omega) | (simp; omega))
          refine Hb.take (v := ev e2) 7 24 rfl ?_ (fun w' hw' => by exact run_loadE (rangeAt_below HR2.out hw' HB2.out) rfl)
          refine Hb.call (f := 43) (args := #[ev e1, ev e2]) 8 25 rfl ?_ (run_callf Tryd.func43 (by kernel_rfl) (by kernel_rfl) (by simp only [List.map_toArray, List.map_cons, List.map_nil]; rfl))
          refine (rEq_c wr.drew e1 e2).mono ?_
          rw [HK.out]
          rintro x w3 ⟨rfl, b3⟩
          refine Hb.back b3 (Nat.le_refl _) ?_
          refine Hb.take (v := .bool false) 9 26 rfl ?_ (fun w' hw' => by go_simp; first | done | rfl | omega | exact wrap_in (by omega) (by omega) | exact Int.tmod_eq_emod_of_nonneg (by omega) | exact Int.tdiv_eq_ediv_of_nonneg (by omega) | (simp; omega))
          refine Hb.done ?_
-- END
          go_wp2_with fail
          go_roundw
          case rel => exact ⟨i + 1, by omega, by go_num, HE, Lib.hid (BL.out.drew.trans (b3.mono BL.out.size))⟩
          case measure => simp [intOf]; omega
      · obtain rfl : i = n := by omega
        have HE := Lib.hid (HQ.out.trans (by rw [List.drop_of_length_le (by rw [HL1.out]; omega), List.drop_of_length_le (by rw [HL2.out]; omega)]))
        go_wp2_with fail
        go_ret
        exact ⟨by rw [HE.out]; rfl, BL.out⟩
  · have HE := Lib.hid (eqL_ne (l := l) (m := l2) (by rw [HL1.out, HL2.out]; exact hne))
    go_enter Tryd.func29, Tryd.ntmps29
    go_wp2_with fail
    go_ret
    exact ⟨by rw [HE.out]; rfl, Below.refl _ _⟩
end Go.Proofs.YtfijjdahoimoeaaDoor

