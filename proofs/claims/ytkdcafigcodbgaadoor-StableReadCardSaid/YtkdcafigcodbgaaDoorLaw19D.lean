/- The walk of StableRead. -/
import Derived.Test.YtkdcafigcodbgaaDoorStabK
import Derived.Test.YtkdcafigcodbgaaDoorHeldT
import Derived.Test.YtkdcafigcodbgaaDoorShort
import Derived.WalkSmall
import Derived.Deep.CutRange
namespace Go.Proofs.YtkdcafigcodbgaaDoor
open Go.RowKit PStab

theorem rBytesE_c (w : World) (g : Nat) (b v : Int) (h : Dr w g b v) (hb : Fit b) (hv : Fit v) {E : List Int} {N : Nat} (hE : enc b v = E) (hN : E.length = N) :
    Calls Tryd.prog 16 #[.pointer (some ⟨g, 0, none⟩)] w fun e w' => ∃ A' c', e = .returned (.slice A' N c') ∧ Rd w' w'.heap.size A' c' 1 N (bs E) ∧ Below w.heap.size w w' := by
  subst hE; subst hN
  refine (rBytes_c w g b v h hb hv).mono ?_
  rintro e w' ⟨A', c', rfl, ho, hb⟩
  exact ⟨A', c', rfl, Rd.of_own ho, hb⟩

set_option maxHeartbeats 8000000 in
set_option maxRecDepth 100000 in
theorem StableRead_w (w : World) (ht : Tab w) (b v a : Int) (hb1 : -9223372036854775808 ≤ b) (hb2 : b ≤ 9223372036854775807) (hv1 : -9223372036854775808 ≤ v) (hv2 : v ≤ 9223372036854775807) (x : Nat) (hx1 : (x : Int) < 256)
    (RA : Option Addr) (rc rn : Nat) (rl : List Int) (h : Rd w w.heap.size RA rc 1 rn (bs rl)) (hrb : isB rl) :
    Calls Tryd.prog 4 #[.int .i64 b, .int .i64 v, .int .i64 a, .int .u8 x, .slice RA rn rc] w fun e w' => e = .returned (.bool true) ∧ Below w.heap.size w w' := by
  have HR := Lib.hid h
  have HT := Lib.hid ht
  have HRB := Lib.hid hrb
  have FB := Lib.hid (show Fit b from ⟨hb1, hb2⟩)
  have FV := Lib.hid (show Fit v from ⟨hv1, hv2⟩)
  have hx0 : (0 : Int) ≤ x := by omega
  clear h ht hrb hb1 hb2 hv1 hv2
  go_enter Tryd.func4, Tryd.ntmps4
  go_wp2_with fail
  refine (begunS_c w HT.out).mono ?_
  rintro e w1 ⟨rfl, b1⟩
  have D2 := Lib.hid (show Dr (w1.alloc (.cells #[.int .i64 b, .int .i64 v] 30)) w1.heap.size b v from Blk.new w1 #[.int .i64 b, .int .i64 v] _)
  have B2 := Lib.hid (b1.alloc b1.size (.cells #[.int .i64 b, .int .i64 v] 30))
  clear b1
  go_upto_region 5 with fail
  generalize w1.alloc (.cells #[.int .i64 b, .int .i64 v] 30) = w2 at *
  generalize w1.heap.size = g0 at *
  go_cut [13] from 27 (fun s13 wx => ∃ G : Bool, s13 = .bool G ∧ Hid (G = true ↔ Ok b ∧ Ok v) ∧ wx = w2)
  case first =>
    rcases (by omega : b < 0 ∨ 0 ≤ b ∧ 1099511627776 < b ∨ 0 ≤ b ∧ b ≤ 1099511627776 ∧ v < 0 ∨ 0 ≤ b ∧ b ≤ 1099511627776 ∧ 0 ≤ v ∧ 1099511627776 < v ∨ 0 ≤ b ∧ b ≤ 1099511627776 ∧ 0 ≤ v ∧ v ≤ 1099511627776) with k0 | ⟨k0, k1⟩ | ⟨k0, k1, k2⟩ | ⟨k0, k1, k2, k3⟩ | ⟨k0, k1, k2, k3⟩
    · skip
      go_wp2_with fail
      go_meet
      case rel => exact ⟨_, rfl, Lib.hid (by unfold Ok; simp; omega), rfl⟩
    · skip
      go_wp2_with fail
      go_meet
      case rel => exact ⟨_, rfl, Lib.hid (by unfold Ok; simp; omega), rfl⟩
    · skip
      go_wp2_with fail
      go_meet
      case rel => exact ⟨_, rfl, Lib.hid (by unfold Ok; simp; omega), rfl⟩
    · skip
      go_wp2_with fail
      go_meet
      case rel => exact ⟨_, rfl, Lib.hid (by unfold Ok; simp; omega), rfl⟩
    · skip
      go_wp2_with fail
      go_meet
      case rel => exact ⟨_, rfl, Lib.hid (by unfold Ok; simp; omega), rfl⟩
  case rest =>
    obtain ⟨G, rfl, HG, rfl⟩ := hcut
    obtain ⟨E, hE⟩ : ∃ E, enc b v = E := ⟨_, rfl⟩
    obtain ⟨N, hEN⟩ : ∃ N, E.length = N := ⟨_, rfl⟩
    have HE := Lib.hid hE
    have HEACH := Lib.hid (fun (y : Int) (j : Nat) (hy : 0 ≤ y ∧ y < 256) (hj : j < E.length) (h0 : y ≠ 0) => by
      have := dec_each (b := b) (v := v) hy (by rw [hE]; exact hj) h0
      rwa [hE] at this)
    have HEB := Lib.hid (by have := enc_byte b v; rwa [hE] at this)
    have HN := Lib.hid (show N ≤ 24 ∧ 0 < N ∧ E.length = N from ⟨by have := enc_len FB.out FV.out; rw [hE, hEN] at this; exact this, by have := enc_length b v; rw [hE, hEN] at this; omega, hEN⟩)
    have HRB5 := Lib.hid (rBytesE_c wc g0 b v D2.out FB.out FV.out hE hEN)
    clear hE hEN
    go_wp2_with fail
    refine (HRB5.out).mono ?_
    rintro e w5 ⟨A5, c5, rfl, r5, b5⟩
    have R5 := Lib.hid r5
    have B5 := Lib.hid (B2.out.trans (b5.mono B2.out.size))
    clear r5 b5 D2 B2 HRB5
    cases G
    · have HD := Lib.hid (dec_no FB.out FV.out (fun h => by have := HG.out.2 h; cases this))
      rw [HE.out] at HD
      clear HG HE
      go_wp2_with fail
      refine (read_c w5 _ A5 c5 N E R5.out HEB.out (HT.out.past B5.out) (by have := HN.out.1; omega)).mono ?_
      rw [HD.out]
      rintro e w6 ⟨rfl, b6⟩
      have E6 := Lib.hid ((R5.out.past b6).tight)
      have B6 := Lib.hid (B5.out.trans (b6.mono B5.out.size))
      clear b6 R5 B5 HD
      have HS8 := Lib.hid (show (30 : Int).toNat = 30 from rfl)
      have R7 := Lib.hid ((HR.out.below B6.out))
      go_wp2_with fail
      refine (Short_c w6 _ RA rc rn rl 30 R7.out (by decide)).mono ?_
      have HB2 := Lib.hid (show isB (rl.take (30 : Int).toNat) from HRB.out.take _)
      have hm30 : min rn (30 : Int).toNat ≤ 30 := Nat.min_le_right ..
      generalize rl.take (30 : Int).toNat = l8 at *
      generalize min rn (30 : Int).toNat = n8 at *
      rintro e w7 ⟨A8, c8, rfl, rfl, hr8⟩
      have F6 := Lib.hid hr8.tight
      clear hr8 R7 HS8
      go_wp2_with fail
      refine (read_c w6 _ A8 c8 n8 l8 F6.out HB2.out (HT.out.past B6.out) (by omega)).mono ?_
      cases hdl : dec l8 with
      | none =>
        rintro e w9 ⟨rfl, b9⟩
        have E10 := Lib.hid ((E6.out.past b9).tight)
        have B10 := Lib.hid (B6.out.trans (b9.mono B6.out.size))
        clear b9 E6 B6 F6 hdl HB2 hm30
        go_upto_region 12 with fail
-- REGION curfew/curfewlaw19.StableRead 12 sread12n 8
        refine Hb.begin ?_
        refine Hb.take (v := .int .i64 1) 0 86 rfl ?_ (fun _ _ => rfl)
        refine Hb.take (v := .bool false) 1 87 rfl ?_ (fun w' hw' => by go_simp; first | done | rfl | omega | exact wrap_in (by omega) (by omega) | exact Int.tmod_eq_emod_of_nonneg (by omega) | exact Int.tdiv_eq_ediv_of_nonneg (by omega) | (simp; omega))
        refine Hb.take (v := .bool false) 2 88 rfl ?_ (fun _ _ => rfl)
        refine Hb.pass 3 89 rfl ?_
        refine Hb.pass 4 90 rfl ?_
        refine Hb.pass 5 91 rfl ?_
        refine Hb.pass 6 92 rfl ?_
        refine Hb.pass 7 93 rfl ?_
        refine Hb.pass 8 94 rfl ?_
        refine Hb.take (v := .bool false) 9 95 rfl ?_ (fun _ _ => rfl)
        refine Hb.take (v := .bool false) 10 96 rfl ?_ (fun _ _ => rfl)
        refine Hb.take (v := .int .i64 1) 11 97 rfl ?_ (fun _ _ => rfl)
        refine Hb.take (v := .bool true) 12 98 rfl ?_ (fun w' hw' => by go_simp; first | done | rfl | omega | exact wrap_in (by omega) (by omega) | exact Int.tmod_eq_emod_of_nonneg (by omega) | exact Int.tdiv_eq_ediv_of_nonneg (by omega) | (simp; omega))
        refine Hb.take (v := .bool true) 13 99 rfl ?_ (fun _ _ => rfl)
        refine Hb.take (v := .pointer none) 14 100 rfl ?_ (fun _ _ => rfl)
        refine Hb.take (v := .bool false) 15 101 rfl ?_ (fun w' hw' => by go_simp; first | done | rfl | omega | exact wrap_in (by omega) (by omega) | exact Int.tmod_eq_emod_of_nonneg (by omega) | exact Int.tdiv_eq_ediv_of_nonneg (by omega) | (simp; omega))
        refine Hb.take (v := .bool false) 16 102 rfl ?_ (fun _ _ => rfl)
        refine Hb.take (v := .bool false) 17 103 rfl ?_ (fun _ _ => rfl)
        refine Hb.done ?_
-- END
        have B10 := Lib.hid B10.out.drew
        by_cases hneg : a < 0
        · go_wp2_with fail
          go_ret
          exact ⟨rfl, B10.out⟩
        obtain ⟨a, rfl⟩ := Int.eq_ofNat_of_zero_le (show 0 ≤ a by omega)
        by_cases hx00 : x = 0
        · subst hx00
          go_wp2_with fail
          go_ret
          exact ⟨rfl, B10.out⟩
        have hxne : ((x : Int) == 0) = false := by simp; omega
        go_wp2_with (at_builtin; go_must (refine wpList_app rfl (.const (.slice none 0 0)) (.tmp 110) _ rfl w9.drew.heap.size 5 _ 1 1 Tryd.underlying33 byte_info rfl (by omega) _ 0 [] rfl (World.ownsRow_nil _ _ _ _) _ A5 c5 N (bs E) rfl E10.out (bs_one _) ?c1 ?c2 (Nat.le_refl _) ?_))
        case c1 => have := HN.out.1; unfold maxLen; omega
        case c2 => have := HN.out.1; omega
        intro A15 c15 w15 hown15 hgrow15 hb15
        have hown8 : w15.ownsRow w9.drew.heap.size 5 1 (.slice A15 N c15) N (bs E) := by simpa using hown15
        clear hown15 hgrow15
        have hN1 := HN.out.1
        have hN2 := HN.out.2.1
        obtain ⟨g, rfl, hg1, hg2⟩ := own_some hown8 (by omega)
        have hj : a % N < N := Nat.mod_lt _ (by omega)
        have HJ := Lib.hid (show (a : Int) % (N : Int) = ((a % N : Nat) : Int) by omega)
        generalize a % N = j at *
        obtain ⟨u, hu⟩ : ∃ u, E[j]? = some u := ⟨_, List.getElem?_eq_getElem (by rw [HN.out.2.2]; exact hj)⟩
        have hub := HEB.out u (List.mem_of_getElem? hu)
        have hcg : w15.cell? ⟨g, j, none⟩ = some (.int .u8 u) := by
          rw [hown8.cellAt j (by omega), bs, List.getElem?_map, hu]; rfl
        have hfz : w15.frozen? ⟨g, j, none⟩ = false := hown8.frozenAt j
        have hst := hown8.stored j (.int .u8 (u.toNat ^^^ x : Nat))
        have hnext : (bs E).set j (.int .u8 (u.toNat ^^^ x : Nat)) = bs (PCrc.lay E [(x : Int)] j) := by
          rw [bs, ← List.map_set, PCrc.lay_one _ j u x hu]; rfl
        rw [hnext] at hst
        obtain ⟨u, rfl⟩ := Int.eq_ofNat_of_zero_le hub.1
        simp only [Int.toNat_natCast] at hst
        have e1 := u8_xor_nat u x (by omega) (by omega)
        have HDN := Lib.hid (HEACH.out (x : Int) j ⟨hx0, hx1⟩ (by rw [HN.out.2.2]; exact hj) (by omega))
        have HDB := Lib.hid (show isB (PCrc.lay E [(x : Int)] j) from PCrc.lay_byte j HEB.out (by intro y hy; simp at hy; subst hy; exact ⟨hx0, hx1⟩))
        have RD := Lib.hid (Rd.of_own hst.1)
        have G15 := grown_set w15 g j (.int .u8 (u ^^^ x : Nat))
        have B15 := Lib.hid ((B10.out.trans (hb15.mono B10.out.size)).trans ((grown_below G15 hg1 hb15.size).mono B10.out.size))
        clear hnext hst hu hub hown8 hb15 G15 hN2 HEACH B10 E10
        generalize PCrc.lay E [(x : Int)] j = D at *
        have e2 := HJ.out
        go_wp2_with fail
        clear hcg hfz e1 e2
        generalize w15.setCell ⟨g, j, none⟩ (.int .u8 (u ^^^ x : Nat)) = w16 at *
        refine (read_c w16 _ _ c15 N D RD.out HDB.out (HT.out.past B15.out) (by omega)).mono ?_
        rw [HDN.out]
        rintro e w17 ⟨rfl, b17⟩
        go_wp2_with fail
        go_ret
        exact ⟨rfl, B15.out.trans (b17.mono B15.out.size)⟩
      | some p =>
        obtain ⟨fb, fv⟩ := p
        have HFE := Lib.hid (dec_inv HB2.out hdl).2.2
        rintro e w9 ⟨gf, rfl, hgf, d9, b9⟩
        have R9 := Lib.hid ((E6.out.past b9).tight)
        have F9 := Lib.hid ((F6.out.past b9).tight)
        have DF9 := Lib.hid (show Sd w w9 gf fb fv from ⟨B6.out.trans (b9.mono B6.out.size), Nat.le_trans B6.out.size hgf, d9, (dec_inv HB2.out hdl).1, (dec_inv HB2.out hdl).2.1⟩)
        clear hgf d9 b9 E6 B6 F6 hdl HB2 hm30
        go_upto_region 12 with fail
-- REGION curfew/curfewlaw19.StableRead 12 sread12s 8
        refine Hb.begin ?_
        refine Hb.take (v := .int .i64 0) 0 86 rfl ?_ (fun _ _ => rfl)
        refine Hb.take (v := .bool true) 1 87 rfl ?_ (fun w' hw' => by go_simp; first | done | rfl | omega | exact wrap_in (by omega) (by omega) | exact Int.tmod_eq_emod_of_nonneg (by omega) | exact Int.tdiv_eq_ediv_of_nonneg (by omega) | (simp; omega))
        refine Hb.take (v := .bool true) 2 88 rfl ?_ (fun _ _ => rfl)
        refine Hb.take (v := .pointer (some ⟨gf, 0, none⟩)) 3 89 rfl ?_ (fun _ _ => rfl)
        refine Hb.take (v := .slice A8 n8 c8) 6 92 rfl ?_ (fun _ _ => rfl)
        refine Hb.take (v := .string (strOfNums l8)) 7 93 rfl ?_ (fun w' hw' => by exact run_toStrOp 5 rfl (F9.out.drew.below hw') Tryd.underlying33 Tryd.underlying5 Tryd.underlying9)
        refine Hb.call (f := 13) (args := #[.pointer (some ⟨gf, 0, none⟩)]) 4 90 rfl ?_ (run_callf Tryd.func13 (by kernel_rfl) (by kernel_rfl) (by simp only [List.map_toArray, List.map_cons, List.map_nil]; rfl))
        refine (DF9.out.drew.bytes HT.out).mono ?_
        rintro e w10 ⟨A10, c10, rfl, ho10, b10⟩
        have R10 := Lib.hid (Rd.of_own ho10)
        have E10 := Lib.hid ((R9.out.drew.past b10).tight)
        have F10 := Lib.hid ((F9.out.drew.past b10).tight)
        have B10 := Lib.hid (DF9.out.drew.bel.trans (b10.mono DF9.out.bel.size))
        clear ho10
        refine Hb.back b10 b10.size ?_
        refine Hb.take (v := .string (strOfNums (enc fb fv))) 5 91 rfl ?_ (fun w' hw' => by exact run_toStrOp 5 rfl (R10.out.below hw') Tryd.underlying33 Tryd.underlying5 Tryd.underlying9)
        refine Hb.take (v := .bool false) 8 94 rfl ?_ (fun w' hw' => by exact run_strNe rfl rfl (by rw [HFE.out]; simp))
        refine Hb.take (v := .bool false) 9 95 rfl ?_ (fun _ _ => rfl)
        refine Hb.take (v := .bool false) 10 96 rfl ?_ (fun _ _ => rfl)
        refine Hb.take (v := .int .i64 0) 11 97 rfl ?_ (fun _ _ => rfl)
        refine Hb.take (v := .bool false) 12 98 rfl ?_ (fun w' hw' => by go_simp; first | done | rfl | omega | exact wrap_in (by omega) (by omega) | exact Int.tmod_eq_emod_of_nonneg (by omega) | exact Int.tdiv_eq_ediv_of_nonneg (by omega) | (simp; omega))
        refine Hb.take (v := .bool false) 13 99 rfl ?_ (fun _ _ => rfl)
        refine Hb.pass 14 100 rfl ?_
        refine Hb.pass 15 101 rfl ?_
        refine Hb.take (v := .bool false) 16 102 rfl ?_ (fun _ _ => rfl)
        refine Hb.take (v := .bool false) 17 103 rfl ?_ (fun _ _ => rfl)
        refine Hb.done ?_
-- END
        clear DF9 R9 F9 F10 R10 HFE
        by_cases hneg : a < 0
        · go_wp2_with fail
          go_ret
          exact ⟨rfl, B10.out⟩
        obtain ⟨a, rfl⟩ := Int.eq_ofNat_of_zero_le (show 0 ≤ a by omega)
        by_cases hx00 : x = 0
        · subst hx00
          go_wp2_with fail
          go_ret
          exact ⟨rfl, B10.out⟩
        have hxne : ((x : Int) == 0) = false := by simp; omega
        go_wp2_with (at_builtin; go_must (refine wpList_app rfl (.const (.slice none 0 0)) (.tmp 110) _ rfl w10.heap.size 5 _ 1 1 Tryd.underlying33 byte_info rfl (by omega) _ 0 [] rfl (World.ownsRow_nil _ _ _ _) _ A5 c5 N (bs E) rfl E10.out (bs_one _) ?c1 ?c2 (Nat.le_refl _) ?_))
        case c1 => have := HN.out.1; unfold maxLen; omega
        case c2 => have := HN.out.1; omega
        intro A15 c15 w15 hown15 hgrow15 hb15
        have hown8 : w15.ownsRow w10.heap.size 5 1 (.slice A15 N c15) N (bs E) := by simpa using hown15
        clear hown15 hgrow15
        have hN1 := HN.out.1
        have hN2 := HN.out.2.1
        obtain ⟨g, rfl, hg1, hg2⟩ := own_some hown8 (by omega)
        have hj : a % N < N := Nat.mod_lt _ (by omega)
        have HJ := Lib.hid (show (a : Int) % (N : Int) = ((a % N : Nat) : Int) by omega)
        generalize a % N = j at *
        obtain ⟨u, hu⟩ : ∃ u, E[j]? = some u := ⟨_, List.getElem?_eq_getElem (by rw [HN.out.2.2]; exact hj)⟩
        have hub := HEB.out u (List.mem_of_getElem? hu)
        have hcg : w15.cell? ⟨g, j, none⟩ = some (.int .u8 u) := by
          rw [hown8.cellAt j (by omega), bs, List.getElem?_map, hu]; rfl
        have hfz : w15.frozen? ⟨g, j, none⟩ = false := hown8.frozenAt j
        have hst := hown8.stored j (.int .u8 (u.toNat ^^^ x : Nat))
        have hnext : (bs E).set j (.int .u8 (u.toNat ^^^ x : Nat)) = bs (PCrc.lay E [(x : Int)] j) := by
          rw [bs, ← List.map_set, PCrc.lay_one _ j u x hu]; rfl
        rw [hnext] at hst
        obtain ⟨u, rfl⟩ := Int.eq_ofNat_of_zero_le hub.1
        simp only [Int.toNat_natCast] at hst
        have e1 := u8_xor_nat u x (by omega) (by omega)
        have HDN := Lib.hid (HEACH.out (x : Int) j ⟨hx0, hx1⟩ (by rw [HN.out.2.2]; exact hj) (by omega))
        have HDB := Lib.hid (show isB (PCrc.lay E [(x : Int)] j) from PCrc.lay_byte j HEB.out (by intro y hy; simp at hy; subst hy; exact ⟨hx0, hx1⟩))
        have RD := Lib.hid (Rd.of_own hst.1)
        have G15 := grown_set w15 g j (.int .u8 (u ^^^ x : Nat))
        have B15 := Lib.hid ((B10.out.trans (hb15.mono B10.out.size)).trans ((grown_below G15 hg1 hb15.size).mono B10.out.size))
        clear hnext hst hu hub hown8 hb15 G15 hN2 HEACH B10 E10
        generalize PCrc.lay E [(x : Int)] j = D at *
        have e2 := HJ.out
        go_wp2_with fail
        clear hcg hfz e1 e2
        generalize w15.setCell ⟨g, j, none⟩ (.int .u8 (u ^^^ x : Nat)) = w16 at *
        refine (read_c w16 _ _ c15 N D RD.out HDB.out (HT.out.past B15.out) (by omega)).mono ?_
        rw [HDN.out]
        rintro e w17 ⟨rfl, b17⟩
        go_wp2_with fail
        go_ret
        exact ⟨rfl, B15.out.trans (b17.mono B15.out.size)⟩
    · have HD := Lib.hid (dec_yes (HG.out.1 rfl).1 (HG.out.1 rfl).2)
      rw [HE.out] at HD
      clear HG HE
      go_wp2_with fail
      refine (read_c w5 _ A5 c5 N E R5.out HEB.out (HT.out.past B5.out) (by have := HN.out.1; omega)).mono ?_
      rw [HD.out]
      rintro e w6 ⟨gd, rfl, -, d6, b6⟩
      have D6 := Lib.hid d6
      have E6 := Lib.hid ((R5.out.past b6).tight)
      have B6 := Lib.hid (B5.out.trans (b6.mono B5.out.size))
      clear b6 d6 R5 B5 HD
      go_wp2_with fail
      refine (boot_c w6 gd b v D6.out).mono ?_
      rintro e w7 ⟨rfl, rfl⟩
      go_wp2_with fail
      refine (view_c w6 gd b v D6.out).mono ?_
      rintro e w7 ⟨rfl, rfl⟩
      have HS8 := Lib.hid (show (30 : Int).toNat = 30 from rfl)
      have R7 := Lib.hid ((HR.out.below B6.out))
      go_wp2_with fail
      refine (Short_c w6 _ RA rc rn rl 30 R7.out (by decide)).mono ?_
      have HB2 := Lib.hid (show isB (rl.take (30 : Int).toNat) from HRB.out.take _)
      have hm30 : min rn (30 : Int).toNat ≤ 30 := Nat.min_le_right ..
      generalize rl.take (30 : Int).toNat = l8 at *
      generalize min rn (30 : Int).toNat = n8 at *
      rintro e w7 ⟨A8, c8, rfl, rfl, hr8⟩
      have F6 := Lib.hid hr8.tight
      clear hr8 R7 HS8
      go_wp2_with fail
      refine (read_c w6 _ A8 c8 n8 l8 F6.out HB2.out (HT.out.past B6.out) (by omega)).mono ?_
      cases hdl : dec l8 with
      | none =>
        rintro e w9 ⟨rfl, b9⟩
        have E10 := Lib.hid ((E6.out.past b9).tight)
        have B10 := Lib.hid (B6.out.trans (b9.mono B6.out.size))
        clear b9 E6 B6 F6 hdl HB2 hm30
        go_upto_region 12 with fail
-- REGION curfew/curfewlaw19.StableRead 12 sread12n 8
        refine Hb.begin ?_
        refine Hb.take (v := .int .i64 1) 0 86 rfl ?_ (fun _ _ => rfl)
        refine Hb.take (v := .bool false) 1 87 rfl ?_ (fun w' hw' => by go_simp; first | done | rfl | omega | exact wrap_in (by omega) (by omega) | exact Int.tmod_eq_emod_of_nonneg (by omega) | exact Int.tdiv_eq_ediv_of_nonneg (by omega) | (simp; omega))
        refine Hb.take (v := .bool false) 2 88 rfl ?_ (fun _ _ => rfl)
        refine Hb.pass 3 89 rfl ?_
        refine Hb.pass 4 90 rfl ?_
        refine Hb.pass 5 91 rfl ?_
        refine Hb.pass 6 92 rfl ?_
        refine Hb.pass 7 93 rfl ?_
        refine Hb.pass 8 94 rfl ?_
        refine Hb.take (v := .bool false) 9 95 rfl ?_ (fun _ _ => rfl)
        refine Hb.take (v := .bool false) 10 96 rfl ?_ (fun _ _ => rfl)
        refine Hb.take (v := .int .i64 1) 11 97 rfl ?_ (fun _ _ => rfl)
        refine Hb.take (v := .bool true) 12 98 rfl ?_ (fun w' hw' => by go_simp; first | done | rfl | omega | exact wrap_in (by omega) (by omega) | exact Int.tmod_eq_emod_of_nonneg (by omega) | exact Int.tdiv_eq_ediv_of_nonneg (by omega) | (simp; omega))
        refine Hb.take (v := .bool true) 13 99 rfl ?_ (fun _ _ => rfl)
        refine Hb.take (v := .pointer none) 14 100 rfl ?_ (fun _ _ => rfl)
        refine Hb.take (v := .bool false) 15 101 rfl ?_ (fun w' hw' => by go_simp; first | done | rfl | omega | exact wrap_in (by omega) (by omega) | exact Int.tmod_eq_emod_of_nonneg (by omega) | exact Int.tdiv_eq_ediv_of_nonneg (by omega) | (simp; omega))
        refine Hb.take (v := .bool false) 16 102 rfl ?_ (fun _ _ => rfl)
        refine Hb.take (v := .bool false) 17 103 rfl ?_ (fun _ _ => rfl)
        refine Hb.done ?_
-- END
        have B10 := Lib.hid B10.out.drew
        by_cases hneg : a < 0
        · go_wp2_with fail
          go_ret
          exact ⟨rfl, B10.out⟩
        obtain ⟨a, rfl⟩ := Int.eq_ofNat_of_zero_le (show 0 ≤ a by omega)
        by_cases hx00 : x = 0
        · subst hx00
          go_wp2_with fail
          go_ret
          exact ⟨rfl, B10.out⟩
        have hxne : ((x : Int) == 0) = false := by simp; omega
        go_wp2_with (at_builtin; go_must (refine wpList_app rfl (.const (.slice none 0 0)) (.tmp 110) _ rfl w9.drew.heap.size 5 _ 1 1 Tryd.underlying33 byte_info rfl (by omega) _ 0 [] rfl (World.ownsRow_nil _ _ _ _) _ A5 c5 N (bs E) rfl E10.out (bs_one _) ?c1 ?c2 (Nat.le_refl _) ?_))
        case c1 => have := HN.out.1; unfold maxLen; omega
        case c2 => have := HN.out.1; omega
        intro A15 c15 w15 hown15 hgrow15 hb15
        have hown8 : w15.ownsRow w9.drew.heap.size 5 1 (.slice A15 N c15) N (bs E) := by simpa using hown15
        clear hown15 hgrow15
        have hN1 := HN.out.1
        have hN2 := HN.out.2.1
        obtain ⟨g, rfl, hg1, hg2⟩ := own_some hown8 (by omega)
        have hj : a % N < N := Nat.mod_lt _ (by omega)
        have HJ := Lib.hid (show (a : Int) % (N : Int) = ((a % N : Nat) : Int) by omega)
        generalize a % N = j at *
        obtain ⟨u, hu⟩ : ∃ u, E[j]? = some u := ⟨_, List.getElem?_eq_getElem (by rw [HN.out.2.2]; exact hj)⟩
        have hub := HEB.out u (List.mem_of_getElem? hu)
        have hcg : w15.cell? ⟨g, j, none⟩ = some (.int .u8 u) := by
          rw [hown8.cellAt j (by omega), bs, List.getElem?_map, hu]; rfl
        have hfz : w15.frozen? ⟨g, j, none⟩ = false := hown8.frozenAt j
        have hst := hown8.stored j (.int .u8 (u.toNat ^^^ x : Nat))
        have hnext : (bs E).set j (.int .u8 (u.toNat ^^^ x : Nat)) = bs (PCrc.lay E [(x : Int)] j) := by
          rw [bs, ← List.map_set, PCrc.lay_one _ j u x hu]; rfl
        rw [hnext] at hst
        obtain ⟨u, rfl⟩ := Int.eq_ofNat_of_zero_le hub.1
        simp only [Int.toNat_natCast] at hst
        have e1 := u8_xor_nat u x (by omega) (by omega)
        have HDN := Lib.hid (HEACH.out (x : Int) j ⟨hx0, hx1⟩ (by rw [HN.out.2.2]; exact hj) (by omega))
        have HDB := Lib.hid (show isB (PCrc.lay E [(x : Int)] j) from PCrc.lay_byte j HEB.out (by intro y hy; simp at hy; subst hy; exact ⟨hx0, hx1⟩))
        have RD := Lib.hid (Rd.of_own hst.1)
        have G15 := grown_set w15 g j (.int .u8 (u ^^^ x : Nat))
        have B15 := Lib.hid ((B10.out.trans (hb15.mono B10.out.size)).trans ((grown_below G15 hg1 hb15.size).mono B10.out.size))
        clear hnext hst hu hub hown8 hb15 G15 hN2 HEACH B10 E10
        generalize PCrc.lay E [(x : Int)] j = D at *
        have e2 := HJ.out
        go_wp2_with fail
        clear hcg hfz e1 e2
        generalize w15.setCell ⟨g, j, none⟩ (.int .u8 (u ^^^ x : Nat)) = w16 at *
        refine (read_c w16 _ _ c15 N D RD.out HDB.out (HT.out.past B15.out) (by omega)).mono ?_
        rw [HDN.out]
        rintro e w17 ⟨rfl, b17⟩
        go_wp2_with fail
        go_ret
        exact ⟨rfl, B15.out.trans (b17.mono B15.out.size)⟩
      | some p =>
        obtain ⟨fb, fv⟩ := p
        have HFE := Lib.hid (dec_inv HB2.out hdl).2.2
        rintro e w9 ⟨gf, rfl, hgf, d9, b9⟩
        have R9 := Lib.hid ((E6.out.past b9).tight)
        have F9 := Lib.hid ((F6.out.past b9).tight)
        have DF9 := Lib.hid (show Sd w w9 gf fb fv from ⟨B6.out.trans (b9.mono B6.out.size), Nat.le_trans B6.out.size hgf, d9, (dec_inv HB2.out hdl).1, (dec_inv HB2.out hdl).2.1⟩)
        clear hgf d9 b9 E6 B6 F6 hdl HB2 hm30
        go_upto_region 12 with fail
-- REGION curfew/curfewlaw19.StableRead 12 sread12s 8
        refine Hb.begin ?_
        refine Hb.take (v := .int .i64 0) 0 86 rfl ?_ (fun _ _ => rfl)
        refine Hb.take (v := .bool true) 1 87 rfl ?_ (fun w' hw' => by go_simp; first | done | rfl | omega | exact wrap_in (by omega) (by omega) | exact Int.tmod_eq_emod_of_nonneg (by omega) | exact Int.tdiv_eq_ediv_of_nonneg (by omega) | (simp; omega))
        refine Hb.take (v := .bool true) 2 88 rfl ?_ (fun _ _ => rfl)
        refine Hb.take (v := .pointer (some ⟨gf, 0, none⟩)) 3 89 rfl ?_ (fun _ _ => rfl)
        refine Hb.take (v := .slice A8 n8 c8) 6 92 rfl ?_ (fun _ _ => rfl)
        refine Hb.take (v := .string (strOfNums l8)) 7 93 rfl ?_ (fun w' hw' => by exact run_toStrOp 5 rfl (F9.out.drew.below hw') Tryd.underlying33 Tryd.underlying5 Tryd.underlying9)
        refine Hb.call (f := 13) (args := #[.pointer (some ⟨gf, 0, none⟩)]) 4 90 rfl ?_ (run_callf Tryd.func13 (by kernel_rfl) (by kernel_rfl) (by simp only [List.map_toArray, List.map_cons, List.map_nil]; rfl))
        refine (DF9.out.drew.bytes HT.out).mono ?_
        rintro e w10 ⟨A10, c10, rfl, ho10, b10⟩
        have R10 := Lib.hid (Rd.of_own ho10)
        have E10 := Lib.hid ((R9.out.drew.past b10).tight)
        have F10 := Lib.hid ((F9.out.drew.past b10).tight)
        have B10 := Lib.hid (DF9.out.drew.bel.trans (b10.mono DF9.out.bel.size))
        clear ho10
        refine Hb.back b10 b10.size ?_
        refine Hb.take (v := .string (strOfNums (enc fb fv))) 5 91 rfl ?_ (fun w' hw' => by exact run_toStrOp 5 rfl (R10.out.below hw') Tryd.underlying33 Tryd.underlying5 Tryd.underlying9)
        refine Hb.take (v := .bool false) 8 94 rfl ?_ (fun w' hw' => by exact run_strNe rfl rfl (by rw [HFE.out]; simp))
        refine Hb.take (v := .bool false) 9 95 rfl ?_ (fun _ _ => rfl)
        refine Hb.take (v := .bool false) 10 96 rfl ?_ (fun _ _ => rfl)
        refine Hb.take (v := .int .i64 0) 11 97 rfl ?_ (fun _ _ => rfl)
        refine Hb.take (v := .bool false) 12 98 rfl ?_ (fun w' hw' => by go_simp; first | done | rfl | omega | exact wrap_in (by omega) (by omega) | exact Int.tmod_eq_emod_of_nonneg (by omega) | exact Int.tdiv_eq_ediv_of_nonneg (by omega) | (simp; omega))
        refine Hb.take (v := .bool false) 13 99 rfl ?_ (fun _ _ => rfl)
        refine Hb.pass 14 100 rfl ?_
        refine Hb.pass 15 101 rfl ?_
        refine Hb.take (v := .bool false) 16 102 rfl ?_ (fun _ _ => rfl)
        refine Hb.take (v := .bool false) 17 103 rfl ?_ (fun _ _ => rfl)
        refine Hb.done ?_
-- END
        clear DF9 R9 F9 F10 R10 HFE
        by_cases hneg : a < 0
        · go_wp2_with fail
          go_ret
          exact ⟨rfl, B10.out⟩
        obtain ⟨a, rfl⟩ := Int.eq_ofNat_of_zero_le (show 0 ≤ a by omega)
        by_cases hx00 : x = 0
        · subst hx00
          go_wp2_with fail
          go_ret
          exact ⟨rfl, B10.out⟩
        have hxne : ((x : Int) == 0) = false := by simp; omega
        go_wp2_with (at_builtin; go_must (refine wpList_app rfl (.const (.slice none 0 0)) (.tmp 110) _ rfl w10.heap.size 5 _ 1 1 Tryd.underlying33 byte_info rfl (by omega) _ 0 [] rfl (World.ownsRow_nil _ _ _ _) _ A5 c5 N (bs E) rfl E10.out (bs_one _) ?c1 ?c2 (Nat.le_refl _) ?_))
        case c1 => have := HN.out.1; unfold maxLen; omega
        case c2 => have := HN.out.1; omega
        intro A15 c15 w15 hown15 hgrow15 hb15
        have hown8 : w15.ownsRow w10.heap.size 5 1 (.slice A15 N c15) N (bs E) := by simpa using hown15
        clear hown15 hgrow15
        have hN1 := HN.out.1
        have hN2 := HN.out.2.1
        obtain ⟨g, rfl, hg1, hg2⟩ := own_some hown8 (by omega)
        have hj : a % N < N := Nat.mod_lt _ (by omega)
        have HJ := Lib.hid (show (a : Int) % (N : Int) = ((a % N : Nat) : Int) by omega)
        generalize a % N = j at *
        obtain ⟨u, hu⟩ : ∃ u, E[j]? = some u := ⟨_, List.getElem?_eq_getElem (by rw [HN.out.2.2]; exact hj)⟩
        have hub := HEB.out u (List.mem_of_getElem? hu)
        have hcg : w15.cell? ⟨g, j, none⟩ = some (.int .u8 u) := by
          rw [hown8.cellAt j (by omega), bs, List.getElem?_map, hu]; rfl
        have hfz : w15.frozen? ⟨g, j, none⟩ = false := hown8.frozenAt j
        have hst := hown8.stored j (.int .u8 (u.toNat ^^^ x : Nat))
        have hnext : (bs E).set j (.int .u8 (u.toNat ^^^ x : Nat)) = bs (PCrc.lay E [(x : Int)] j) := by
          rw [bs, ← List.map_set, PCrc.lay_one _ j u x hu]; rfl
        rw [hnext] at hst
        obtain ⟨u, rfl⟩ := Int.eq_ofNat_of_zero_le hub.1
        simp only [Int.toNat_natCast] at hst
        have e1 := u8_xor_nat u x (by omega) (by omega)
        have HDN := Lib.hid (HEACH.out (x : Int) j ⟨hx0, hx1⟩ (by rw [HN.out.2.2]; exact hj) (by omega))
        have HDB := Lib.hid (show isB (PCrc.lay E [(x : Int)] j) from PCrc.lay_byte j HEB.out (by intro y hy; simp at hy; subst hy; exact ⟨hx0, hx1⟩))
        have RD := Lib.hid (Rd.of_own hst.1)
        have G15 := grown_set w15 g j (.int .u8 (u ^^^ x : Nat))
        have B15 := Lib.hid ((B10.out.trans (hb15.mono B10.out.size)).trans ((grown_below G15 hg1 hb15.size).mono B10.out.size))
        clear hnext hst hu hub hown8 hb15 G15 hN2 HEACH B10 E10
        generalize PCrc.lay E [(x : Int)] j = D at *
        have e2 := HJ.out
        go_wp2_with fail
        clear hcg hfz e1 e2
        generalize w15.setCell ⟨g, j, none⟩ (.int .u8 (u ^^^ x : Nat)) = w16 at *
        refine (read_c w16 _ _ c15 N D RD.out HDB.out (HT.out.past B15.out) (by omega)).mono ?_
        rw [HDN.out]
        rintro e w17 ⟨rfl, b17⟩
        go_wp2_with fail
        go_ret
        exact ⟨rfl, B15.out.trans (b17.mono B15.out.size)⟩
end Go.Proofs.YtkdcafigcodbgaaDoor
