/- The walk of CrcBurst. -/
import Derived.Test.YtknmgijfffpomaaDoorCrcF
import Derived.Test.YtknmgijfffpomaaDoorShort
import Derived.Test.YtknmgijfffpomaaDoorLaid
import Derived.Test.YtknmgijfffpomaaDoorPlainCrc2
import Derived.BigRegion
namespace Go.Proofs.YtknmgijfffpomaaDoor
open Go.RowKit

theorem openP_of {d q : List Int} (hq : q.length = 4) (h : PCrc.sum d ≠ PCrc.told q) : openP (d ++ q) = ([], false) := by
  unfold openP
  have e : (d ++ q).length - 4 = d.length := by rw [List.length_append]; omega
  rw [e, List.take_left, List.drop_left, if_neg (fun h' => h h'.2)]

theorem openP_burst {b x : List Int} {i : Nat} (hb : isB b) (hx : isB x) (h : i + x.length ≤ b.length) (h4 : x.length ≤ 4) (h0 : ∃ y ∈ x, y ≠ 0) : openP (PCrc.lay (PCrc.sealed b) x i) = ([], false) := by
  unfold PCrc.sealed
  rw [PCrc.lay_append _ _ _ _ h]
  refine openP_of (by simp [PCrc.four]) ?_
  rw [PCrc.told_four (PCrc.sum_lt hb)]
  exact PCrc.lay_sum b x i h hb hx h4 h0

theorem openP_each {b : List Int} {x : Int} {i : Nat} (hb : isB b) (hx : 0 ≤ x ∧ x < 256) (h : i < b.length + 4) (h0 : x ≠ 0) : openP (PCrc.lay (PCrc.sealed b) [x] i) = ([], false) := by
  have hX : isB [x] := by intro y hy; simp at hy; subst hy; exact hx
  by_cases hi : i < b.length
  · exact openP_burst hb hX (by simp; omega) (by simp) ⟨x, by simp, h0⟩
  · have hS := isB_sealed hb
    have hne := PCrc.lay_ne (PCrc.sealed b) i x (by rw [sealed_length]; omega) hS hx h0
    have hlen : (PCrc.lay (PCrc.sealed b) [x] i).length = b.length + 4 := by rw [PCrc.lay_length _ _ _ (by rw [sealed_length]; simp; omega), sealed_length]
    have ht : (PCrc.lay (PCrc.sealed b) [x] i).take b.length = b := by
      have e1 : (PCrc.lay (PCrc.sealed b) [x] i).take b.length = ((PCrc.lay (PCrc.sealed b) [x] i).take i).take b.length := by rw [List.take_take, Nat.min_eq_left (by omega)]
      rw [e1, PCrc.lay_take _ _ _ (by rw [sealed_length]; simp; omega), List.take_take, Nat.min_eq_left (by omega)]
      unfold PCrc.sealed; exact List.take_left
    have hB : isB (PCrc.lay (PCrc.sealed b) [x] i) := PCrc.lay_byte i hS hX
    generalize PCrc.lay (PCrc.sealed b) [x] i = D at *
    have hd : (D.drop b.length).length = 4 := by rw [List.length_drop]; omega
    have hD : D = b ++ D.drop b.length := by conv => lhs; rw [← List.take_append_drop b.length D, ht]
    rw [hD]
    refine openP_of hd fun hs => hne ?_
    rw [hD, PCrc.sealed, hs, PCrc.four_told (hB.drop _) hd]

set_option maxRecDepth 100000 in
theorem CrcBurst_w (w : World) (A A' : Option Addr) (c c' n0 n' : Nat) (l l' : List Int) (at_ : Int) (h : Rd w w.heap.size A c 1 n0 (bs l)) (h' : Rd w w.heap.size A' c' 1 n' (bs l')) (hb : isB l) (hb' : isB l') (ht : Tab w)
    (ha1 : -9223372036854775808 ≤ at_) (ha2 : at_ ≤ 9223372036854775807) :
    Calls Tryd.prog 4 #[.slice A n0 c, .int .i64 at_, .slice A' n' c'] w fun e w' => e = .returned (.bool true) ∧ Below w.heap.size w w' := by
  go_enter Tryd.func4, Tryd.ntmps4
  go_wp2_with fail
  refine (begun_c w ht).mono ?_
  rintro e w1 ⟨rfl, hb1⟩
  go_wp2_with fail
  refine (Short_c w1 _ A c n0 l 200 (h.past hb1) (by omega)).mono ?_
  rintro e w2 ⟨A1, c1, rfl, rfl, hr1⟩
  have hB1 : isB (l.take (200 : Int).toNat) := hb.take _
  have hn1 : min n0 (200 : Int).toNat ≤ 200 := Nat.min_le_right ..
  generalize l.take (200 : Int).toNat = b at *
  generalize min n0 (200 : Int).toNat = n at *
  go_wp2_with fail
  refine (Short_c w1 _ A' c' n' l' 4 (h'.past hb1) (by omega)).mono ?_
  rintro e w2 ⟨A2, c2, rfl, rfl, hr2⟩
  have hB2 : isB (l'.take (4 : Int).toNat) := hb'.take _
  have hn2 : min n' (4 : Int).toNat ≤ 4 := Nat.min_le_right ..
  generalize l'.take (4 : Int).toNat = x at *
  generalize min n' (4 : Int).toNat = m at *
  have ht1 := ht.past hb1
  have hsz1 := hb1.size
  clear h h' hb hb' ht
  have hxl := hr2.blen
  have HXL := Lib.hid hxl; clear hxl
  go_wp2_with fail
  go_loop [8, 9] (fun s8 s9 => ∃ (i : Nat) (s : Bool), s8 = .bool s ∧ s9 = .int .i64 i ∧ i ≤ m ∧ (x.take i).any (fun y => y != 0) = s)
    (fun _ s9 => m - (intOf s9).toNat)
  case atStart => exact ⟨0, false, rfl, rfl, by omega, rfl⟩
  case round =>
    obtain ⟨i, s, rfl, rfl, hi, hs⟩ := hrel
    have HS := Lib.hid hs; clear hs
    by_cases hlt : i < m
    · obtain ⟨b2, o2, y, rfl, hc, hd, hy0, hy1, hyl⟩ := hr2.byte hB2 hlt
      clear hyl
      have HD := Lib.hid hd; clear hd
      cases s
      · by_cases hy : y = 0
        · have e1 : (y != 0) = false := by simp [hy]
          have HY := Lib.hid hy; clear hy
          go_wp2
          go_round
          case rel => exact ⟨i + 1, false, rfl, by go_num, by omega, by rw [take_next HD.out, List.any_append, HS.out, HY.out]; rfl⟩
          case measure => simp [intOf]; omega
        · have e1 : (y != 0) = true := by simp [hy]
          have E1 := Lib.hid e1
          clear hy
          go_wp2
          go_round
          case rel => exact ⟨i + 1, true, rfl, by go_num, by omega, by rw [take_next HD.out, List.any_append, HS.out]; simp [E1.out]⟩
          case measure => simp [intOf]; omega
      · go_wp2
        go_round
        case rel => exact ⟨i + 1, true, rfl, by go_num, by omega, by rw [take_next HD.out, List.any_append, HS.out]; rfl⟩
        case measure => simp [intOf]; omega
    · obtain rfl : m = i := by omega
      rw [List.take_of_length_le (by rw [HXL.out]; omega)] at HS
      go_wp2_with fail
      refine (Seal_c w1 _ A1 c1 n b hr1 hB1 ht1 (by omega)).mono ?_
      rintro e w2 ⟨A3, c3, rfl, hown3, hb2⟩
      have hBel2 := hb1.trans (hb2.mono hsz1)
      have ht2 := ht1.past hb2
      have htl := ht1.lt
      have hr2' := hr2.past hb2
      have hsz2 := hBel2.size
      clear hr2 ht1 hb2 hb1 hi hlt
      by_cases q1 : at_ < 0
      · go_wp2
        go_ret
        exact ⟨rfl, hBel2⟩
      obtain ⟨p, rfl⟩ := Int.eq_ofNat_of_zero_le (show 0 ≤ at_ by omega)
      clear q1 ha1
      by_cases q2 : n < p + m
      · have q3 : ¬ ((p : Int) ≤ (n : Int) - (m : Int)) := by omega
        go_wp2
        go_ret
        exact ⟨rfl, hBel2⟩
      have q3 : ((p : Int) ≤ (n : Int) - (m : Int)) := by omega
      cases s
      · go_wp2
        go_ret
        exact ⟨rfl, hBel2⟩
      have hbl := hr1.blen
      have hopen : openP (PCrc.lay (PCrc.sealed b) x p) = ([], false) := by
        refine openP_burst hB1 hB2 (by rw [HXL.out]; omega) (by rw [HXL.out]; omega) ?_
        have := List.any_eq_true.1 HS.out
        obtain ⟨y, hy, h0⟩ := this
        exact ⟨y, hy, by simpa using h0⟩
      have HO := Lib.hid hopen; clear hopen
      have hDl : (PCrc.lay (PCrc.sealed b) x p).length = n + 4 := by rw [PCrc.lay_length _ _ _ (by rw [sealed_length, HXL.out]; omega), sealed_length, hbl]
      have hSl : (PCrc.sealed b).length = n + 4 := by rw [sealed_length, hbl]
      have hDB : isB (PCrc.lay (PCrc.sealed b) x p) := PCrc.lay_byte p (isB_sealed hB1) hB2
      have hDt : (PCrc.lay (PCrc.sealed b) x p).take p = (PCrc.sealed b).take p := PCrc.lay_take _ _ _ (by rw [hSl, HXL.out]; omega)
      have hDd : (PCrc.lay (PCrc.sealed b) x p).drop (p + m) = (PCrc.sealed b).drop (p + m) := by
        have := PCrc.lay_drop (PCrc.sealed b) x p (by rw [hSl, HXL.out]; omega)
        rwa [HXL.out] at this
      have hDg : ∀ j u v, (PCrc.sealed b)[p + j]? = some u → x[j]? = some v → (PCrc.lay (PCrc.sealed b) x p)[p + j]? = some ((u.toNat ^^^ v.toNat : Nat) : Int) := fun j u v h1 h2 => PCrc.lay_get _ _ _ _ (by rw [hSl, HXL.out]; omega) u v h1 h2
      have hSB := isB_sealed hB1
      generalize PCrc.lay (PCrc.sealed b) x p = D at *
      generalize PCrc.sealed b = T at *
      have HDL := Lib.hid hDl; have HSL := Lib.hid hSl; have HDT := Lib.hid hDt; have HDD := Lib.hid hDd; have HDG := Lib.hid hDg; have HBL := Lib.hid hbl
      clear hDl hSl hDt hDd hDg hbl
      obtain ⟨g, rfl, hg1, hg2⟩ := own_some hown3 (by omega)
      go_wp2_with fail
      go_loopw [11] (fun s11 wr => ∃ (j : Nat), s11 = .int .i64 j ∧ j ≤ m ∧ wr.ownsRow w1.heap.size 5 1 (.slice (some ⟨g, 0, none⟩) (n + 4) c3) (n + 4) (bs (D.take (p + j) ++ T.drop (p + j))) ∧ Below w1.heap.size w2 wr ∧ g < wr.heap.size)
        (fun s11 _ => m - (intOf s11).toNat)
      case atStart => exact ⟨0, rfl, by omega, by show w2.ownsRow _ _ _ _ _ (bs (D.take p ++ T.drop p)); rw [HDT.out, List.take_append_drop]; exact hown3, Below.refl _ _, hg2⟩
      case round =>
        obtain ⟨j, rfl, hj, hown, hbr, hgr⟩ := hrel
        by_cases hlt : j < m
        · have hr2w := hr2'.below (hbr.mono hsz1)
          obtain ⟨b2, o2, v, rfl, hcx, hd, hv0, hv1, hvl⟩ := hr2w.byte hB2 hlt
          obtain ⟨u, hu⟩ : ∃ u, T[p + j]? = some u := ⟨_, List.getElem?_eq_getElem (by rw [HSL.out]; omega)⟩
          have hub := hSB u (List.mem_of_getElem? hu)
          have hxv : x[j]? = some v := by
            have := congrArg List.head? hd
            rwa [List.head?_drop] at this
          have hz := HDG.out j u v hu hxv
          have hcg : wr.cell? ⟨g, p + j, none⟩ = some (.int .u8 u) := by
            rw [hown.cellAt (p + j) (by omega), bs, List.getElem?_map, List.getElem?_append_right (by rw [List.length_take]; omega)]
            have e : p + j - (D.take (p + j)).length = 0 := by rw [List.length_take, HDL.out]; omega
            rw [e, List.getElem?_drop, Nat.add_zero, hu]; rfl
          have hfz : wr.frozen? ⟨g, p + j, none⟩ = false := hown.frozenAt (p + j)
          have hst := hown.stored (p + j) (.int .u8 (u.toNat ^^^ v.toNat : Nat))
          have hnext : (bs (D.take (p + j) ++ T.drop (p + j))).set (p + j) (.int .u8 (u.toNat ^^^ v.toNat : Nat)) = bs (D.take (p + (j + 1)) ++ T.drop (p + (j + 1))) := by
            rw [bs, ← List.map_set, PCrc.mix_set D T (by rw [HDL.out, HSL.out]) (p + j) _ hz]; rfl
          rw [hnext] at hst
          obtain ⟨u, rfl⟩ := Int.eq_ofNat_of_zero_le hub.1
          obtain ⟨v, rfl⟩ := Int.eq_ofNat_of_zero_le hv0
          simp only [Int.toNat_natCast] at hst
          have e1 := u8_xor_nat u v (by omega) (by omega)
          have hbB : b2 < wr.heap.size := World.block_lt_of_cell? wr _ hcx
          have HU := Lib.hid hu; clear hu
          have HD := Lib.hid hd; clear hd hvl hxv hz hnext
          go_wp2_with fail
          go_region
          go_wp2
          go_roundw
          case rel => exact ⟨j + 1, by go_num, by omega, hst.1, hbr.trans ((Below.refl _ _).setCell hg1 _).drew, by simpa using hgr⟩
          case measure => simp [intOf]; omega
        · obtain rfl : m = j := by omega
          have hfin : D.take (p + m) ++ T.drop (p + m) = D := by rw [← HDD.out, List.take_append_drop]
          rw [hfin] at hown
          have hr := Rd.of_own hown
          have hBelr := hBel2.trans (hbr.mono hsz1)
          have htr := ht2.in_ htl hbr
          clear hfin hown hbr
          go_wp2_with fail
          refine (Open_c wr _ _ c3 (n + 4) D hr hDB htr (by omega)).mono ?_
          rw [HO.out]
          rintro e w3 ⟨A4, c4, rfl, hC, hb3⟩
          have hsz := hBelr.size
          go_wp2_with fail
          go_ret
          exact ⟨rfl, hBelr.trans (hb3.mono hsz)⟩

end Go.Proofs.YtknmgijfffpomaaDoor
