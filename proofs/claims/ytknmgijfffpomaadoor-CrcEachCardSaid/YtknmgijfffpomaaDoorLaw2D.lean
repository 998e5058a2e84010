/- The walk of CrcEach. -/
import Derived.Test.YtknmgijfffpomaaDoorLaw2B
import Derived.Test.YtknmgijfffpomaaDoorKit2
namespace Go.Proofs.YtknmgijfffpomaaDoor
open Go.RowKit

set_option maxRecDepth 100000 in
theorem CrcEach_w (w : World) (A : Option Addr) (c n0 : Nat) (l : List Int) (x : Int) (h : Rd w w.heap.size A c 1 n0 (bs l)) (hb : isB l) (ht : Tab w) (hx0 : 0 ≤ x) (hx1 : x < 256) :
    Calls Tryd.prog 6 #[.slice A n0 c, .int .u8 x] w fun e w' => e = .returned (.bool true) ∧ Below w.heap.size w w' := by
  obtain ⟨x, rfl⟩ := Int.eq_ofNat_of_zero_le hx0
  go_enter Tryd.func6, Tryd.ntmps6
  go_wp2_with fail
  refine (begun_c w ht).mono ?_
  rintro e w1 ⟨rfl, hb1⟩
  have ht1 := ht.past hb1
  have hsz1 := hb1.size
  have hr0 := h.past hb1
  clear h ht
  by_cases h60 : 60 < n0
  · obtain ⟨n, hn60⟩ : ∃ n, n = 60 := ⟨_, rfl⟩
    have hn1 : n ≤ 60 := by omega
    have hn2 : 60 ≤ n := by omega
    clear hn60
    go_wp2_with (with_reducible show wpList _ _ _ ((⟨some 18, Op.slice 22 _ _ _ _, _, _, _, _⟩ : Oper) :: _) _ _
                 go_must (refine wpList_cutI rfl 22 (.tmp 17) _ _ rfl 5 _ 1 1 Tryd.underlying22 byte_info _ A c n0 (bs l) rfl hr0 0 n 0 60 (.inl ⟨rfl, rfl⟩) (.inr ⟨rfl, by omega⟩) (by omega) (by omega) ?_))
    intro A1 c1 hr1
    rw [← bs_take] at hr1
    have hB1 : isB (l.take n) := hb.take _
    generalize l.take n = b at *
    clear hr0 hb h60 hn2
    have hlb := hr1.blen
    have HLB := Lib.hid hlb; clear hlb
    go_wp2_with fail
    refine (Seal_c w1 _ _ _ _ b hr1 hB1 ht1 (by omega)).mono ?_
    rintro e w2 ⟨A3, c3, rfl, hown3, hb2⟩
    have hBel2 := hb1.trans (hb2.mono hsz1)
    have ht2 := ht1.past hb2
    have hsz2 := hBel2.size
    have hS := Rd.of_own hown3
    have hlen : (PCrc.sealed b).length = n + 4 := by rw [sealed_length, HLB.out]
    have HLEN := Lib.hid hlen; clear hlen
    have hSB := isB_sealed hB1
    clear hb1 hb2 hown3 ht1
    by_cases hx00 : x = 0
    · subst hx00
      go_wp2
      go_ret
      exact ⟨rfl, hBel2⟩
    have hxne : ((x : Int) == 0) = false := by simp; omega
    go_wp2_with fail
    go_loopw [7] (fun s7 wr => ∃ (j : Nat), s7 = .int .i64 j ∧ j ≤ n + 4 ∧ Below w2.heap.size w2 wr) (fun s7 _ => n + 4 - (intOf s7).toNat)
    case atStart => exact ⟨0, rfl, by omega, Below.refl _ _⟩
    case round =>
      obtain ⟨j, rfl, hj, hbr⟩ := hrel
      have hSr := hS.past hbr
      have htr := ht2.past hbr
      have hszr := hbr.size
      by_cases hlt : j < n + 4
      · go_wp2_with (at_builtin; go_must (refine wpList_app rfl (.const (.slice none 0 0)) (.tmp 29) _ rfl wr.heap.size 5 _ 1 1 Tryd.underlying22 byte_info rfl (by omega) _ 0 [] rfl (World.ownsRow_nil _ _ _ _) _ A3 c3 (n + 4) (bs (PCrc.sealed b)) rfl hSr (bs_one _) (by unfold maxLen; omega) (by omega) (Nat.le_refl _) ?_))
        intro A4 c4 w4 hown4 hgrow4 hb4
        have hown5 : w4.ownsRow wr.heap.size 5 1 (.slice A4 (n + 4) c4) (n + 4) (bs (PCrc.sealed b)) := by simpa using hown4
        clear hown4
        obtain ⟨g, rfl, hg1, hg2⟩ := own_some hown5 (by omega)
        obtain ⟨u, hu⟩ : ∃ u, (PCrc.sealed b)[j]? = some u := ⟨_, List.getElem?_eq_getElem (by rw [HLEN.out]; omega)⟩
        have hub := hSB u (List.mem_of_getElem? hu)
        have hcg : w4.cell? ⟨g, j, none⟩ = some (.int .u8 u) := by
          rw [hown5.cellAt j (by omega), bs, List.getElem?_map, hu]; rfl
        have hfz : w4.frozen? ⟨g, j, none⟩ = false := hown5.frozenAt j
        have hst := hown5.stored j (.int .u8 (u.toNat ^^^ x : Nat))
        have hnext : (bs (PCrc.sealed b)).set j (.int .u8 (u.toNat ^^^ x : Nat)) = bs (PCrc.lay (PCrc.sealed b) [(x : Int)] j) := by
          rw [bs, ← List.map_set, PCrc.lay_one _ j u x hu]; rfl
        rw [hnext] at hst
        obtain ⟨u, rfl⟩ := Int.eq_ofNat_of_zero_le hub.1
        simp only [Int.toNat_natCast] at hst
        have e1 := u8_xor_nat u x (by omega) (by omega)
        have hopen := openP_each hB1 ⟨hx0, hx1⟩ (i := j) (by rw [HLB.out]; exact hlt) (by omega : (x : Int) ≠ 0)
        have hDB : isB (PCrc.lay (PCrc.sealed b) [(x : Int)] j) := PCrc.lay_byte j hSB (by intro y hy; simp at hy; subst hy; exact ⟨hx0, hx1⟩)
        generalize PCrc.lay (PCrc.sealed b) [(x : Int)] j = D at *
        have HO := Lib.hid hopen
        clear hu hnext hopen hgrow4
        have hrD := Rd.of_own hst.1
        have hbst : Below wr.heap.size wr (w4.setCell ⟨g, j, none⟩ (.int .u8 (u ^^^ x : Nat))) := hb4.trans ((Below.refl _ _).setCell (p := ⟨g, j, none⟩) hg1 _)
        have hszst := hbst.size
        have htst := htr.past hbst
        clear hst hown5 hb4
        go_wp2_with fail
        clear hcg hfz
        generalize w4.setCell ⟨g, j, none⟩ (.int .u8 (u ^^^ x : Nat)) = w5 at *
        refine (Open_c w5 _ _ c4 (n + 4) D hrD hDB htst (by omega)).mono ?_
        rw [HO.out]
        rintro e w6 ⟨A6, c6, rfl, hC, hb6⟩
        clear hC
        go_wp2_with fail
        go_roundw
        case rel => exact ⟨j + 1, by go_num, by omega, hbr.trans ((hbst.trans (hb6.mono hszst)).mono hszr)⟩
        case measure => simp [intOf]; omega
      · obtain rfl : j = n + 4 := by omega
        go_wp2_with fail
        go_ret
        exact ⟨by first | rfl | simp, hBel2.trans (hbr.mono hsz2)⟩
  · have hn1 : n0 ≤ 60 := by omega
    have hr1 := hr0
    have hB1 := hb
    clear hr0 hb
    have hlb := hr1.blen
    have HLB := Lib.hid hlb; clear hlb
    go_wp2_with fail
    refine (Seal_c w1 _ _ _ _ l hr1 hB1 ht1 (by omega)).mono ?_
    rintro e w2 ⟨A3, c3, rfl, hown3, hb2⟩
    have hBel2 := hb1.trans (hb2.mono hsz1)
    have ht2 := ht1.past hb2
    have hsz2 := hBel2.size
    have hS := Rd.of_own hown3
    have hlen : (PCrc.sealed l).length = n0 + 4 := by rw [sealed_length, HLB.out]
    have HLEN := Lib.hid hlen; clear hlen
    have hSB := isB_sealed hB1
    clear hb1 hb2 hown3 ht1
    by_cases hx00 : x = 0
    · subst hx00
      go_wp2
      go_ret
      exact ⟨rfl, hBel2⟩
    have hxne : ((x : Int) == 0) = false := by simp; omega
    go_wp2_with fail
    go_loopw [7] (fun s7 wr => ∃ (j : Nat), s7 = .int .i64 j ∧ j ≤ n0 + 4 ∧ Below w2.heap.size w2 wr) (fun s7 _ => n0 + 4 - (intOf s7).toNat)
    case atStart => exact ⟨0, rfl, by omega, Below.refl _ _⟩
    case round =>
      obtain ⟨j, rfl, hj, hbr⟩ := hrel
      have hSr := hS.past hbr
      have htr := ht2.past hbr
      have hszr := hbr.size
      by_cases hlt : j < n0 + 4
      · go_wp2_with (at_builtin; go_must (refine wpList_app rfl (.const (.slice none 0 0)) (.tmp 29) _ rfl wr.heap.size 5 _ 1 1 Tryd.underlying22 byte_info rfl (by omega) _ 0 [] rfl (World.ownsRow_nil _ _ _ _) _ A3 c3 (n0 + 4) (bs (PCrc.sealed l)) rfl hSr (bs_one _) (by unfold maxLen; omega) (by omega) (Nat.le_refl _) ?_))
        intro A4 c4 w4 hown4 hgrow4 hb4
        have hown5 : w4.ownsRow wr.heap.size 5 1 (.slice A4 (n0 + 4) c4) (n0 + 4) (bs (PCrc.sealed l)) := by simpa using hown4
        clear hown4
        obtain ⟨g, rfl, hg1, hg2⟩ := own_some hown5 (by omega)
        obtain ⟨u, hu⟩ : ∃ u, (PCrc.sealed l)[j]? = some u := ⟨_, List.getElem?_eq_getElem (by rw [HLEN.out]; omega)⟩
        have hub := hSB u (List.mem_of_getElem? hu)
        have hcg : w4.cell? ⟨g, j, none⟩ = some (.int .u8 u) := by
          rw [hown5.cellAt j (by omega), bs, List.getElem?_map, hu]; rfl
        have hfz : w4.frozen? ⟨g, j, none⟩ = false := hown5.frozenAt j
        have hst := hown5.stored j (.int .u8 (u.toNat ^^^ x : Nat))
        have hnext : (bs (PCrc.sealed l)).set j (.int .u8 (u.toNat ^^^ x : Nat)) = bs (PCrc.lay (PCrc.sealed l) [(x : Int)] j) := by
          rw [bs, ← List.map_set, PCrc.lay_one _ j u x hu]; rfl
        rw [hnext] at hst
        obtain ⟨u, rfl⟩ := Int.eq_ofNat_of_zero_le hub.1
        simp only [Int.toNat_natCast] at hst
        have e1 := u8_xor_nat u x (by omega) (by omega)
        have hopen := openP_each hB1 ⟨hx0, hx1⟩ (i := j) (by rw [HLB.out]; exact hlt) (by omega : (x : Int) ≠ 0)
        have hDB : isB (PCrc.lay (PCrc.sealed l) [(x : Int)] j) := PCrc.lay_byte j hSB (by intro y hy; simp at hy; subst hy; exact ⟨hx0, hx1⟩)
        generalize PCrc.lay (PCrc.sealed l) [(x : Int)] j = D at *
        have HO := Lib.hid hopen
        clear hu hnext hopen hgrow4
        have hrD := Rd.of_own hst.1
        have hbst : Below wr.heap.size wr (w4.setCell ⟨g, j, none⟩ (.int .u8 (u ^^^ x : Nat))) := hb4.trans ((Below.refl _ _).setCell (p := ⟨g, j, none⟩) hg1 _)
        have hszst := hbst.size
        have htst := htr.past hbst
        clear hst hown5 hb4
        go_wp2_with fail
        clear hcg hfz
        generalize w4.setCell ⟨g, j, none⟩ (.int .u8 (u ^^^ x : Nat)) = w5 at *
        refine (Open_c w5 _ _ c4 (n0 + 4) D hrD hDB htst (by omega)).mono ?_
        rw [HO.out]
        rintro e w6 ⟨A6, c6, rfl, hC, hb6⟩
        clear hC
        go_wp2_with fail
        go_roundw
        case rel => exact ⟨j + 1, by go_num, by omega, hbr.trans ((hbst.trans (hb6.mono hszst)).mono hszr)⟩
        case measure => simp [intOf]; omega
      · obtain rfl : j = n0 + 4 := by omega
        go_wp2_with fail
        go_ret
        exact ⟨by first | rfl | simp, hBel2.trans (hbr.mono hsz2)⟩

end Go.Proofs.YtknmgijfffpomaaDoor
