/- The statements' 'of' and 'begun'. -/
import Derived.Test.YtapfdceopbkcgaaCrossF
import Derived.Test.YtapfdceopbkcgaaKit2
import Derived.Deep.CutRange
import Derived.Deep.CutBlock
import Derived.Deep.LoopGhost
namespace Go.Proofs.Ytapfdceopbkcgaa
open Go.RowKit
open PDrift (pr)
open PCross (at_ cnt)

theorem rgr_info : (Try.prog.info? 31).map (fun i => (i.zero, i.size, i.bytes)) = some (some (.agg #[.int .i64 0, .int .i64 0]), 2, 16) := by kernel_rfl
theorem crg_info : (Try.prog.info? 28).map (fun i => (i.zero, i.size, i.bytes)) = some (some (.agg #[.int .i64 0, .int .i64 0]), 2, 16) := by kernel_rfl

def OfPost (l : List (Int × Int)) (w : World) (e : Ending) (w' : World) : Prop := ∃ (A1 : Option Addr) (c1 : Nat) (A2 : Option Addr) (c2 m : Nat),
  e = .returned (.tuple #[.slice A1 m c1, .slice A2 m c2]) ∧ m ≤ 12 ∧ (l.take 12).length = m ∧ Rd w' w.heap.size A1 c1 2 m (tcs (l.take 12)) ∧ Rd w' w'.heap.size A2 c2 2 m (tcs (l.take 12)) ∧ Below w.heap.size w w'

set_option maxHeartbeats 1000000 in
set_option maxRecDepth 100000 in
theorem of_c (w : World) (A : Option Addr) (c n : Nat) (l : List (Int × Int)) (h : Rd w w.heap.size A c 2 n (tcs l)) :
    Calls Try.prog 10 #[.slice A n c] w fun e w' => OfPost l w e w' := by
  have hln := h.plen
  have hcap := h.cap
  have hle := h.le
  unfold maxLen at hcap
  have R0 := Lib.hid h
  have tz : ∀ w, Sem.run Try.prog (zeroValue 31) w = .ok (.agg #[.int .i64 0, .int .i64 0]) w := Try.zeroValue31
  clear h
  go_enter Try.func10, Try.ntmps10
  go_upto_if 8 with fail
  go_cut [0] from 8 (fun s0 wx => ∃ (A0 : Option Addr) (c0 m : Nat), s0 = .slice A0 m c0 ∧ m ≤ 12 ∧ Hid ((l.take 12).length = m) ∧ Hid (Rd w w.heap.size A0 c0 2 m (tcs (l.take 12))) ∧ w = wx)
  case first =>
    by_cases hn : n ≤ 12
    · have HL := Lib.hid (show l.take 12 = l from List.take_of_length_le (by omega))
      go_wp2_with fail
      go_meet
      case rel => exact ⟨A, c, n, rfl, hn, Lib.hid (by rw [HL.out]; exact hln), Lib.hid (by rw [HL.out]; exact R0.out), rfl⟩
    · go_wp2_with ((with_reducible show wpList _ _ _ ((⟨some 10, Op.slice _ _ _ _ _, _, _, _, _⟩ : Oper) :: _) _ _); go_must (refine wpList_cut rfl 22 _ _ _ rfl 28 _ 2 16 Try.underlying22 crg_info _ A c n (tcs l) rfl R0.out 0 12 (.inl ⟨rfl, rfl⟩) (.inr rfl) (by omega) (by omega) ?_))
      intro A' c' R'
      have R1 := Lib.hid (show Rd w w.heap.size A' c' 2 12 (tcs (l.take 12)) by rw [← tcs_take l 12 (by omega)]; exact R')
      clear R'
      go_wp2_with fail
      go_meet
      case rel => exact ⟨A', c', 12, rfl, by omega, Lib.hid (by simp; omega), R1, rfl⟩
  case rest =>
    obtain ⟨A0, c0, m, rfl, hm, HLM, R1, rfl⟩ := hcut
    obtain ⟨L, hL⟩ : ∃ L, l.take 12 = L := ⟨_, rfl⟩
    rw [hL] at HLM R1
    have HEQ := Lib.hid hL
    clear hL
    clear R0
    go_wp2_with fail
    go_loopw [4, 5] (fun s4 s5 wr => ∃ (i : Nat) (A1 : Option Addr) (c1 : Nat), i ≤ m ∧ s4 = .slice A1 i c1 ∧ s5 = .int .i64 i ∧ Hid (wr.ownsRow w.heap.size 31 2 (.slice A1 i c1) i (tcs (L.take i))) ∧ Hid (Rd wr w.heap.size A0 c0 2 m (tcs L)) ∧ Hid (Below w.heap.size w wr)) (fun _ s5 _ => m - (intOf s5).toNat)
    case atStart => exact ⟨0, none, 0, by omega, rfl, rfl, Lib.hid (World.ownsRow_nil _ _ _ _), R1, Lib.hid (Below.refl _ _)⟩
    case round =>
      clear R1
      obtain ⟨i, A1, c1, hi, rfl, rfl, OW, RT, BT⟩ := hrel
      by_cases hin : i < m
      · obtain ⟨b, o, hA, hbB, k1, k2⟩ := RT.out.pairB hin
        have hs := BT.out.size
        subst hA
        obtain ⟨x, hx⟩ : ∃ x, x = (pr L i).1 := ⟨_, rfl⟩
        obtain ⟨y, hy⟩ : ∃ y, y = (pr L i).2 := ⟨_, rfl⟩
        rw [← hx] at k1
        rw [← hy] at k2
        have HP := Lib.hid (show pr L i = (x, y) by rw [hx, hy])
        have C1 := Lib.hid k1
        have C2 := Lib.hid k2
        clear hx hy k1 k2
        go_wp2_with fail
-- REGION curfew/curfewlaw10.of 7 crossof7 8
        refine Hb.beginB (B := w.heap.size) ?_
        refine Hb.take 0 17 rfl ?_ (fun w' hw' => by go_simp; first | done | rfl)
        refine Hb.take (v := .slice (some ⟨b, o, none⟩) m c0) 1 18 rfl ?_ (fun _ _ => rfl)
        refine Hb.take (v := .int .i64 (i : Int)) 2 19 rfl ?_ (fun _ _ => rfl)
        refine Hb.take (v := .pointer (some ⟨b, o + i * 2, none⟩)) 3 20 rfl ?_ (fun w' hw' => by go_simp; first | done | rfl | omega | exact wrap_in (by omega) (by omega) | exact Int.tmod_eq_emod_of_nonneg (by omega) | exact Int.tdiv_eq_ediv_of_nonneg (by omega) | (simp; omega))
        refine Hb.take (v := .pointer (some ⟨b, o + i * 2, none⟩)) 4 21 rfl ?_ (fun w' hw' => by go_simp; first | done | rfl | omega | exact wrap_in (by omega) (by omega) | exact Int.tmod_eq_emod_of_nonneg (by omega) | exact Int.tdiv_eq_ediv_of_nonneg (by omega) | (simp; omega))
        refine Hb.take (v := .int .i64 x) 5 22 rfl ?_ (fun w' hw' => by have cc := (hw'.cell (p := ⟨b, o + i * 2, none⟩) hbB).trans C1.out; go_simp)
        refine Hb.take (v := .slice (some ⟨b, o, none⟩) m c0) 6 23 rfl ?_ (fun _ _ => rfl)
        refine Hb.take (v := .int .i64 (i : Int)) 7 24 rfl ?_ (fun _ _ => rfl)
        refine Hb.take (v := .pointer (some ⟨b, o + i * 2, none⟩)) 8 25 rfl ?_ (fun w' hw' => by go_simp; first | done | rfl | omega | exact wrap_in (by omega) (by omega) | exact Int.tmod_eq_emod_of_nonneg (by omega) | exact Int.tdiv_eq_ediv_of_nonneg (by omega) | (simp; omega))
        refine Hb.take (v := .pointer (some ⟨b, o + i * 2 + 1, none⟩)) 9 26 rfl ?_ (fun w' hw' => by go_simp; first | done | rfl | omega | exact wrap_in (by omega) (by omega) | exact Int.tmod_eq_emod_of_nonneg (by omega) | exact Int.tdiv_eq_ediv_of_nonneg (by omega) | (simp; omega))
        refine Hb.take (v := .int .i64 y) 10 27 rfl ?_ (fun w' hw' => by have cc := (hw'.cell (p := ⟨b, o + i * 2 + 1, none⟩) hbB).trans C2.out; go_simp)
        refine Hb.take (v := .agg #[.int .i64 x, .int .i64 y]) 11 28 rfl ?_ (fun w' hw' => by go_simp; first | done | rfl | omega | exact wrap_in (by omega) (by omega) | exact Int.tmod_eq_emod_of_nonneg (by omega) | exact Int.tdiv_eq_ediv_of_nonneg (by omega) | (simp; omega))
        refine Hb.only 12 (some 29) rfl ?_
        refine wpList_build2 rfl 24 31 (.tmp 28) rfl Try.underlying24 Try.sizeOf31 tz (.int .i64 x) (.int .i64 y) rfl ?_
        have bel2 : Below wr.drew.heap.size wr.drew (wr.drew.alloc (.cells #[.int .i64 x, .int .i64 y] 31)) := (Below.refl _ _).alloc (Nat.le_refl _) _
        have N2 : Rd (wr.drew.alloc (.cells #[.int .i64 x, .int .i64 y] 31)) (wr.drew.alloc (.cells #[.int .i64 x, .int .i64 y] 31)).heap.size (some ⟨wr.drew.heap.size, 0, none⟩) 1 2 1 (tcs [(x, y)]) := Rd.one _ (x, y) _
        have O2 := Lib.hid (own_below OW.out.drew bel2)
        have R2 := Lib.hid (RT.out.drew.past bel2)
        have B2 := Lib.hid (BT.out.drew.trans (bel2.mono BT.out.size))
        refine Hb.next (bel2.mono BT.out.size) (Nat.le_refl _) ?_ (by simp only [Act.put, List.setIfInBounds_toArray, List.set_cons_succ, List.set_cons_zero]; rfl)
        generalize wr.drew.alloc (.cells #[.int .i64 x, .int .i64 y] 31) = w2 at *
        refine Hb.only 13 (some 30) rfl ?_
        refine wpList_app rfl (.tmp 17) (.tmp 29) 24 rfl w.heap.size 31 _ 2 16 Try.underlying24 rgr_info rfl (by omega) _ i (tcs (L.take i)) rfl O2.out _ _ 1 1 (tcs [(x, y)]) rfl N2 (tcs_one _) ?d1 ?d2 ?d3 ?_
        case d1 => unfold maxLen; omega
        case d2 => omega
        case d3 => have := bel2.size; have := BT.out.size; exact Nat.le_trans BT.out.size bel2.size
        intro A3 c3 w3 O3 g3 b3
        have R3 := Lib.hid (R2.out.below b3)
        have B3 := Lib.hid (B2.out.trans b3)
        refine Hb.next b3 (Nat.le_refl _) ?_
        refine Hb.take 14 4 rfl ?_ (fun w' hw' => by go_simp; first | done | rfl)
        refine Hb.done ?_
-- END
        go_wp2_with fail
        go_roundw
        case rel => exact ⟨i + 1, A3, c3, by omega, rfl, by go_num, Lib.hid (by rw [take_succ_pr (by have := HLM.out; omega), HP.out, tcs_app]; exact O3), R3, B3⟩
        case measure => simp [intOf]; omega
      · obtain rfl : i = m := by omega
        have hq := OW.out
        rw [List.take_of_length_le (by have := HLM.out; omega)] at hq
        have HO := Lib.hid (Rd.of_own hq)
        clear hq OW
        go_wp2_with fail
        go_ret2
        exact ⟨A0, c0, A1, c1, i, rfl, hm, by rw [HEQ.out]; exact HLM.out, by rw [HEQ.out]; exact RT.out, by rw [HEQ.out]; exact HO.out, BT.out⟩

def L0 : List (Int × Int) := [(0, 10), (5, 15), (8, 9)]
theorem cnt0 (t : Int) : cnt L0 t = (if 0 ≤ t ∧ t ≤ 10 then 1 else 0) + (if 5 ≤ t ∧ t ≤ 15 then 1 else 0) + if 8 ≤ t ∧ t ≤ 9 then 1 else 0 := by
  have e : L0 = ([(0, 10)] ++ [(5, 15)]) ++ [(8, 9)] := rfl
  rw [e, PCross.cnt_app, PCross.cnt_app, PCross.cnt_one, PCross.cnt_one, PCross.cnt_one]
  rfl
theorem best0 : PCross.IsBest L0 8 9 3 := by
  refine ⟨⟨fun t => PCross.cnt_le L0 t, (fun h => by cases h), fun _ => ⟨by decide, fun t ht => ?_⟩⟩, (fun h => by cases h), fun _ => ⟨by decide, fun t h1 h2 => ?_, by decide⟩⟩
  · rw [cnt0, if_neg (show ¬ (8 ≤ t ∧ t ≤ 9) by omega)]; split <;> split <;> omega
  · rw [cnt0, if_pos (show 0 ≤ t ∧ t ≤ 10 by omega), if_pos (show 5 ≤ t ∧ t ≤ 15 by omega), if_pos (show 8 ≤ t ∧ t ≤ 9 by omega)]
theorem most0 : PCross.IsMost L0 2 5 10 true := by
  refine ⟨(fun h => by cases h), fun _ => ⟨by decide, by decide, by decide, fun t h => ?_⟩⟩
  rw [cnt0] at h
  by_cases a : 0 ≤ t ∧ t ≤ 10
  · by_cases b : 5 ≤ t ∧ t ≤ 15
    · omega
    · rw [if_pos a, if_neg b, if_neg (show ¬ (8 ≤ t ∧ t ≤ 9) by omega)] at h; omega
  · rw [if_neg a, if_neg (show ¬ (8 ≤ t ∧ t ≤ 9) by omega)] at h
    split at h <;> omega
theorem fits0 : PCross.Fits L0 := by
  intro p hp
  simp only [L0, List.mem_cons, List.not_mem_nil, or_false] at hp
  rcases hp with rfl | rfl | rfl <;> decide

set_option maxHeartbeats 1000000 in
set_option maxRecDepth 100000 in
theorem begun_c (w : World) :
    Calls Try.prog 9 #[] w fun e w' => e = .returned (.bool true) ∧ Below w.heap.size w w' := by
  have H3 := Lib.hid (show cnt L0 9 = 3 by decide)
  go_enter Try.func9, Try.ntmps9
  go_wp2_with fail
  have b1 := Lib.hid ((Below.refl w.heap.size w).alloc (Nat.le_refl _) (.cells #[.int .i64 0, .int .i64 10, .int .i64 5, .int .i64 15, .int .i64 8, .int .i64 9] 28))
  have K := Blk.new w #[.int .i64 0, .int .i64 10, .int .i64 5, .int .i64 15, .int .i64 8, .int .i64 9] 28
  have R1 := Lib.hid (show Rd (w.alloc (.cells #[.int .i64 0, .int .i64 10, .int .i64 5, .int .i64 15, .int .i64 8, .int .i64 9] 28)) (w.alloc (.cells #[.int .i64 0, .int .i64 10, .int .i64 5, .int .i64 15, .int .i64 8, .int .i64 9] 28)).heap.size (some ⟨w.heap.size, 0, none⟩) 3 2 3 (tcs L0) from
    ⟨rfl, Nat.le_refl _, by simp [maxLen], (fun h => by cases h), fun _ => ⟨w.heap.size, 0, rfl, by simp, fun j u hu => by rw [Nat.zero_add]; exact K.cell hu⟩⟩)
  clear K
  generalize w.alloc (.cells #[.int .i64 0, .int .i64 10, .int .i64 5, .int .i64 15, .int .i64 8, .int .i64 9] 28) = w1 at *
  refine (cBest_c w1 _ _ _ L0 R1.out (by omega) fits0).mono ?_
  rintro e w2 ⟨lo, hi, k, rfl, b2, hk, hB⟩
  obtain ⟨rfl, rfl, rfl⟩ := PCross.IsBest.uniq (fun _ => rfl) hB best0
  unfold rg
  have R2 := (R1.out.past b2).past ((Below.refl w2.heap.size w2).alloc (Nat.le_refl _) (.cells #[.int .i64 8, .int .i64 9] 28))
  have K2 := Blk.new w2 #[.int .i64 8, .int .i64 9] 28
  have B2 := (b1.out.trans (b2.mono b1.out.size)).alloc (Nat.le_trans b1.out.size b2.size) (.cells #[.int .i64 8, .int .i64 9] 28)
  clear R1 b1 hk hB
  go_wp2_with fail
  generalize w2.alloc (.cells #[.int .i64 8, .int .i64 9] 28) = w3 at *
  generalize w2.heap.size = g at *
  have R2 := Lib.hid R2.tight
  have K2 := Lib.hid K2
  have B2 := Lib.hid B2
  clear b2
  refine (cMost_c w3 _ _ _ L0 R2.out (by omega) 2).mono ?_
  rintro e w4 ⟨lo, hi, ok, rfl, b4, hM⟩
  obtain ⟨rfl, rfl, rfl⟩ := PCross.IsMost.uniq (fun _ => rfl) hM most0
  unfold rg
  have b5 := (Below.refl w4.heap.size w4).alloc (Nat.le_refl _) (.cells #[.int .i64 5, .int .i64 10] 28)
  have R4 := (R2.out.past b4).past b5
  have K4 := (K2.out.past b4).past b5
  have K5 := Blk.new w4 #[.int .i64 5, .int .i64 10] 28
  have B4 := (B2.out.trans (b4.mono B2.out.size)).trans (b5.mono (Nat.le_trans B2.out.size b4.size))
  clear R2 K2 B2 hM
  go_wp2_with fail
  generalize w4.alloc (.cells #[.int .i64 5, .int .i64 10] 28) = w5 at *
  generalize w4.heap.size = g' at *
  have R4 := Lib.hid R4.tight
  have B4 := Lib.hid B4
  have K4 := Lib.hid K4
  have K5 := Lib.hid K5
  clear b4 b5
  refine (cCount_c w5 _ _ _ L0 R4.out (by omega) 9).mono ?_
  rw [H3.out]
  rintro e w6 ⟨rfl, b6⟩
  have k0 := (K4.out.past b6).cell (i := 0) rfl
  have k1 := (K4.out.past b6).cell (i := 1) rfl
  have k2 := (K5.out.past b6).cell (i := 0) rfl
  have k3 := (K5.out.past b6).cell (i := 1) rfl
  have B6 := Lib.hid (B4.out.trans (b6.mono B4.out.size))
  clear b6
  go_wp2_with fail
  go_ret
  exact ⟨rfl, B6.out⟩
end Go.Proofs.Ytapfdceopbkcgaa
