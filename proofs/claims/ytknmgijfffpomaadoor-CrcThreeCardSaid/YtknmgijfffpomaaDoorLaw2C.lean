/- The walk of CrcThree. -/
import Derived.Test.YtknmgijfffpomaaDoorCrcF
import Derived.Test.YtknmgijfffpomaaDoorLaid
import Derived.Test.YtknmgijfffpomaaDoorPlainCrc2
import Derived.BigRegion
namespace Go.Proofs.YtknmgijfffpomaaDoor
open Go.RowKit

set_option maxRecDepth 100000 in
theorem CrcThree_w (w : World) (A0 A1 A2 : Option Addr) (c0 c1 c2 n0 n1 n2 : Nat) (l0 l1 l2 : List Int) (h0 : Rd w w.heap.size A0 c0 1 n0 (bs l0)) (h1 : Rd w w.heap.size A1 c1 1 n1 (bs l1)) (h2 : Rd w w.heap.size A2 c2 1 n2 (bs l2))
    (hb0 : isB l0) (hb1 : isB l1) (hb2 : isB l2) (ht : Tab w) :
    Calls Tryd.prog 5 #[.slice A0 n0 c0, .slice A1 n1 c1, .slice A2 n2 c2] w fun e w' => e = .returned (.bool true) ∧ Below w.heap.size w w' := by
  obtain ⟨i0, hi, hz0, hz1, hz2⟩ := info_parts byte_info
  go_enter Tryd.func5, Tryd.ntmps5
  go_wp2_with fail
  refine (begun_c w ht).mono ?_
  rintro e w1 ⟨rfl, hb1'⟩
  go_wp2_with (first
    | (with_reducible show wpList _ _ _ ((⟨some 16, _, _, _, _, _⟩ : Oper) :: _) _ _
       go_must (refine wpList_min rfl (.tmp 15) (.const (.int .i64 100)) _ rfl n0 100 rfl rfl ?_))
    | (with_reducible show wpList _ _ _ ((⟨some 21, _, _, _, _, _⟩ : Oper) :: _) _ _
       go_must (refine wpList_min rfl (.tmp 18) (.tmp 20) _ rfl n1 n2 rfl rfl ?_))
    | (with_reducible show wpList _ _ _ ((⟨some 22, _, _, _, _, _⟩ : Oper) :: _) _ _
       go_must (refine wpList_min rfl (.tmp 16) (.tmp 21) _ rfl (min n0 100) (min n1 n2) rfl rfl ?_))
    | (at_make; go_must (refine wpList_make_full _ rfl _ _ 22 rfl w1.heap.size 5 i0 (.int .u8 0) 1 Tryd.underlying22 hi hz0 hz1 _ _ _ _ (min n0 (min 100 (min n1 n2))) rfl rfl rfl rfl ?b2 ?b3 (Nat.le_refl _) ?_)))
  case b2 => rw [hz2]; omega
  case b3 => unfold maxLen; omega
  have k0 : min n0 (min 100 (min n1 n2)) ≤ n0 := by omega
  have k1 : min n0 (min 100 (min n1 n2)) ≤ n1 := by omega
  have k2 : min n0 (min 100 (min n1 n2)) ≤ n2 := by omega
  have k3 : min n0 (min 100 (min n1 n2)) ≤ 100 := by omega
  generalize min n0 (min 100 (min n1 n2)) = n at *
  intro w2 hown2 hgrow2
  have hbm : Below w1.heap.size w1 w2 := (Below.refl _ _).grown hgrow2 (Nat.le_refl _) (fun k h => by cases h)
  have hsz1 := hb1'.size
  have ht2 : Tab w2 := (ht.past hb1').past hbm
  have hl0 := h0.blen; have hl1 := h1.blen; have hl2 := h2.blen
  have L0 := Lib.hid hl0; have L1 := Lib.hid hl1; have L2 := Lib.hid hl2
  have t0 : (l0.take n).length = n := by rw [List.length_take]; omega
  have t1 : (l1.take n).length = n := by rw [List.length_take]; omega
  have t2 : (l2.take n).length = n := by rw [List.length_take]; omega
  have t01 : (PCrc.xors (l0.take n) (l1.take n)).length = n := by rw [PCrc.xors_length _ _ (by rw [t0, t1]), t0]
  have tD : (PCrc.xors (PCrc.xors (l0.take n) (l1.take n)) (l2.take n)).length = n := by rw [PCrc.xors_length _ _ (by rw [t01, t2]), t01]
  have hDB : isB (PCrc.xors (PCrc.xors (l0.take n) (l1.take n)) (l2.take n)) := PCrc.xors_byte (PCrc.xors_byte (hb0.take _) (hb1.take _)) (hb2.take _)
  have hsum := PCrc.sum_three (l0.take n) (l1.take n) (l2.take n) (by rw [t0, t1]) (by rw [t0, t2])
  have hget : ∀ j u0 u1 u2, j < n → l0[j]? = some u0 → l1[j]? = some u1 → l2[j]? = some u2 → (PCrc.xors (PCrc.xors (l0.take n) (l1.take n)) (l2.take n))[j]? = some (((u0.toNat ^^^ u1.toNat) ^^^ u2.toNat : Nat) : Int) := by
    intro j u0 u1 u2 hj e0 e1 e2
    have := PCrc.xors_get (PCrc.xors (l0.take n) (l1.take n)) (l2.take n) j _ u2 (PCrc.xors_get (l0.take n) (l1.take n) j u0 u1 (by rw [List.getElem?_take, if_pos hj, e0]) (by rw [List.getElem?_take, if_pos hj, e1])) (by rw [List.getElem?_take, if_pos hj, e2])
    simpa using this
  generalize PCrc.xors (PCrc.xors (l0.take n) (l1.take n)) (l2.take n) = D at *
  have HD := Lib.hid tD; have HS := Lib.hid hsum; have HG := Lib.hid hget
  clear t0 t1 t2 t01 tD hsum hget hl0 hl1 hl2
  have hown2' : w2.ownsRow w1.heap.size 5 1 (.slice (some ⟨w1.heap.size, 0, none⟩) n n) n (bs (List.replicate n 0)) := by
    simpa [toList_madeCells_one, bs, Value.cells] using hown2
  clear hown2 hgrow2 hi hz0 hz1 hz2
  have hr0 := (h0.past hb1').below (hbm.mono hsz1)
  have hr1 := (h1.past hb1').below (hbm.mono hsz1)
  have hr2 := (h2.past hb1').below (hbm.mono hsz1)
  have hBel2 := hb1'.trans (hbm.mono hsz1)
  have htl := (ht.past hb1').lt
  clear h0 h1 h2 hbm hb1' ht
  go_wp2_with fail
  go_loopw [10] (fun s10 wr => ∃ (j : Nat), s10 = .int .i64 j ∧ j ≤ n ∧ wr.ownsRow w1.heap.size 5 1 (.slice (some ⟨w1.heap.size, 0, none⟩) n n) n (bs (D.take j ++ (List.replicate n 0).drop j)) ∧ Below w1.heap.size w2 wr)
    (fun s10 _ => n - (intOf s10).toNat)
  case atStart => exact ⟨0, rfl, by omega, by simpa using hown2', Below.refl _ _⟩
  case round =>
    obtain ⟨j, rfl, hj, hown, hbr⟩ := hrel
    have hw0 := hr0.below (hbr.mono hsz1)
    have hw1 := hr1.below (hbr.mono hsz1)
    have hw2 := hr2.below (hbr.mono hsz1)
    by_cases hlt : j < n
    · obtain ⟨b0, o0, u0, rfl, hc0, hd0, hu0, hv0, -⟩ := hw0.byte hb0 (Nat.lt_of_lt_of_le hlt k0)
      obtain ⟨b1, o1, u1, rfl, hc1, hd1, hu1, hv1, -⟩ := hw1.byte hb1 (Nat.lt_of_lt_of_le hlt k1)
      obtain ⟨b2, o2, u2, rfl, hc2, hd2, hu2, hv2, -⟩ := hw2.byte hb2 (Nat.lt_of_lt_of_le hlt k2)
      have hz := HG.out j u0 u1 u2 hlt (by have := congrArg List.head? hd0; rwa [List.head?_drop] at this) (by have := congrArg List.head? hd1; rwa [List.head?_drop] at this) (by have := congrArg List.head? hd2; rwa [List.head?_drop] at this)
      have hcg : wr.cell? ⟨w1.heap.size, j, none⟩ = some (.int .u8 0) := by
        rw [hown.cellAt j (by omega), bs, List.getElem?_map, List.getElem?_append_right (by rw [List.length_take]; omega)]
        have e : j - (D.take j).length = 0 := by rw [List.length_take, HD.out]; omega
        rw [e, List.getElem?_drop, List.getElem?_replicate, if_pos (by omega)]; rfl
      have hfz : wr.frozen? ⟨w1.heap.size, j, none⟩ = false := hown.frozenAt j
      have hst := hown.stored j (.int .u8 ((u0.toNat ^^^ u1.toNat) ^^^ u2.toNat : Nat))
      have hnext : (bs (D.take j ++ (List.replicate n 0).drop j)).set j (.int .u8 ((u0.toNat ^^^ u1.toNat) ^^^ u2.toNat : Nat)) = bs (D.take (j + 1) ++ (List.replicate n 0).drop (j + 1)) := by
        rw [bs, ← List.map_set, PCrc.mix_set D _ (by rw [HD.out, List.length_replicate]) j _ hz]; rfl
      rw [hnext] at hst
      obtain ⟨u0, rfl⟩ := Int.eq_ofNat_of_zero_le hu0
      obtain ⟨u1, rfl⟩ := Int.eq_ofNat_of_zero_le hu1
      obtain ⟨u2, rfl⟩ := Int.eq_ofNat_of_zero_le hu2
      simp only [Int.toNat_natCast] at hst
      have e1 := u8_xor_nat u0 u1 (by omega) (by omega)
      have e2 := u8_xor_nat (u0 ^^^ u1) u2 (Nat.xor_lt_two_pow (n := 8) (by omega) (by omega)) (by omega)
      clear hz hnext hd0 hd1 hd2
      go_wp2_with fail
      go_region
      go_wp2
      go_roundw
      case rel => exact ⟨j + 1, by go_num, by omega, hst.1, hbr.trans ((Below.refl w1.heap.size wr).setCell (p := ⟨w1.heap.size, j, none⟩) (Nat.le_refl _) _).drew⟩
      case measure => simp [intOf]; omega
    · obtain rfl : n = j := by omega
      have hfin : D.take n ++ (List.replicate n (0 : Int)).drop n = D := by
        rw [List.take_of_length_le (by rw [HD.out]; omega), List.drop_of_length_le (by simp), List.append_nil]
      rw [hfin] at hown
      have hD := Rd.of_own hown
      have htW : Tab wr.drew := Tab.in_ (w' := wr) ht2 htl hbr
      have hBelr := hBel2.trans (hbr.mono hsz1)
      clear hfin hown hbr
      obtain ⟨A3, c3, C0, h3⟩ := cut_any (P := Tryd.prog) 22 5 Tryd.underlying22 byte_info hw0.drew none (some (.int .i64 (n : Int))) 0 n 0 (n : Int) (.inl ⟨rfl, rfl⟩) (.inr ⟨rfl, rfl⟩) (by omega) (by omega)
      obtain ⟨A4, c4, C1, h4⟩ := cut_any (P := Tryd.prog) 22 5 Tryd.underlying22 byte_info hw1.drew none (some (.int .i64 (n : Int))) 0 n 0 (n : Int) (.inl ⟨rfl, rfl⟩) (.inr ⟨rfl, rfl⟩) (by omega) (by omega)
      obtain ⟨A5, c5, C2, h5⟩ := cut_any (P := Tryd.prog) 22 5 Tryd.underlying22 byte_info hw2.drew none (some (.int .i64 (n : Int))) 0 n 0 (n : Int) (.inl ⟨rfl, rfl⟩) (.inr ⟨rfl, rfl⟩) (by omega) (by omega)
      simp only [Nat.sub_zero, List.drop_zero, Nat.mul_one, ← bs_take] at C0 h3 C1 h4 C2 h5
      have s0 := PCrc.sum_lt (hb0.take n); have s1 := PCrc.sum_lt (hb1.take n); have s2 := PCrc.sum_lt (hb2.take n)
      have e1 := u32_xor_nat _ _ s0 s1
      have e2 := u32_xor_nat _ _ (Nat.xor_lt_two_pow (n := 32) s0 s1) s2
      go_wp2_with fail
-- REGION curfew/curfewlaw2.CrcThree 10 three10 6
      refine Hb.begin ?_
      refine Hb.take (v := .slice (some ⟨w1.heap.size, 0, none⟩) n n) 0 47 rfl ?_ (fun _ _ => rfl)
      refine Hb.take (v := .slice A0 n0 c0) 2 49 rfl ?_ (fun _ _ => rfl)
      refine Hb.take (v := .int .i64 (n : Int)) 3 50 rfl ?_ (fun _ _ => rfl)
      refine Hb.take (v := .slice A3 n c3) 4 51 rfl ?_ (fun w' hw' => by exact run_sliceOp (C0 w'))
      refine Hb.take (v := .slice A1 n1 c1) 6 53 rfl ?_ (fun _ _ => rfl)
      refine Hb.take (v := .int .i64 (n : Int)) 7 54 rfl ?_ (fun _ _ => rfl)
      refine Hb.take (v := .slice A4 n c4) 8 55 rfl ?_ (fun w' hw' => by exact run_sliceOp (C1 w'))
      refine Hb.take (v := .slice A2 n2 c2) 11 58 rfl ?_ (fun _ _ => rfl)
      refine Hb.take (v := .int .i64 (n : Int)) 12 59 rfl ?_ (fun _ _ => rfl)
      refine Hb.take (v := .slice A5 n c5) 13 60 rfl ?_ (fun w' hw' => by exact run_sliceOp (C2 w'))
      refine Hb.call (f := 12) (args := #[.slice (some ⟨w1.heap.size, 0, none⟩) n n]) 1 48 rfl ?_ (run_callf Tryd.func12 (by kernel_rfl) (by kernel_rfl) (by simp only [List.map_toArray, List.map_cons, List.map_nil]; rfl))
      refine (Sum_c wr.drew _ _ n n D hD.drew hDB htW).mono ?_
      rintro e w1 ⟨rfl, rfl⟩
      refine Hb.back (Below.refl _ _) (Nat.le_refl _) ?_
      refine Hb.call (f := 12) (args := #[.slice A3 n c3]) 5 52 rfl ?_ (run_callf Tryd.func12 (by kernel_rfl) (by kernel_rfl) (by simp only [List.map_toArray, List.map_cons, List.map_nil]; rfl))
      refine (Sum_c wr.drew _ A3 c3 n _ h3 (hb0.take _) htW).mono ?_
      rintro e w1 ⟨rfl, rfl⟩
      refine Hb.back (Below.refl _ _) (Nat.le_refl _) ?_
      refine Hb.call (f := 12) (args := #[.slice A4 n c4]) 9 56 rfl ?_ (run_callf Tryd.func12 (by kernel_rfl) (by kernel_rfl) (by simp only [List.map_toArray, List.map_cons, List.map_nil]; rfl))
      refine (Sum_c wr.drew _ A4 c4 n _ h4 (hb1.take _) htW).mono ?_
      rintro e w1 ⟨rfl, rfl⟩
      refine Hb.back (Below.refl _ _) (Nat.le_refl _) ?_
      refine Hb.take (v := .int .u32 (PCrc.sum (l0.take n) ^^^ PCrc.sum (l1.take n) : Nat)) 10 57 rfl ?_ (fun w' hw' => by go_simp; first | done | rfl | omega | exact wrap_in (by omega) (by omega) | (simp; omega))
      refine Hb.call (f := 12) (args := #[.slice A5 n c5]) 14 61 rfl ?_ (run_callf Tryd.func12 (by kernel_rfl) (by kernel_rfl) (by simp only [List.map_toArray, List.map_cons, List.map_nil]; rfl))
      refine (Sum_c wr.drew _ A5 c5 n _ h5 (hb2.take _) htW).mono ?_
      rintro e w1 ⟨rfl, rfl⟩
      refine Hb.back (Below.refl _ _) (Nat.le_refl _) ?_
      refine Hb.take (v := .int .u32 (PCrc.sum (l0.take n) ^^^ PCrc.sum (l1.take n) ^^^ PCrc.sum (l2.take n) : Nat)) 15 62 rfl ?_ (fun w' hw' => by go_simp; first | done | rfl | omega | exact wrap_in (by omega) (by omega) | (simp; omega))
      refine Hb.take (v := .bool true) 16 63 rfl ?_ (fun w' hw' => by rw [← HS.out]; go_simp)
      refine Hb.take (v := .bool true) 17 6 rfl ?_ (fun _ _ => rfl)
      refine Hb.done ?_
-- END
      go_wp2
      go_ret
      exact ⟨rfl, hBelr.drew⟩

end Go.Proofs.YtknmgijfffpomaaDoor
