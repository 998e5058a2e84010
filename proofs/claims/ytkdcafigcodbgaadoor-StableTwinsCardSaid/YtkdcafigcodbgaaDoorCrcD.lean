/- Contract of crc.Open. -/
import Derived.Test.YtkdcafigcodbgaaDoorCrcO
import Derived.Test.YtkdcafigcodbgaaDoorCrcB
namespace Go.Proofs.YtkdcafigcodbgaaDoor
open Go.RowKit

set_option maxRecDepth 100000 in
theorem Open_c (w : World) (B : Nat) (A : Option Addr) (c n : Nat) (l : List Int) (h : Rd w B A c 1 n (bs l)) (hb : isB l) (ht : Tab w) (hn : n ≤ 140000000000000) :
    Calls Tryd.prog 23 #[.slice A n c] w (OpenPost w (openP l)) := by
  obtain ⟨i0, hi, hz0, hz1, hz2⟩ := info_parts byte_info
  have hlen := h.blen
  by_cases h4 : n < 4
  · have hp : openP l = ([], false) := by unfold openP; rw [if_neg (by omega)]
    have HP := Lib.hid hp; clear hp hlen
    go_enter Tryd.func23, Tryd.ntmps23
    go_wp2
-- REGION curfew/crc.Open 2 open2few 4
    refine Hb.begin ?_
    refine Hb.take (v := .int .i64 ((n : Int) - 4)) 0 8 rfl ?_ (fun _ _ => rfl)
    refine Hb.take (v := .bool true) 1 9 rfl ?_ (fun w' hw' => by go_simp; first | done | omega | (simp; omega))
    refine Hb.take (v := .bool true) 2 10 rfl ?_ (fun _ _ => rfl)
    refine Hb.pass 3 11 rfl ?_
    refine Hb.pass 4 12 rfl ?_
    refine Hb.pass 5 13 rfl ?_
    refine Hb.pass 6 14 rfl ?_
    refine Hb.pass 7 15 rfl ?_
    refine Hb.pass 8 16 rfl ?_
    refine Hb.pass 9 17 rfl ?_
    refine Hb.pass 10 18 rfl ?_
    refine Hb.pass 11 19 rfl ?_
    refine Hb.take (v := Value.bool true) 12 20 rfl ?_ (fun _ _ => rfl)
    refine Hb.done ?_
-- END
    go_wp2
    go_ret2
    exact openPost_no HP.out ((Below.refl _ _).drew)
  · obtain ⟨A1, c1, C1, h1⟩ := cut_any (P := Tryd.prog) 33 5 Tryd.underlying33 byte_info h none (some (.int .i64 ((n : Int) - 4))) 0 (n - 4) 0 ((n : Int) - 4) (.inl ⟨rfl, rfl⟩) (.inr ⟨rfl, by omega⟩) (by omega) (by omega)
    obtain ⟨A2, c2, C2, h2⟩ := cut_any (P := Tryd.prog) 33 5 Tryd.underlying33 byte_info h (some (.int .i64 ((n : Int) - 4))) none (n - 4) n ((n : Int) - 4) 0 (.inr ⟨rfl, by omega⟩) (.inl ⟨rfl, rfl⟩) (by omega) (by omega)
    simp only [Nat.sub_zero, List.drop_zero, Nat.mul_one, ← bs_take] at C1 h1
    have e4 : n - (n - 4) = 4 := by omega
    rw [e4] at C2 h2
    clear e4
    rw [Nat.mul_one, Nat.mul_one, ← bs_drop, ← bs_take, List.take_of_length_le (by rw [List.length_drop]; omega)] at h2
    obtain ⟨x0, x1, x2, x3, hx⟩ : ∃ x0 x1 x2 x3 : Nat, l.drop (n - 4) = [(x0 : Int), (x1 : Int), (x2 : Int), (x3 : Int)] := by
      have hl : (l.drop (n - 4)).length = 4 := by rw [List.length_drop]; omega
      have hB := hb.drop (n - 4)
      match hm : l.drop (n - 4), hl with
      | [y0, y1, y2, y3], _ =>
        rw [hm] at hB
        have g0 := hB y0 (by simp); have g1 := hB y1 (by simp); have g2 := hB y2 (by simp); have g3 := hB y3 (by simp)
        exact ⟨y0.toNat, y1.toNat, y2.toNat, y3.toNat, by simp; omega⟩
    have hB := hb.drop (n - 4)
    rw [hx] at h2 hB
    have l0 := (hB x0 (by simp)).2; have l1 := (hB x1 (by simp)).2; have l2 := (hB x2 (by simp)).2; have l3 := (hB x3 (by simp)).2
    obtain ⟨b, o, rfl, hbB, hc2⟩ := h2.2.2.2.2 (by omega)
    have h20 : w.cell? ⟨b, o, none⟩ = some (.int .u8 x0) := hc2 0 _ rfl
    have h21 : w.cell? ⟨b, o + 1, none⟩ = some (.int .u8 x1) := hc2 1 _ rfl
    have h22 : w.cell? ⟨b, o + 2, none⟩ = some (.int .u8 x2) := hc2 2 _ rfl
    have h23 : w.cell? ⟨b, o + 3, none⟩ = some (.int .u8 x3) := hc2 3 _ rfl
    clear hc2 h2 hB
    have hu : openP l = if PCrc.sum (l.take (n - 4)) = PCrc.told [(x0 : Int), (x1 : Int), (x2 : Int), (x3 : Int)] then (l.take (n - 4), true) else ([], false) := by
      unfold openP; rw [hlen, hx]
      simp only [show 4 ≤ n from by omega, true_and]
    have htl : (l.take (n - 4)).length = n - 4 := by rw [List.length_take]; omega
    have HTL := Lib.hid htl; clear htl
    have HLEN := Lib.hid hlen; clear hlen hx
    have l0' : x0 < 256 := by omega
    have l1' : x1 < 256 := by omega
    have l2' : x2 < 256 := by omega
    have l3' : x3 < 256 := by omega
    clear l0 l1 l2 l3
    generalize hsu : PCrc.sum (l.take (n - 4)) = u at hu
    generalize htv : PCrc.told [(x0 : Int), (x1 : Int), (x2 : Int), (x3 : Int)] = v at hu
    have HSU := Lib.hid hsu; clear hsu
    have HTV := Lib.hid htv; clear htv
    by_cases hq : u = v
    · subst hq
      rw [if_pos rfl] at hu
      have HU := Lib.hid hu; clear hu
      go_enter Tryd.func23, Tryd.ntmps23
      go_wp2
-- REGION curfew/crc.Open 2 open2eq 6
      refine Hb.begin ?_
      refine Hb.take (v := .int .i64 ((n : Int) - 4)) 0 8 rfl ?_ (fun _ _ => rfl)
      refine Hb.take (v := .bool false) 1 9 rfl ?_ (fun w' hw' => by go_simp; first | done | omega | (simp; omega))
      refine Hb.take (v := .bool false) 2 10 rfl ?_ (fun _ _ => rfl)
      refine Hb.take (v := .slice A n c) 3 11 rfl ?_ (fun _ _ => rfl)
      refine Hb.take (v := .int .i64 ((n : Int) - 4)) 4 12 rfl ?_ (fun _ _ => rfl)
      refine Hb.take (v := .slice A1 (n - 4) c1) 5 13 rfl ?_ (fun w' hw' => by exact run_sliceOp (C1 w'))
      refine Hb.take (v := .slice A n c) 7 15 rfl ?_ (fun _ _ => rfl)
      refine Hb.take (v := .int .i64 ((n : Int) - 4)) 8 16 rfl ?_ (fun _ _ => rfl)
      refine Hb.take (v := .slice (some ⟨b, o, none⟩) 4 c2) 9 17 rfl ?_ (fun w' hw' => by exact run_sliceOp (C2 w'))
      refine Hb.call (f := 26) (args := #[.slice A1 (n - 4) c1]) 6 14 rfl ?_ (run_callf Tryd.func26 (by kernel_rfl) (by kernel_rfl) (by simp only [List.map_toArray, List.map_cons, List.map_nil]; rfl))
      refine (Sum_c w.drew _ A1 c1 (n - 4) (l.take (n - 4)) h1 (hb.take _) ht).mono ?_
      rw [HSU.out]
      rintro e w1 ⟨rfl, rfl⟩
      refine Hb.back (Below.refl _ _) (Nat.le_refl _) ?_
      refine Hb.call (f := 30) (args := #[.slice (some ⟨b, o, none⟩) 4 c2]) 10 18 rfl ?_ (run_callf Tryd.func30 (by kernel_rfl) (by kernel_rfl) (by simp only [List.map_toArray, List.map_cons, List.map_nil]; rfl))
      refine (sumAt_c w.drew b o c2 x0 x1 x2 x3 h20 h21 h22 h23 l0' l1' l2' l3').mono ?_
      rw [HTV.out]
      rintro e w1 ⟨rfl, hb1⟩
      refine Hb.back hb1 (Nat.le_refl _) ?_
      refine Hb.take (v := .bool false) 11 19 rfl ?_ (fun w' hw' => by go_simp; first | done | omega | (simp; omega))
      refine Hb.take (v := .bool false) 12 20 rfl ?_ (fun _ _ => rfl)
      refine Hb.done ?_
-- END
      go_wp2
      have h1' := (h1.drew.past hb1).drew
      have hsz1 : w.heap.size ≤ w1.drew.heap.size := hb1.size
-- REGION curfew/crc.Open 4 open4 6
      refine Hb.begin ?_
      refine Hb.take (v := .int .i64 ((n : Int) - 4)) 0 21 rfl ?_ (fun _ _ => rfl)
      refine Hb.take (v := .slice A n c) 2 23 rfl ?_ (fun _ _ => rfl)
      refine Hb.take (v := .int .i64 ((n : Int) - 4)) 3 24 rfl ?_ (fun _ _ => rfl)
      refine Hb.take (v := .slice A1 (n - 4) c1) 4 25 rfl ?_ (fun w' hw' => by exact run_sliceOp (C1 w'))
      refine Hb.only 1 (some 22) rfl ?_
      refine wpList_make_own _ rfl _ _ 33 rfl w1.drew.heap.size 5 i0 (.int .u8 0) 1 Tryd.underlying33 hi hz0 hz1 _ _ _ (n - 4) rfl rfl ?b1 ?b2 ?b3 (Nat.le_refl _) ?_
      case b1 => omega
      case b2 => rw [hz2]; omega
      case b3 => unfold maxLen; omega
      intro w2 hown2 hgrow2
      have hb2 : Below w1.drew.heap.size w1.drew w2 := (Below.refl _ _).grown hgrow2 (Nat.le_refl _) (fun k h => by cases h)
      refine Hb.next hb2 (Nat.le_refl _) ?_
      refine Hb.only 5 (some 26) rfl ?_
      refine wpList_app rfl (.tmp 22) (.tmp 25) _ rfl w1.drew.heap.size 5 _ 1 1 Tryd.underlying33 byte_info rfl (by omega) _ 0 [] rfl hown2 _ A1 c1 (n - 4) (bs (l.take (n - 4))) rfl (h1'.past hb2) (bs_one _) ?d1 ?d2 hb2.size ?_
      case d1 => unfold maxLen; omega
      case d2 => omega
      intro A3 c3 w3 hown3 hgrow3 hb3
      refine Hb.next hb3 (Nat.le_refl _) ?_
      refine Hb.take (v := .slice A3 (0 + (n - 4)) c3) 6 2 rfl ?_ (fun _ _ => rfl)
      refine Hb.take (v := Value.bool true) 7 3 rfl ?_ (fun _ _ => rfl)
      refine Hb.done ?_
-- END
      go_wp2
      go_ret2
      have el : 0 + (n - 4) = n - 4 := by omega
      have hr3 := Rd.of_own hown3
      rw [el, List.nil_append] at hr3
      refine ⟨A3, c3, ?_, ?_, (((Below.refl _ _).drew.trans hb1).drew.trans ((hb2.trans hb3).mono hsz1))⟩
      · rw [HU.out, HTL.out, el]; rfl
      · rw [HU.out, HTL.out]; exact hr3
    · rw [if_neg hq] at hu
      have HU := Lib.hid hu; clear hu
      have hne : ((u : Int) != (v : Int)) = true := by simp; omega
      clear hq
      go_enter Tryd.func23, Tryd.ntmps23
      go_wp2
-- REGION curfew/crc.Open 2 open2ne 6
      refine Hb.begin ?_
      refine Hb.take (v := .int .i64 ((n : Int) - 4)) 0 8 rfl ?_ (fun _ _ => rfl)
      refine Hb.take (v := .bool false) 1 9 rfl ?_ (fun w' hw' => by go_simp; first | done | omega | (simp; omega))
      refine Hb.take (v := .bool false) 2 10 rfl ?_ (fun _ _ => rfl)
      refine Hb.take (v := .slice A n c) 3 11 rfl ?_ (fun _ _ => rfl)
      refine Hb.take (v := .int .i64 ((n : Int) - 4)) 4 12 rfl ?_ (fun _ _ => rfl)
      refine Hb.take (v := .slice A1 (n - 4) c1) 5 13 rfl ?_ (fun w' hw' => by exact run_sliceOp (C1 w'))
      refine Hb.take (v := .slice A n c) 7 15 rfl ?_ (fun _ _ => rfl)
      refine Hb.take (v := .int .i64 ((n : Int) - 4)) 8 16 rfl ?_ (fun _ _ => rfl)
      refine Hb.take (v := .slice (some ⟨b, o, none⟩) 4 c2) 9 17 rfl ?_ (fun w' hw' => by exact run_sliceOp (C2 w'))
      refine Hb.call (f := 26) (args := #[.slice A1 (n - 4) c1]) 6 14 rfl ?_ (run_callf Tryd.func26 (by kernel_rfl) (by kernel_rfl) (by simp only [List.map_toArray, List.map_cons, List.map_nil]; rfl))
      refine (Sum_c w.drew _ A1 c1 (n - 4) (l.take (n - 4)) h1 (hb.take _) ht).mono ?_
      rw [HSU.out]
      rintro e w1 ⟨rfl, rfl⟩
      refine Hb.back (Below.refl _ _) (Nat.le_refl _) ?_
      refine Hb.call (f := 30) (args := #[.slice (some ⟨b, o, none⟩) 4 c2]) 10 18 rfl ?_ (run_callf Tryd.func30 (by kernel_rfl) (by kernel_rfl) (by simp only [List.map_toArray, List.map_cons, List.map_nil]; rfl))
      refine (sumAt_c w.drew b o c2 x0 x1 x2 x3 h20 h21 h22 h23 l0' l1' l2' l3').mono ?_
      rw [HTV.out]
      rintro e w1 ⟨rfl, hb1⟩
      refine Hb.back hb1 (Nat.le_refl _) ?_
      refine Hb.take (v := .bool true) 11 19 rfl ?_ (fun w' hw' => by go_simp; first | done | omega | (simp; omega))
      refine Hb.take (v := .bool true) 12 20 rfl ?_ (fun _ _ => rfl)
      refine Hb.done ?_
-- END
      go_wp2
      go_ret2
      exact openPost_no HU.out ((Below.refl _ _).drew.trans hb1)

end Go.Proofs.YtkdcafigcodbgaaDoor
