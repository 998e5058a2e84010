/- Contracts of package cross: ends.count and its closure, highsBelow, runEnd, Most's closure. -/
import Derived.Test.YtapfdceopbkcgaaCrossA
import Derived.BigQuiet
import Derived.Deep.QuietTactic
namespace Go.Proofs.Ytapfdceopbkcgaa
open Go.RowKit
open PCross (at_ cnt)

/-- The ends by value. -/
def ev (A1 : Option Addr) (c1 : Nat) (A2 : Option Addr) (c2 m : Nat) : Value := .agg #[.slice A1 m c1, .slice A2 m c2]

theorem close1_c (w : World) (g k B : Nat) (A1 : Option Addr) (c1 : Nat) (A2 : Option Addr) (c2 m : Nat) (S : List Int) (t : Int) (i : Nat)
    (Kg : Blk w g 47 [.slice A1 m c1, .slice A2 m c2]) (Kk : Blk w k 2 [.int .i64 t]) (R : Rd w B A1 c1 1 m (is S)) (hi : i < m) :
    Calls Try.prog 25 #[.int .i64 i, .pointer (some ⟨g, 0, none⟩), .pointer (some ⟨k, 0, none⟩)] w fun e w' => e = .returned (.bool (decide (t < at_ S i))) ∧ Below w.heap.size w w' := by
  obtain ⟨b, o, x, rfl, cx, -, hx⟩ := R.int hi
  have HX := Lib.hid (show at_ S i = x from hx.symm)
  have cg := Kg.cell (i := 0) rfl
  have ck := Kk.cell (i := 0) rfl
  have jz : (i : Int) < (m : Int) := by omega
  clear hx R Kg Kk
  go_enter Try.func25, Try.ntmps25
  go_wp2_with fail
  go_quiet (fail)
  go_wp2_with fail
  go_ret
  exact ⟨by rw [HX.out]; rfl, bel_drawn (Below.refl _ _) _⟩

theorem highs_c (w : World) (B : Nat) (A1 : Option Addr) (c1 : Nat) (A2 : Option Addr) (c2 m : Nat) (T : List Int) (R : Rd w B A2 c2 1 m (is T)) (hs : T.Pairwise (· ≤ ·)) (h0 : 0 < m) (hm : m ≤ 1000) (t : Int) :
    Calls Try.prog 26 #[ev A1 c1 A2 c2 m, .int .i64 t] w fun e w' => e = .returned (.int .i64 (T.countP fun y => decide (y < t) : Nat)) ∧ Below w.heap.size w w' := by
  have R0 := Lib.hid R
  have HS := Lib.hid hs
  clear R hs
  show Calls _ _ #[.agg #[.slice A1 m c1, .slice A2 m c2], _] _ _
  go_enter Try.func26, Try.ntmps26
  go_wp2_with fail
  have b1 := (Below.refl w.heap.size w).alloc (Nat.le_refl _) (.cells #[.slice A1 m c1, .slice A2 m c2] 47)
  have R1 := Lib.hid (R0.out.alloc (.cells #[.slice A1 m c1, .slice A2 m c2] 47))
  generalize w.alloc (.cells #[.slice A1 m c1, .slice A2 m c2] 47) = w1 at *
  have B1 := Lib.hid b1
  clear b1 R0
  refine (find_c w1 B A2 c2 m T R1.out HS.out h0 hm t).mono ?_
  rintro e w2 ⟨ok, rfl, b2⟩
  have B2 := Lib.hid (B1.out.trans (b2.mono B1.out.size))
  clear b2
  go_wp2_with fail
  go_ret
  exact ⟨rfl, B2.out⟩

theorem count_c (w : World) (B : Nat) (A1 : Option Addr) (c1 : Nat) (A2 : Option Addr) (c2 m : Nat) (L : List (Int × Int)) (S T : List Int) (R1 : Rd w B A1 c1 1 m (is S)) (R2 : Rd w B A2 c2 1 m (is T)) (hE : PCross.Ends L S T) (h0 : 0 < m) (hm : m ≤ 1000) (t : Int) :
    Calls Try.prog 18 #[ev A1 c1 A2 c2 m, .int .i64 t] w fun e w' => e = .returned (.int .i64 (cnt L t : Nat)) ∧ Below w.heap.size w w' := by
  have hl := R1.ilen
  have P1 := Lib.hid R1
  have P2 := Lib.hid R2
  have HE := Lib.hid hE
  have eg : ∀ args w, (callFunc 25 args).run Try.prog w = .ok (.enter 25 args) w := enters_of Try.func25 (by kernel_rfl) rfl
  clear R1 R2 hE
  show Calls _ _ #[.agg #[.slice A1 m c1, .slice A2 m c2], _] _ _
  go_enter Try.func18, Try.ntmps18
  go_wp2_with fail
  have b1 := ((Below.refl w.heap.size w).alloc (Nat.le_refl _) (.cells #[.slice A1 m c1, .slice A2 m c2] 47)).alloc (by simp) (.cells #[.int .i64 t] 2)
  have K0 := (Blk.new w #[.slice A1 m c1, .slice A2 m c2] 47).alloc (.cells #[.int .i64 t] 2)
  have K1 := Blk.new (w.alloc (.cells #[.slice A1 m c1, .slice A2 m c2] 47)) #[.int .i64 t] 2
  rw [show (w.alloc (.cells #[.slice A1 m c1, .slice A2 m c2] 47)).heap.size = w.heap.size + 1 by simp] at K1
  have Q1 := (P1.out.alloc (.cells #[.slice A1 m c1, .slice A2 m c2] 47)).alloc (.cells #[.int .i64 t] 2)
  have Q2 := (P2.out.alloc (.cells #[.slice A1 m c1, .slice A2 m c2] 47)).alloc (.cells #[.int .i64 t] 2)
  generalize (w.alloc (.cells #[.slice A1 m c1, .slice A2 m c2] 47)).alloc (.cells #[.int .i64 t] 2) = w1 at *
  have B1 := Lib.hid b1
  have K0 := Lib.hid K0
  have K1 := Lib.hid K1
  have Q1 := Lib.hid Q1
  have Q2 := Lib.hid Q2
  clear b1 P1 P2
  refine (search_c w1 m 25 #[.pointer (some ⟨w.heap.size, 0, none⟩), .pointer (some ⟨w.heap.size + 1, 0, none⟩)] (fun i => decide (t < at_ S i)) hm eg (fun W i hi hb => ?hG) (fun i j hij hj hi => ?hM)).mono ?_
  case hG => exact close1_c W _ _ B A1 c1 A2 c2 m S t i (K0.out.past hb) (K1.out.past hb) (Q1.out.past hb) hi
  case hM =>
    have := PCross.at_le HE.out.s hij (by omega)
    simp at hi ⊢; omega
  rintro e w2 ⟨r, rfl, hr, h1, h2, b2⟩
  have HR := Lib.hid (show S.countP (fun y => decide (y ≤ t)) = r from PCross.cut_count (by omega) (fun j hj => by have := h1 j hj; simp at this ⊢; omega) (fun j h3 h4 => by have := h2 j h3 (by omega); simp at this ⊢; omega))
  have M0 := K0.out.past b2
  have M1 := K1.out.past b2
  have cg0 := M0.cell (i := 0) rfl
  have cg1 := M0.cell (i := 1) rfl
  have ck := M1.cell (i := 0) rfl
  have Q3 := Lib.hid (Q2.out.past b2)
  have B2 := Lib.hid (B1.out.trans (b2.mono B1.out.size))
  have KK := Lib.hid M0
  clear h1 h2 b2 M0 M1 K0 K1 Q1 Q2 B1
  go_wp2_with fail
  refine (highs_c w2 B A1 c1 A2 c2 m T Q3.out HE.out.t h0 hm t).mono ?_
  have HS := Lib.hid (HE.out.sub t)
  rw [HR.out] at HS
  obtain ⟨q, hq⟩ : ∃ q, T.countP (fun y => decide (y < t)) = q := ⟨_, rfl⟩
  rw [hq] at HS ⊢
  obtain ⟨n, hn⟩ : ∃ n, cnt L t = n := ⟨_, rfl⟩
  rw [hn] at HS
  have hs := HS.out
  have HN := Lib.hid hn
  clear hq hn HS
  rintro e w3 ⟨rfl, b3⟩
  have B3 := Lib.hid (B2.out.trans (b3.mono B2.out.size))
  clear b3
  subst hs
  have hqn : (q : Int) + (n : Int) - (q : Int) = (n : Int) := by omega
  go_wp2_with fail
  go_ret
  exact ⟨by rw [HN.out]; rfl, B3.out⟩

/-- Most's test. -/
theorem closeM_c (w : World) (g k B : Nat) (A1 : Option Addr) (c1 : Nat) (A2 : Option Addr) (c2 m : Nat) (L : List (Int × Int)) (S T : List Int) (n t : Int)
    (Kg : Blk w g 47 [.slice A1 m c1, .slice A2 m c2]) (Kk : Blk w k 3 [.int .i64 n]) (R1 : Rd w B A1 c1 1 m (is S)) (R2 : Rd w B A2 c2 1 m (is T)) (hE : PCross.Ends L S T) (h0 : 0 < m) (hm : m ≤ 1000) :
    Calls Try.prog 21 #[.int .i64 t, .pointer (some ⟨g, 0, none⟩), .pointer (some ⟨k, 0, none⟩)] w fun e w' => e = .returned (.bool (decide (n ≤ (cnt L t : Int)))) ∧ Below w.heap.size w w' := by
  have P1 := Lib.hid R1
  have P2 := Lib.hid R2
  have HE := Lib.hid hE
  have KG := Lib.hid Kg
  have KK := Lib.hid Kk
  clear R1 R2 hE Kg Kk
  go_enter Try.func21, Try.ntmps21
  go_wp2_with fail
-- REGION curfew/cross.Most$1 1 most1 2
  refine Hb.begin ?_
  refine Hb.take (v := .agg #[.slice A1 m c1, .slice A2 m c2]) 0 5 rfl ?_ (fun w' hw' => by exact run_load2 Try.underlying47 rfl (by kernel_rfl) rfl ((hw'.cell (p := ⟨g, 0, none⟩) KG.out.lt).trans (KG.out.cell (i := 0) rfl)) ((hw'.cell (p := ⟨g, 0 + 1, none⟩) KG.out.lt).trans (KG.out.cell (i := 1) rfl)))
  refine Hb.take (v := .int .i64 t) 1 6 rfl ?_ (fun _ _ => rfl)
  refine Hb.take (v := .int .i64 n) 3 8 rfl ?_ (fun w' hw' => by have c := (hw'.cell (p := ⟨k, 0, none⟩) KK.out.lt).trans (KK.out.cell (i := 0) rfl); go_simp)
  refine Hb.call (f := 18) (args := #[.agg #[.slice A1 m c1, .slice A2 m c2], .int .i64 t]) 2 7 rfl ?_ (run_callf Try.func18 (by kernel_rfl) (by kernel_rfl) (by simp only [List.map_toArray, List.map_cons, List.map_nil]; rfl))
  refine (count_c w.drew B A1 c1 A2 c2 m L S T P1.out.drew P2.out.drew HE.out h0 hm t).mono ?_
  rintro e w2 ⟨rfl, b2⟩
  have B2 := Lib.hid (show Below w.heap.size w w2 from (bel_drawn (Below.refl _ w) 1).trans b2)
  refine Hb.back b2 (Nat.le_refl _) ?_
  refine Hb.take (v := .bool (decide (n ≤ (cnt L t : Int)))) 4 9 rfl ?_ (fun w' hw' => by go_simp; first | done | rfl | omega | exact wrap_in (by omega) (by omega) | exact Int.tmod_eq_emod_of_nonneg (by omega) | exact Int.tdiv_eq_ediv_of_nonneg (by omega) | (simp; omega))
  refine Hb.take (v := .bool (decide (n ≤ (cnt L t : Int)))) 5 4 rfl ?_ (fun _ _ => rfl)
  refine Hb.done ?_
-- END
  go_wp2_with fail
  go_ret
  exact ⟨rfl, B2.out⟩
/-- The end of a run of the greatest count. -/
theorem runEnd_c (w : World) (A1 : Option Addr) (c1 : Nat) (A2 : Option Addr) (c2 m : Nat) (L : List (Int × Int)) (S T : List Int) (P1 : Rd w w.heap.size A1 c1 1 m (is S)) (P2 : Rd w w.heap.size A2 c2 1 m (is T)) (hE : PCross.Ends L S T) (h0 : 0 < m) (hm : m ≤ 1000)
    (hF : PCross.Fits L) (lo : Int) (n : Nat) (hL : PCross.LowBest L lo n) (hn : 0 < n) :
    Calls Try.prog 19 #[ev A1 c1 A2 c2 m, .int .i64 lo, .int .i64 n] w fun e w' => ∃ hi, e = .returned (.int .i64 hi) ∧ PCross.IsBest L lo hi n ∧ Below w.heap.size w w' := by
  have hl : T.length = m := P2.ilen
  have P1 := Lib.hid P1
  have P2 := Lib.hid P2
  have HE := Lib.hid hE
  have HL := Lib.hid hL
  have HF := Lib.hid hF
  clear hE hL hF
  show Calls _ _ #[.agg #[.slice A1 m c1, .slice A2 m c2], _, _] _ _
  go_enter Try.func19, Try.ntmps19
  go_wp2_with fail
  have b1 := (Below.refl w.heap.size w).alloc (Nat.le_refl _) (.cells #[.slice A1 m c1, .slice A2 m c2] 47)
  have K0 := Blk.new w #[.slice A1 m c1, .slice A2 m c2] 47
  have Q1 := P1.out.alloc (.cells #[.slice A1 m c1, .slice A2 m c2] 47)
  have Q2 := P2.out.alloc (.cells #[.slice A1 m c1, .slice A2 m c2] 47)
  generalize w.alloc (.cells #[.slice A1 m c1, .slice A2 m c2] 47) = w1 at *
  have B1 := Lib.hid b1
  have K0 := Lib.hid K0
  have Q1 := Lib.hid Q1
  have Q2 := Lib.hid Q2
  clear b1 P1 P2
  refine (highs_c w1 w.heap.size A1 c1 A2 c2 m T Q2.out HE.out.t h0 hm lo).mono ?_
  rintro e w2 ⟨rfl, b2⟩
  have HI := Lib.hid (PCross.RunInv.start HE.out HL.out hn)
  obtain ⟨q, hq⟩ : ∃ q, T.countP (fun y => decide (y < lo)) = q := ⟨_, rfl⟩
  rw [hq] at HI ⊢
  have B2 := Lib.hid (B1.out.trans (b2.mono B1.out.size))
  have K2 := Lib.hid (K0.out.past b2)
  have R12 := Lib.hid (Q1.out.past b2)
  have R22 := Lib.hid (Q2.out.past b2)
  clear b2 B1 K0 Q1 Q2 hq
  go_wp2_with fail
  go_loopw [7] (fun s7 wr => ∃ i : Nat, s7 = .int .i64 i ∧ Hid (PCross.RunInv L T lo n i) ∧ Hid (Blk wr w.heap.size 47 [.slice A1 m c1, .slice A2 m c2]) ∧ Hid (Rd wr w.heap.size A1 c1 1 m (is S)) ∧ Hid (Rd wr w.heap.size A2 c2 1 m (is T)) ∧ Hid (Below w.heap.size w wr)) (fun s7 _ => m - (intOf s7).toNat)
  case atStart => exact ⟨q, rfl, HI, K2, R12, R22, B2⟩
  case round =>
    clear B2 K2 R12 R22 HI
    obtain ⟨i, rfl, HI, KT, R1, R2, BT⟩ := hrel
    have him : i < m := by have := HI.out.lt; omega
    have jz : (i : Int) < (m : Int) := by omega
    obtain ⟨b, o, x, rfl, cx, -, hx⟩ := R2.out.int him
    have HX := Lib.hid (show at_ T i = x from hx.symm)
    have CX := Lib.hid (show b < wr.heap.size ∧ wr.cell? ⟨b, o + i, none⟩ = some (.int .i64 x) from ⟨World.block_lt_of_cell? wr _ cx, cx⟩)
    clear hx cx
    by_cases hlt : x < 9223372036854775807
    · have hxr : -9223372036854775808 ≤ x := by
        have := HF.out.range (t := at_ T i) (HE.out.hi_pos (by omega))
        rw [HX.out] at this; exact this.1
      have JX := Lib.hid (decide_eq_true hlt)
      by_cases hc : cnt L (x + 1) = n
      · have JC := Lib.hid (show ((cnt L (x + 1) : Nat) : Int) = (n : Int) by omega)
        have HI' := Lib.hid (PCross.RunInv.next HE.out HL.out hn HI.out (by rw [HX.out]; exact hc))
        clear hc
        go_wp2_with fail
-- REGION (curfew/cross.ends).runEnd 2 runend_te 8
        refine Hb.begin ?_
        refine Hb.take (v := .pointer (some ⟨w.heap.size, 1, none⟩)) 0 11 rfl ?_ (fun w' hw' => by go_simp; first | done | rfl | omega | exact wrap_in (by omega) (by omega) | exact Int.tmod_eq_emod_of_nonneg (by omega) | exact Int.tdiv_eq_ediv_of_nonneg (by omega) | (simp; omega))
        refine Hb.take (v := .slice (some ⟨b, o, none⟩) m c2) 1 12 rfl ?_ (fun w' hw' => by have c := (hw'.cell (p := ⟨w.heap.size, 1, none⟩) KT.out.lt).trans (KT.out.cell (i := 1) rfl); go_simp)
        refine Hb.take (v := .int .i64 (i : Nat)) 2 13 rfl ?_ (fun _ _ => rfl)
        refine Hb.take (v := .pointer (some ⟨b, o + i, none⟩)) 3 14 rfl ?_ (fun w' hw' => by go_simp; first | done | rfl | omega | exact wrap_in (by omega) (by omega) | exact Int.tmod_eq_emod_of_nonneg (by omega) | exact Int.tdiv_eq_ediv_of_nonneg (by omega) | (simp; omega))
        refine Hb.take (v := .int .i64 x) 4 15 rfl ?_ (fun w' hw' => by have c := (hw'.cell (p := ⟨b, o + i, none⟩) CX.out.1).trans CX.out.2; go_simp)
        refine Hb.take (v := .bool true) 5 16 rfl ?_ (fun w' hw' => by have jx := JX.out; go_simp; first | done | exact jx | simp [jx])
        refine Hb.take (v := .bool true) 6 17 rfl ?_ (fun _ _ => rfl)
        refine Hb.take (v := .agg #[.slice A1 m c1, .slice (some ⟨b, o, none⟩) m c2]) 7 18 rfl ?_ (fun w' hw' => by exact run_load2 Try.underlying47 rfl (by kernel_rfl) rfl ((hw'.cell (p := ⟨w.heap.size, 0, none⟩) KT.out.lt).trans (KT.out.cell (i := 0) rfl)) ((hw'.cell (p := ⟨w.heap.size, 0 + 1, none⟩) KT.out.lt).trans (KT.out.cell (i := 1) rfl)))
        refine Hb.take (v := .pointer (some ⟨w.heap.size, 1, none⟩)) 8 19 rfl ?_ (fun w' hw' => by go_simp; first | done | rfl | omega | exact wrap_in (by omega) (by omega) | exact Int.tmod_eq_emod_of_nonneg (by omega) | exact Int.tdiv_eq_ediv_of_nonneg (by omega) | (simp; omega))
        refine Hb.take (v := .slice (some ⟨b, o, none⟩) m c2) 9 20 rfl ?_ (fun w' hw' => by have c := (hw'.cell (p := ⟨w.heap.size, 1, none⟩) KT.out.lt).trans (KT.out.cell (i := 1) rfl); go_simp)
        refine Hb.take (v := .int .i64 (i : Nat)) 10 21 rfl ?_ (fun _ _ => rfl)
        refine Hb.take (v := .pointer (some ⟨b, o + i, none⟩)) 11 22 rfl ?_ (fun w' hw' => by go_simp; first | done | rfl | omega | exact wrap_in (by omega) (by omega) | exact Int.tmod_eq_emod_of_nonneg (by omega) | exact Int.tdiv_eq_ediv_of_nonneg (by omega) | (simp; omega))
        refine Hb.take (v := .int .i64 x) 12 23 rfl ?_ (fun w' hw' => by have c := (hw'.cell (p := ⟨b, o + i, none⟩) CX.out.1).trans CX.out.2; go_simp)
        refine Hb.take (v := .int .i64 (x + 1)) 13 24 rfl ?_ (fun w' hw' => by go_simp; first | done | rfl | omega | exact wrap_in (by omega) (by omega) | exact Int.tmod_eq_emod_of_nonneg (by omega) | exact Int.tdiv_eq_ediv_of_nonneg (by omega) | (simp; omega))
        refine Hb.take (v := .int .i64 (n : Nat)) 15 26 rfl ?_ (fun _ _ => rfl)
        refine Hb.call (f := 18) (args := #[.agg #[.slice A1 m c1, .slice (some ⟨b, o, none⟩) m c2], .int .i64 (x + 1)]) 14 25 rfl ?_ (run_callf Try.func18 (by kernel_rfl) (by kernel_rfl) (by simp only [List.map_toArray, List.map_cons, List.map_nil]; rfl))
        refine (count_c wr.drew w.heap.size A1 c1 (some ⟨b, o, none⟩) c2 m L S T R1.out.drew R2.out.drew HE.out h0 hm (x + 1)).mono ?_
        rintro e w2 ⟨rfl, b2⟩
        have b3 : Below wr.heap.size wr w2 := (bel_drawn (Below.refl _ wr) 1).trans b2
        have B2 := Lib.hid (BT.out.trans (b3.mono (Nat.le_of_lt (Nat.lt_of_lt_of_le KT.out.lt (Nat.le_refl _)))))
        have KT2 := Lib.hid (KT.out.past b3)
        have R12 := Lib.hid (R1.out.past b3)
        have R22 := Lib.hid (R2.out.past b3)
        refine Hb.back b2 (Nat.le_refl _) ?_
        refine Hb.take (v := .bool true) 16 27 rfl ?_ (fun w' hw' => by have jx := JC.out; go_simp; first | done | exact jx | simp [jx])
        refine Hb.take (v := .bool true) 17 28 rfl ?_ (fun _ _ => rfl)
        refine Hb.done ?_
-- END
        go_wp2_with fail
        go_roundw
        case rel => exact ⟨i + 1, by go_num, HI', KT2, R12, R22, B2⟩
        case measure => simp [intOf]; omega
      · have JC := Lib.hid (show ¬ ((cnt L (x + 1) : Nat) : Int) = (n : Int) by omega)
        have HD := Lib.hid (PCross.RunInv.done HF.out HL.out hn HI.out (by rw [HX.out]; exact fun h => hc h.2))
        rw [HX.out] at HD
        clear hc
        go_wp2_with fail
-- REGION (curfew/cross.ends).runEnd 2 runend_tn 8
        refine Hb.begin ?_
        refine Hb.take (v := .pointer (some ⟨w.heap.size, 1, none⟩)) 0 11 rfl ?_ (fun w' hw' => by go_simp; first | done | rfl | omega | exact wrap_in (by omega) (by omega) | exact Int.tmod_eq_emod_of_nonneg (by omega) | exact Int.tdiv_eq_ediv_of_nonneg (by omega) | (simp; omega))
        refine Hb.take (v := .slice (some ⟨b, o, none⟩) m c2) 1 12 rfl ?_ (fun w' hw' => by have c := (hw'.cell (p := ⟨w.heap.size, 1, none⟩) KT.out.lt).trans (KT.out.cell (i := 1) rfl); go_simp)
        refine Hb.take (v := .int .i64 (i : Nat)) 2 13 rfl ?_ (fun _ _ => rfl)
        refine Hb.take (v := .pointer (some ⟨b, o + i, none⟩)) 3 14 rfl ?_ (fun w' hw' => by go_simp; first | done | rfl | omega | exact wrap_in (by omega) (by omega) | exact Int.tmod_eq_emod_of_nonneg (by omega) | exact Int.tdiv_eq_ediv_of_nonneg (by omega) | (simp; omega))
        refine Hb.take (v := .int .i64 x) 4 15 rfl ?_ (fun w' hw' => by have c := (hw'.cell (p := ⟨b, o + i, none⟩) CX.out.1).trans CX.out.2; go_simp)
        refine Hb.take (v := .bool true) 5 16 rfl ?_ (fun w' hw' => by have jx := JX.out; go_simp; first | done | exact jx | simp [jx])
        refine Hb.take (v := .bool true) 6 17 rfl ?_ (fun _ _ => rfl)
        refine Hb.take (v := .agg #[.slice A1 m c1, .slice (some ⟨b, o, none⟩) m c2]) 7 18 rfl ?_ (fun w' hw' => by exact run_load2 Try.underlying47 rfl (by kernel_rfl) rfl ((hw'.cell (p := ⟨w.heap.size, 0, none⟩) KT.out.lt).trans (KT.out.cell (i := 0) rfl)) ((hw'.cell (p := ⟨w.heap.size, 0 + 1, none⟩) KT.out.lt).trans (KT.out.cell (i := 1) rfl)))
        refine Hb.take (v := .pointer (some ⟨w.heap.size, 1, none⟩)) 8 19 rfl ?_ (fun w' hw' => by go_simp; first | done | rfl | omega | exact wrap_in (by omega) (by omega) | exact Int.tmod_eq_emod_of_nonneg (by omega) | exact Int.tdiv_eq_ediv_of_nonneg (by omega) | (simp; omega))
        refine Hb.take (v := .slice (some ⟨b, o, none⟩) m c2) 9 20 rfl ?_ (fun w' hw' => by have c := (hw'.cell (p := ⟨w.heap.size, 1, none⟩) KT.out.lt).trans (KT.out.cell (i := 1) rfl); go_simp)
        refine Hb.take (v := .int .i64 (i : Nat)) 10 21 rfl ?_ (fun _ _ => rfl)
        refine Hb.take (v := .pointer (some ⟨b, o + i, none⟩)) 11 22 rfl ?_ (fun w' hw' => by go_simp; first | done | rfl | omega | exact wrap_in (by omega) (by omega) | exact Int.tmod_eq_emod_of_nonneg (by omega) | exact Int.tdiv_eq_ediv_of_nonneg (by omega) | (simp; omega))
        refine Hb.take (v := .int .i64 x) 12 23 rfl ?_ (fun w' hw' => by have c := (hw'.cell (p := ⟨b, o + i, none⟩) CX.out.1).trans CX.out.2; go_simp)
        refine Hb.take (v := .int .i64 (x + 1)) 13 24 rfl ?_ (fun w' hw' => by go_simp; first | done | rfl | omega | exact wrap_in (by omega) (by omega) | exact Int.tmod_eq_emod_of_nonneg (by omega) | exact Int.tdiv_eq_ediv_of_nonneg (by omega) | (simp; omega))
        refine Hb.take (v := .int .i64 (n : Nat)) 15 26 rfl ?_ (fun _ _ => rfl)
        refine Hb.call (f := 18) (args := #[.agg #[.slice A1 m c1, .slice (some ⟨b, o, none⟩) m c2], .int .i64 (x + 1)]) 14 25 rfl ?_ (run_callf Try.func18 (by kernel_rfl) (by kernel_rfl) (by simp only [List.map_toArray, List.map_cons, List.map_nil]; rfl))
        refine (count_c wr.drew w.heap.size A1 c1 (some ⟨b, o, none⟩) c2 m L S T R1.out.drew R2.out.drew HE.out h0 hm (x + 1)).mono ?_
        rintro e w2 ⟨rfl, b2⟩
        have b3 : Below wr.heap.size wr w2 := (bel_drawn (Below.refl _ wr) 1).trans b2
        have B2 := Lib.hid (BT.out.trans (b3.mono (Nat.le_of_lt (Nat.lt_of_lt_of_le KT.out.lt (Nat.le_refl _)))))
        have KT2 := Lib.hid (KT.out.past b3)
        have R12 := Lib.hid (R1.out.past b3)
        have R22 := Lib.hid (R2.out.past b3)
        refine Hb.back b2 (Nat.le_refl _) ?_
        refine Hb.take (v := .bool false) 16 27 rfl ?_ (fun w' hw' => by have jx := JC.out; go_simp; first | done | exact jx | simp [jx])
        refine Hb.take (v := .bool false) 17 28 rfl ?_ (fun _ _ => rfl)
        refine Hb.done ?_
-- END
        have c0 := KT2.out.cell (i := 1) rfl
        have cx := (b3.cell (p := ⟨b, o + i, none⟩) CX.out.1).trans CX.out.2
        go_wp2_with fail
        go_ret
        exact ⟨x, rfl, HD.out, B2.out⟩
    · have JX := Lib.hid (decide_eq_false hlt)
      have HD := Lib.hid (PCross.RunInv.done HF.out HL.out hn HI.out (by rw [HX.out]; exact fun h => hlt h.1))
      rw [HX.out] at HD
      clear hlt
      go_wp2_with fail
-- REGION (curfew/cross.ends).runEnd 2 runend_f 6
      refine Hb.begin ?_
      refine Hb.take (v := .pointer (some ⟨w.heap.size, 1, none⟩)) 0 11 rfl ?_ (fun w' hw' => by go_simp; first | done | rfl | omega | exact wrap_in (by omega) (by omega) | exact Int.tmod_eq_emod_of_nonneg (by omega) | exact Int.tdiv_eq_ediv_of_nonneg (by omega) | (simp; omega))
      refine Hb.take (v := .slice (some ⟨b, o, none⟩) m c2) 1 12 rfl ?_ (fun w' hw' => by have c := (hw'.cell (p := ⟨w.heap.size, 1, none⟩) KT.out.lt).trans (KT.out.cell (i := 1) rfl); go_simp)
      refine Hb.take (v := .int .i64 (i : Nat)) 2 13 rfl ?_ (fun _ _ => rfl)
      refine Hb.take (v := .pointer (some ⟨b, o + i, none⟩)) 3 14 rfl ?_ (fun w' hw' => by go_simp; first | done | rfl | omega | exact wrap_in (by omega) (by omega) | exact Int.tmod_eq_emod_of_nonneg (by omega) | exact Int.tdiv_eq_ediv_of_nonneg (by omega) | (simp; omega))
      refine Hb.take (v := .int .i64 x) 4 15 rfl ?_ (fun w' hw' => by have c := (hw'.cell (p := ⟨b, o + i, none⟩) CX.out.1).trans CX.out.2; go_simp)
      refine Hb.take (v := .bool false) 5 16 rfl ?_ (fun w' hw' => by have jx := JX.out; go_simp; first | done | exact jx | simp [jx])
      refine Hb.take (v := .bool false) 6 17 rfl ?_ (fun _ _ => rfl)
      refine Hb.pass 7 18 rfl ?_
      refine Hb.pass 8 19 rfl ?_
      refine Hb.pass 9 20 rfl ?_
      refine Hb.pass 10 21 rfl ?_
      refine Hb.pass 11 22 rfl ?_
      refine Hb.pass 12 23 rfl ?_
      refine Hb.pass 13 24 rfl ?_
      refine Hb.pass 14 25 rfl ?_
      refine Hb.pass 15 26 rfl ?_
      refine Hb.pass 16 27 rfl ?_
      refine Hb.take (v := .bool false) 17 28 rfl ?_ (fun _ _ => rfl)
      refine Hb.done ?_
-- END
      have c0 := KT.out.cell (i := 1) rfl
      have cx := CX.out.2
      go_wp2_with fail
      go_ret
      exact ⟨x, rfl, HD.out, bel_drawn BT.out 1⟩
end Go.Proofs.Ytapfdceopbkcgaa
