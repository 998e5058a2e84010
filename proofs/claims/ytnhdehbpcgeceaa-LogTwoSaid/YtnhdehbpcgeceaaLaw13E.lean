/- The walk of LogTwo. -/
import Derived.Test.YtnhdehbpcgeceaaLogF
import Derived.Test.YtnhdehbpcgeceaaEntL
import Derived.Test.YtnhdehbpcgeceaaInt
namespace Go.Proofs.Ytnhdehbpcgeceaa
open Go.RowKit

/-- A piece of a log W is put at a place of its beginning. -/
theorem Put_piece (w : World) (g : Nat) (F : List Nat) (W : List Ent) (p m k l : Nat) (h : Lg w g F (W.take p)) (hW : PLog.okN [] W = true) (hm : W.length = m) (hp : p ≤ m) (B : Nat) (A : Option Addr) (c : Nat)
    (R : Rd w B A c 7 (l - k) (els ((W.drop k).take 3))) (hd : 0 < (l - k) * 7 → ∀ q ∈ F, bk A ≠ some q) :
    Calls Try.prog 18 #[.pointer (some ⟨g, 0, none⟩), .int .i64 k, .slice A (l - k) c] w fun x w' => x = .returned (.bool (decide (k ≤ p))) ∧ ∃ p', p' ≤ m ∧ Went w w' g F (W.take p') := by
  have hlp : (W.take p).length = p := by rw [List.length_take]; omega
  by_cases hkp : k ≤ p
  · obtain ⟨h1, h2⟩ := PLog.put_piece hW (m := p) (k := k) (by omega) hkp 3
    refine (Put_in w g F (W.take p) h k (by rw [hlp]; exact hkp) B A c (l - k) _ R hd).mono ?_
    rw [h1, h2, decide_eq_true hkp]
    rintro x w1 ⟨rfl, wt⟩
    exact ⟨rfl, _, by omega, wt⟩
  · refine (Put_out w g F (W.take p) h k (Or.inr (by rw [hlp]; omega)) A c (l - k)).mono ?_
    rw [decide_eq_false hkp]
    rintro x w1 ⟨rfl, rfl⟩
    exact ⟨rfl, p, hp, Went.same h (Below.refl _ _)⟩
/-- The place that is reckoned. -/
theorem place_of (x : Int) (m : Nat) : ∃ (r : Int) (k : Nat), Int.tmod x ((m : Int) + 1) = r ∧ -(m : Int) ≤ r ∧ r ≤ m ∧ Int.tmod (r + m + 1) ((m : Int) + 1) = (k : Int) ∧ k ≤ m := by
  have h0 : (0 : Int) < (m : Int) + 1 := by omega
  have h1 := Int.tmod_lt_of_pos x h0
  have h2 := Int.lt_tmod_of_pos x h0
  refine ⟨Int.tmod x ((m : Int) + 1), (Int.tmod (Int.tmod x ((m : Int) + 1) + m + 1) ((m : Int) + 1)).toNat, rfl, by omega, by omega, ?_, ?_⟩
  · rw [Int.toNat_of_nonneg (Int.tmod_nonneg _ (by omega))]
  · have := Int.tmod_lt_of_pos (Int.tmod x ((m : Int) + 1) + m + 1) h0
    omega
/-- A log's slices, behind a call that wrote one log of two. -/
theorem Went.two {w w' : World} {g g2 : Nat} {F F2 : List Nat} {L L2 : List Ent} {base : Nat} (h2 : Lg w g2 F2 L2) (wt : Went w w' g F L) (hd : ∀ k ∈ F, k ∉ F2) (hb : ∀ k ∈ F, base ≤ k) (hs : base ≤ w.heap.size) :
    ∃ F', Lg w' g F' L ∧ Lg w' g2 F2 L2 ∧ (∀ k ∈ F', k ∉ F2) ∧ (∀ k ∈ F', base ≤ k) ∧ Below base w w' := by
  obtain ⟨⟨F', h1, hF⟩, t⟩ := wt
  refine ⟨F', h1, h2.touch t hd, fun k hk hm => ?_, fun k hk => ?_, t.below hb hs⟩
  · rcases hF k hk with q | q
    · exact hd k q hm
    · have := h2.hi k hm; omega
  · rcases hF k hk with q | q
    · exact hb k q
    · omega

set_option maxHeartbeats 16000000 in
set_option maxRecDepth 100000 in
theorem LogTwo_w (w : World) (A : Option Addr) (c n : Nat) (z : List Ent) (AC : Option Addr) (cc nc : Nat) (cs : List Int) (R : Rd w w.heap.size A c 7 n (els z)) (ok : ∀ e ∈ z, EntOk e) (RC : Rd w w.heap.size AC cc 1 nc (is cs)) (hi64 : ∀ x ∈ cs, -9223372036854775808 ≤ x ∧ x ≤ 9223372036854775807) :
    Calls Try.prog 10 #[.slice A n c, .slice AC nc cc] w fun e w' => e = .returned (.bool true) ∧ Below w.heap.size w w' := by
  have P1 := Lib.hid R
  have O1 := Lib.hid ok
  have C0 := Lib.hid RC
  have HI := Lib.hid hi64
  have hcap := RC.cap
  have hle := RC.le
  have hnc : nc ≤ 9223372036854775807 := by unfold maxLen at hcap; omega
  clear R ok RC hi64 hcap hle
  go_enter Try.func10, Try.ntmps10
  go_wp2_with fail
  refine (begun_c w).mono ?_
  rintro x w1 ⟨rfl, b1⟩
  have B1 := Lib.hid b1
  clear b1
  go_wp2_with fail
  refine (lEntries_c w1 A c n z 15 (P1.out.past B1.out).tight O1.out (by omega) (by omega)).mono ?_
  rintro x w2 ⟨A2, c2, es, rfl, hl2, o2, -, b2⟩
  have N2 := Lib.hid (Rd.of_own o2)
  have B2 := Lib.hid (B1.out.trans (b2.mono B1.out.size))
  clear o2 b2 B1 P1 O1 hl2
  go_wp2_with fail
  refine (rLog_c w2 _ A2 c2 es.length es N2.out).mono ?_
  have HW0 := Lib.hid (PLog.log_ok es)
  have HWL := Lib.hid (PLog.log_len es)
  generalize PLog.log es = W at *
  obtain ⟨m, hm⟩ : ∃ m, W.length = m := ⟨_, rfl⟩
  have HM := Lib.hid hm
  have hm60 : m ≤ 60 := by rw [← hm]; exact HWL.out
  rw [hm]
  clear hm
  rintro x w3 ⟨A3, c3, rfl, o3, b3⟩
  have N3 := Lib.hid (Rd.of_own o3)
  have B3 := Lib.hid (B2.out.trans (b3.mono B2.out.size))
  clear o3 b3 B2 N2
  go_wp2_with fail
  refine (New_c w3 0 none 0 0 [] (Rd.nil _ _ _)).mono ?_
  rintro x w4 ⟨g, F, rfl, l4, f4, b4⟩
  have L4 := Lib.hid (show Lg w4 g F (W.take 0) from l4)
  have HF4 := Lib.hid f4
  have S4 := Lib.hid b4.size
  have BB4 := Lib.hid b4
  clear l4 f4 b4
  go_wp2_with fail
  refine (New_c w4 0 none 0 0 [] (Rd.nil _ _ _)).mono ?_
  rintro x w5 ⟨g2, F2, rfl, l5, f5, b5⟩
  have HD := Lib.hid (show ∀ k ∈ F, k ∉ F2 from fun k hk hm => by have := L4.out.hi k hk; have := f5 k hm; omega)
  have L5 := Lib.hid (L4.out.past b5)
  have LL5 := Lib.hid (show Lg w5 g2 F2 (W.take 0) from l5)
  have HF5 := Lib.hid (show ∀ k ∈ F2, w3.heap.size ≤ k from fun k hk => Nat.le_trans S4.out (f5 k hk))
  have B5 := Lib.hid (BB4.out.trans (b5.mono S4.out))
  clear l5 f5 b5 L4 BB4 S4
  go_wp2_with fail
  go_loopw [9] (fun s9 wr => ∃ (i p q : Nat) (F F2 : List Nat), i ≤ nc ∧ i ≤ 12 ∧ s9 = .int .i64 i ∧ p ≤ m ∧ q ≤ m ∧ Hid (Lg wr g F (W.take p)) ∧ Hid (Lg wr g2 F2 (W.take q)) ∧ Hid (∀ k ∈ F, k ∉ F2) ∧ Hid (∀ k ∈ F, w3.heap.size ≤ k) ∧ Hid (∀ k ∈ F2, w3.heap.size ≤ k) ∧ Hid (Below w3.heap.size w3 wr)) (fun s9 _ => nc - (intOf s9).toNat)
  case atStart => exact ⟨0, 0, 0, F, F2, by omega, by omega, rfl, by omega, by omega, L5, LL5, HD, HF4, HF5, B5⟩
  case round =>
    clear L5 LL5 HD HF4 HF5 B5
    obtain ⟨i, p, q, F, F2, hi, hi12, rfl, hp, hq, LA, LB, HD, HA, HB, BT⟩ := hrel
    have cont : Hid (i < nc → i < 12 → True) := Lib.hid (fun _ _ => trivial)
    clear cont
    by_cases hin : i < nc ∧ i < 12
    · obtain ⟨hin, hin12⟩ := hin
      have j12 : (i : Int) < 12 := by omega
      have NT := Lib.hid (N3.out.below BT.out)
      have CT := Lib.hid ((C0.out.below B3.out).below (BT.out.mono B3.out.size))
      obtain ⟨bc, oc, x, rfl, dx, -, hx⟩ := CT.out.int hin
      have hxl : i < cs.length := by have := CT.out.ilen; omega
      have hxm : x ∈ cs := by rw [hx]; simp [List.getD, List.getElem?_eq_getElem hxl]
      have hx64 := HI.out x hxm
      clear hx hxl hxm
      obtain ⟨r, k, hr, hr1, hr2, hk, hkm⟩ := place_of x m
      obtain ⟨l, hl⟩ : ∃ l, min m (k + 3) = l := ⟨_, rfl⟩
      have hl1 : k ≤ l := by omega
      have hl2 : l ≤ m := by omega
      have HLM := Lib.hid hl
      obtain ⟨A6, c6, hrun6, r6⟩ := cut_any (P := Try.prog) (w := wr) 22 34 Try.underlying22 ent_info NT.out (some (.int .i64 k)) (some (.int .i64 l)) k l k l (Or.inr ⟨rfl, rfl⟩) (Or.inr ⟨rfl, rfl⟩) hl1 hl2
      have e6 : ((els W).drop (k * 7)).take ((l - k) * 7) = els ((W.drop k).take 3) := by
        rw [els_drop, els_take]
        congr 1
        by_cases h3 : k + 3 ≤ m
        · rw [show l - k = 3 by omega]
        · rw [List.take_of_length_le (by rw [List.length_drop, HM.out]; omega), List.take_of_length_le (by rw [List.length_drop, HM.out]; omega)]
      rw [e6] at r6
      have R6 := Lib.hid r6
      clear r6 e6 hl
      by_cases hpar : i % 2 = 1
      · have jpar : Int.tmod (i : Int) 2 = 1 := by rw [Int.tmod_eq_emod_of_nonneg (by omega)]; omega
        clear hpar
        have HPl := Lib.hid (show (W.take q).length = q by rw [List.length_take, HM.out]; omega)
        have HPC := Lib.hid (Put_piece wr g2 F2 W q m k l LB.out HW0.out HM.out hq _ A6 c6 R6.out (R6.out.apart HB.out))
        by_cases hkp : k ≤ q
        · have jkp : (k : Int) ≤ (q : Int) := by omega
          go_wp2_with fail
          refine (Len_c wr g2 F2 _ LB.out).mono ?_
          rw [HPl.out]
          rintro x w' ⟨rfl, rfl⟩
          go_wp2_with (first | ((with_reducible show wpList _ _ _ ((⟨some 64, Op.call _, _, _, _, _⟩ : Oper) :: _) _ _); (refine wpList_min rfl _ _ _ rfl (m) (k + 3) rfl rfl ?_; rw [HLM.out])) | ((with_reducible show wpList _ _ _ ((⟨some 65, Op.slice _ _ _ _ _, _, _, _, _⟩ : Oper) :: _) _ _); (refine wpList_plain rfl fun K hK => ?_; unfold Oper.wp; rw [run_sliceOp (hrun6 _), Oper.upon_value]; refine hK _ _ ?_)))
          refine HPC.out.mono ?_
          rw [decide_eq_true hkp]
          rintro x w6 ⟨rfl, p', hp', wt⟩
          obtain ⟨F', h1, h2, h3, h4, h5⟩ := Went.two (base := w3.heap.size) LA.out wt (fun k h1 h2 => HD.out k h2 h1) HB.out BT.out.size
          have L1 := Lib.hid h1
          have L2 := Lib.hid h2
          have D1 := Lib.hid (show ∀ k ∈ F, k ∉ F' from fun k a1 a2 => h3 k a2 a1)
          have H4 := Lib.hid h4
          have BT6 := Lib.hid (BT.out.trans h5)
          clear wt h1 h2 h3 h4 h5
          go_wp2_with fail
          go_roundw
          case rel => exact ⟨i + 1, p, p', F, F', by omega, by omega, by go_num, by omega, by omega, L2, L1, D1, HA, H4, BT6⟩
          case measure => simp [intOf]; omega
        · have jkp : ¬ (k : Int) ≤ (q : Int) := by omega
          go_wp2_with fail
          refine (Len_c wr g2 F2 _ LB.out).mono ?_
          rw [HPl.out]
          rintro x w' ⟨rfl, rfl⟩
          go_wp2_with (first | ((with_reducible show wpList _ _ _ ((⟨some 64, Op.call _, _, _, _, _⟩ : Oper) :: _) _ _); (refine wpList_min rfl _ _ _ rfl (m) (k + 3) rfl rfl ?_; rw [HLM.out])) | ((with_reducible show wpList _ _ _ ((⟨some 65, Op.slice _ _ _ _ _, _, _, _, _⟩ : Oper) :: _) _ _); (refine wpList_plain rfl fun K hK => ?_; unfold Oper.wp; rw [run_sliceOp (hrun6 _), Oper.upon_value]; refine hK _ _ ?_)))
          refine HPC.out.mono ?_
          rw [decide_eq_false hkp]
          rintro x w6 ⟨rfl, p', hp', wt⟩
          obtain ⟨F', h1, h2, h3, h4, h5⟩ := Went.two (base := w3.heap.size) LA.out wt (fun k h1 h2 => HD.out k h2 h1) HB.out BT.out.size
          have L1 := Lib.hid h1
          have L2 := Lib.hid h2
          have D1 := Lib.hid (show ∀ k ∈ F, k ∉ F' from fun k a1 a2 => h3 k a2 a1)
          have H4 := Lib.hid h4
          have BT6 := Lib.hid (BT.out.trans h5)
          clear wt h1 h2 h3 h4 h5
          go_wp2_with fail
          go_roundw
          case rel => exact ⟨i + 1, p, p', F, F', by omega, by omega, by go_num, by omega, by omega, L2, L1, D1, HA, H4, BT6⟩
          case measure => simp [intOf]; omega
      · have jpar : Int.tmod (i : Int) 2 = 0 := by rw [Int.tmod_eq_emod_of_nonneg (by omega)]; omega
        clear hpar
        have HPl := Lib.hid (show (W.take p).length = p by rw [List.length_take, HM.out]; omega)
        have HPC := Lib.hid (Put_piece wr g F W p m k l LA.out HW0.out HM.out hp _ A6 c6 R6.out (R6.out.apart HA.out))
        by_cases hkp : k ≤ p
        · have jkp : (k : Int) ≤ (p : Int) := by omega
          go_wp2_with fail
          refine (Len_c wr g F _ LA.out).mono ?_
          rw [HPl.out]
          rintro x w' ⟨rfl, rfl⟩
          go_wp2_with (first | ((with_reducible show wpList _ _ _ ((⟨some 64, Op.call _, _, _, _, _⟩ : Oper) :: _) _ _); (refine wpList_min rfl _ _ _ rfl (m) (k + 3) rfl rfl ?_; rw [HLM.out])) | ((with_reducible show wpList _ _ _ ((⟨some 65, Op.slice _ _ _ _ _, _, _, _, _⟩ : Oper) :: _) _ _); (refine wpList_plain rfl fun K hK => ?_; unfold Oper.wp; rw [run_sliceOp (hrun6 _), Oper.upon_value]; refine hK _ _ ?_)))
          refine HPC.out.mono ?_
          rw [decide_eq_true hkp]
          rintro x w6 ⟨rfl, p', hp', wt⟩
          obtain ⟨F', h1, h2, h3, h4, h5⟩ := Went.two (base := w3.heap.size) LB.out wt HD.out HA.out BT.out.size
          have L1 := Lib.hid h1
          have L2 := Lib.hid h2
          have D1 := Lib.hid h3
          have H4 := Lib.hid h4
          have BT6 := Lib.hid (BT.out.trans h5)
          clear wt h1 h2 h3 h4 h5
          go_wp2_with fail
          go_roundw
          case rel => exact ⟨i + 1, p', q, F', F2, by omega, by omega, by go_num, by omega, by omega, L1, L2, D1, H4, HB, BT6⟩
          case measure => simp [intOf]; omega
        · have jkp : ¬ (k : Int) ≤ (p : Int) := by omega
          go_wp2_with fail
          refine (Len_c wr g F _ LA.out).mono ?_
          rw [HPl.out]
          rintro x w' ⟨rfl, rfl⟩
          go_wp2_with (first | ((with_reducible show wpList _ _ _ ((⟨some 64, Op.call _, _, _, _, _⟩ : Oper) :: _) _ _); (refine wpList_min rfl _ _ _ rfl (m) (k + 3) rfl rfl ?_; rw [HLM.out])) | ((with_reducible show wpList _ _ _ ((⟨some 65, Op.slice _ _ _ _ _, _, _, _, _⟩ : Oper) :: _) _ _); (refine wpList_plain rfl fun K hK => ?_; unfold Oper.wp; rw [run_sliceOp (hrun6 _), Oper.upon_value]; refine hK _ _ ?_)))
          refine HPC.out.mono ?_
          rw [decide_eq_false hkp]
          rintro x w6 ⟨rfl, p', hp', wt⟩
          obtain ⟨F', h1, h2, h3, h4, h5⟩ := Went.two (base := w3.heap.size) LB.out wt HD.out HA.out BT.out.size
          have L1 := Lib.hid h1
          have L2 := Lib.hid h2
          have D1 := Lib.hid h3
          have H4 := Lib.hid h4
          have BT6 := Lib.hid (BT.out.trans h5)
          clear wt h1 h2 h3 h4 h5
          go_wp2_with fail
          go_roundw
          case rel => exact ⟨i + 1, p', q, F', F2, by omega, by omega, by go_num, by omega, by omega, L1, L2, D1, H4, HB, BT6⟩
          case measure => simp [intOf]; omega
    · have stop : Below w.heap.size w wr := B3.out.trans (BT.out.mono B3.out.size)
      have HST := Lib.hid stop
      clear stop
      have HPl := Lib.hid (show (W.take p).length = p by rw [List.length_take, HM.out]; omega)
      have HQl := Lib.hid (show (W.take q).length = q by rw [List.length_take, HM.out]; omega)
      by_cases hin2 : i < nc
      · have j12 : ¬ (i : Int) < 12 := by omega
        clear hin
        go_wp2_with fail
        refine (From_0 wr g F _ LA.out).mono ?_
        rw [HPl.out]
        rintro x w6 ⟨A6, c6, rfl, o6, b6⟩
        have X6 := Lib.hid (Rd.of_own o6)
        have LB6 := Lib.hid (LB.out.past b6)
        have B6 := Lib.hid (HST.out.trans (b6.mono HST.out.size))
        clear o6 b6
        go_wp2_with fail
        refine (From_0 w6 g2 F2 _ LB6.out).mono ?_
        rw [HQl.out]
        rintro x w7 ⟨A7, c7, rfl, o7, b7⟩
        have Y7 := Lib.hid (Rd.of_own o7)
        have X7 := Lib.hid (X6.out.past b7)
        have B7 := Lib.hid (B6.out.trans (b7.mono B6.out.size))
        clear o7 b7 X6 B6 LB6
        go_wp2_with fail
        by_cases hpq : p ≤ q
        · have HF := Lib.hid (show PLog.front (W.take p) (W.take q) = true from (PLog.front_iff _ _).2 (List.take_prefix_take_left hpq))
          refine (Front_c w7 _ _ A6 A7 c6 p c7 q _ _ X7.out Y7.out).mono ?_
          rw [HF.out]
          rintro x w8 ⟨rfl, b8⟩
          go_wp2_with fail
          go_ret
          exact ⟨rfl, B7.out.trans (b8.mono B7.out.size)⟩
        · have HF := Lib.hid (show PLog.front (W.take p) (W.take q) = false by unfold PLog.front; rw [HPl.out, HQl.out, decide_eq_false hpq]; rfl)
          have HG := Lib.hid (show PLog.front (W.take q) (W.take p) = true from (PLog.front_iff _ _).2 (List.take_prefix_take_left (by omega)))
          refine (Front_c w7 _ _ A6 A7 c6 p c7 q _ _ X7.out Y7.out).mono ?_
          rw [HF.out]
          rintro x w8 ⟨rfl, b8⟩
          have X8 := Lib.hid (X7.out.past b8)
          have Y8 := Lib.hid (Y7.out.past b8)
          have B8 := Lib.hid (B7.out.trans (b8.mono B7.out.size))
          clear b8
          go_wp2_with fail
          refine (Front_c w8 _ _ A7 A6 c7 q c6 p _ _ Y8.out X8.out).mono ?_
          rw [HG.out]
          rintro x w9 ⟨rfl, b9⟩
          go_wp2_with fail
          go_ret
          exact ⟨rfl, B8.out.trans (b9.mono B8.out.size)⟩
      · clear hin
        go_wp2_with fail
        refine (From_0 wr g F _ LA.out).mono ?_
        rw [HPl.out]
        rintro x w6 ⟨A6, c6, rfl, o6, b6⟩
        have X6 := Lib.hid (Rd.of_own o6)
        have LB6 := Lib.hid (LB.out.past b6)
        have B6 := Lib.hid (HST.out.trans (b6.mono HST.out.size))
        clear o6 b6
        go_wp2_with fail
        refine (From_0 w6 g2 F2 _ LB6.out).mono ?_
        rw [HQl.out]
        rintro x w7 ⟨A7, c7, rfl, o7, b7⟩
        have Y7 := Lib.hid (Rd.of_own o7)
        have X7 := Lib.hid (X6.out.past b7)
        have B7 := Lib.hid (B6.out.trans (b7.mono B6.out.size))
        clear o7 b7 X6 B6 LB6
        go_wp2_with fail
        by_cases hpq : p ≤ q
        · have HF := Lib.hid (show PLog.front (W.take p) (W.take q) = true from (PLog.front_iff _ _).2 (List.take_prefix_take_left hpq))
          refine (Front_c w7 _ _ A6 A7 c6 p c7 q _ _ X7.out Y7.out).mono ?_
          rw [HF.out]
          rintro x w8 ⟨rfl, b8⟩
          go_wp2_with fail
          go_ret
          exact ⟨rfl, B7.out.trans (b8.mono B7.out.size)⟩
        · have HF := Lib.hid (show PLog.front (W.take p) (W.take q) = false by unfold PLog.front; rw [HPl.out, HQl.out, decide_eq_false hpq]; rfl)
          have HG := Lib.hid (show PLog.front (W.take q) (W.take p) = true from (PLog.front_iff _ _).2 (List.take_prefix_take_left (by omega)))
          refine (Front_c w7 _ _ A6 A7 c6 p c7 q _ _ X7.out Y7.out).mono ?_
          rw [HF.out]
          rintro x w8 ⟨rfl, b8⟩
          have X8 := Lib.hid (X7.out.past b8)
          have Y8 := Lib.hid (Y7.out.past b8)
          have B8 := Lib.hid (B7.out.trans (b8.mono B7.out.size))
          clear b8
          go_wp2_with fail
          refine (Front_c w8 _ _ A7 A6 c7 q c6 p _ _ Y8.out X8.out).mono ?_
          rw [HG.out]
          rintro x w9 ⟨rfl, b9⟩
          go_wp2_with fail
          go_ret
          exact ⟨rfl, B8.out.trans (b9.mono B8.out.size)⟩
end Go.Proofs.Ytnhdehbpcgeceaa
