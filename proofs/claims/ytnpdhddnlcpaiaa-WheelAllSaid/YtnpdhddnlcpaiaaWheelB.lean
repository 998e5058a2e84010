/- Contracts of package wheel: At, Stop, Len, Next. -/
import Derived.Test.YtnpdhddnlcpaiaaWheelA
namespace Go.Proofs.Ytnpdhddnlcpaiaa
open Go.RowKit

section
variable {P : Program}
theorem run_part2 {w : World} {e : TypeId} {cs : List Value} {i : Nat} {u v : Value} (ha : (isAgg e).run P w = .ok true w) (hz : (sizeOf e).run P w = .ok 2 w) (hu : cs[2 * i]? = some u) (hv : cs[2 * i + 1]? = some v) :
    (part e cs.toArray (i * 2)).run P w = .ok (.agg #[u, v]) w := by
  rw [Nat.mul_comm i 2]
  have hl : 2 * i + 1 < cs.length := (List.getElem?_eq_some_iff.1 hv).1
  have he : (cs.drop (2 * i)).take 2 = [u, v] := by
    rw [List.drop_eq_getElem_cons (show 2 * i < cs.length by omega), List.drop_eq_getElem_cons (show 2 * i + 1 < cs.length by omega)]
    rw [List.getElem?_eq_getElem (by omega)] at hu hv
    simp at hu hv
    simp [hu, hv]
  unfold part
  simp [Sem.run_bind, ha, hz, he]

/-- 'a[i]' of an array by value, its elements of two cells. -/
theorem wpList_index2 {w : World} {ops : Array Oper} {rest : List Oper} {o : Oper} {a : Act} {Q : Exit → Act → World → Prop} (hgd : o.guard = none) (t : TypeId) (x ix : Operand) (ho : o.op = .index t x ix)
    (n : Nat) (e : TypeId) (ht : P.underlying t = some (.array n e)) (ha : ∀ w, (isAgg e).run P w = .ok true w) (hz : ∀ w, (sizeOf e).run P w = .ok 2 w)
    (cs : List Value) (hx : a.eval x = .agg cs.toArray) (i : Nat) (hi : a.eval ix = .int .i64 i) (hlt : i < n) (u v : Value) (hu : cs[2 * i]? = some u) (hv : cs[2 * i + 1]? = some v)
    (h : wpList P ops Q rest (a.put o.dst (.agg #[u, v])) w) : wpList P ops Q (o :: rest) a w := by
  refine wpList_plain hgd fun K hK => ?_
  have hrun : (Instr.index t (.agg cs.toArray) (.int .i64 i)).run P w = .ok (.agg #[u, v]) w := by
    simp [Instr.index, Sem.run_bind, asIntOf, run_underlying ht, hlt, hz, run_part2 (ha w) (hz w) hu hv]
  unfold Oper.wp execOp
  simp only [ho, hx, hi, Sem.run_bind, hrun, Result.andThen_ok, Sem.run_pure]
  exact hK _ _ h
end

theorem arr_info : (Try.prog.info? 51).map (·.size) = some 128 := by kernel_rfl
theorem arr_under : Try.prog.underlying 51 = some (.array 64 50) := by kernel_rfl
theorem Wl.range {w : World} {g : Nat} {now : Int} {T : List (Int × Bool)} (h : Wl w g now T) : w.rangeAt g 1 (T.flatMap tc) := fun j v hv => Blk.cell h.2 (by rw [Nat.add_comm]; simpa using hv)
theorem Wl.info {w : World} {g : Nat} {now : Int} {T : List (Int × Bool)} (h : Wl w g now T) : (Try.prog.info? 51).map (·.size) = some (T.flatMap tc).length := by
  rw [arr_info, tc_len, h.1]

theorem at_nil (w : World) (i : Int) :
    Calls Try.prog 15 #[.pointer none, .int .i64 i] w fun e w' => e = .returned (.tuple #[.int .i64 0, .bool false]) ∧ w = w' := by
  go_enter Try.func15, Try.ntmps15
  go_wp2_with fail
  go_ret2
  exact ⟨rfl, rfl⟩

theorem at_c (w : World) (g : Nat) (now : Int) (T : List (Int × Bool)) (h : Wl w g now T) (i : Int) :
    Calls Try.prog 15 #[.pointer (some ⟨g, 0, none⟩), .int .i64 i] w fun e w' => e = .returned (.tuple #[.int .i64 (PWheel.told T i).1, .bool (PWheel.told T i).2]) ∧ ∃ n, w' = w.drewN n := by
  cases hi : PWheel.isI i
  · have H := Lib.hid hi
    have H2 := Lib.hid (show PWheel.told T i = (0, false) by simp [PWheel.told, hi])
    clear hi
    go_enter Try.func15, Try.ntmps15
    go_wp2_with fail
    refine (wID_c w i).mono ?_
    rw [H.out]
    rintro e w' ⟨rfl, rfl⟩
    go_wp2_with fail
    go_ret2
    exact ⟨by rw [H2.out]; rfl, 0, rfl⟩
  · have hi2 := of_decide_eq_true hi
    obtain ⟨j, rfl⟩ := Int.eq_ofNat_of_zero_le hi2.1
    have hj : j < 64 := by omega
    have H := Lib.hid hi
    have H2 := Lib.hid (show PWheel.told T j = PWheel.tm T j by simp [PWheel.told, hi])
    obtain ⟨c1, c2⟩ := h.at_ hj
    generalize PWheel.tm T j = t at *
    clear hi hi2 h
    go_enter Try.func15, Try.ntmps15
    go_wp2_with fail
    refine (wID_c w j).mono ?_
    rw [H.out]
    rintro e w' ⟨rfl, rfl⟩
    go_wp2_with fail
    go_quiet (fail)
    go_wp2_with fail
    go_ret2
    exact ⟨by rw [H2.out]; rfl, nq, rfl⟩

theorem stop_nil (w : World) (i : Int) :
    Calls Try.prog 12 #[.pointer none, .int .i64 i] w fun e w' => e = .returned (.bool false) ∧ w = w' := by
  go_enter Try.func12, Try.ntmps12
  go_wp2_with fail
  refine (at_nil w i).mono ?_
  rintro e w' ⟨rfl, rfl⟩
  go_wp2_with fail
  go_ret
  exact ⟨rfl, rfl⟩

theorem stop_c (w : World) (g : Nat) (now : Int) (T : List (Int × Bool)) (h : Wl w g now T) (i : Int) :
    Calls Try.prog 12 #[.pointer (some ⟨g, 0, none⟩), .int .i64 i] w fun e w' =>
      e = .returned (.bool (PWheel.told T i).2) ∧ Wl w' g now (PWheel.stopT T i) ∧ Touch [g] w w' := by
  cases ht : (PWheel.told T i).2
  · have H := Lib.hid ht
    have H2 := Lib.hid (show PWheel.stopT T i = T by simp [PWheel.stopT, ht])
    clear ht
    go_enter Try.func12, Try.ntmps12
    go_wp2_with fail
    refine (at_c w g now T h i).mono ?_
    rw [H.out]
    rintro e w' ⟨rfl, n, rfl⟩
    go_wp2_with fail
    go_ret
    exact ⟨rfl, by rw [H2.out]; exact h.touch (S := []) ((Touch.refl _ _).drawn _) (by simp), (Touch.refl _ _).drawn _⟩
  · have hi : PWheel.isI i = true := by
      cases hi : PWheel.isI i
      · simp [PWheel.told, hi] at ht
      · rfl
    have hi2 := of_decide_eq_true hi
    obtain ⟨j, rfl⟩ := Int.eq_ofNat_of_zero_le hi2.1
    have hj : j < 64 := by omega
    have H := Lib.hid ht
    have H2 := Lib.hid (show PWheel.stopT T j = T.set j (0, false) by simp [PWheel.stopT, ht])
    clear ht hi hi2
    have h0 := Lib.hid h
    go_enter Try.func12, Try.ntmps12
    go_wp2_with fail
    refine (at_c w g now T h j).mono ?_
    rw [H.out]
    rintro e w' ⟨rfl, n, rfl⟩
    have hn := h0.out.touch (S := []) ((Touch.refl [] w).drawn n) (by simp)
    have ht := Lib.hid ((Touch.refl [g] w).drawn n)
    clear h h0
    generalize w.drewN n = w1 at *
    obtain ⟨c1, c2⟩ := hn.at_ hj
    have f1 := hn.free (1 + j * 2)
    have f2 := hn.free (1 + j * 2 + 1)
    have hs := Lib.hid (hn.set hj 0 false)
    clear hn
    go_wp2_with fail
    go_ret
    exact ⟨rfl, by rw [H2.out]; exact hs.out, ht.out.trans ((Touch.of_grown (grown_set _ _ _ _)).trans (Touch.of_grown (grown_set _ _ _ _)))⟩

theorem len_nil (w : World) :
    Calls Try.prog 18 #[.pointer none] w fun e w' => e = .returned (.int .i64 0) ∧ w = w' := by
  go_enter Try.func18, Try.ntmps18
  go_wp2_with fail
  go_ret
  exact ⟨rfl, rfl⟩
theorem now_nil (w : World) :
    Calls Try.prog 17 #[.pointer none] w fun e w' => e = .returned (.int .i64 0) ∧ w = w' := by
  go_enter Try.func17, Try.ntmps17
  go_wp2_with fail
  go_ret
  exact ⟨rfl, rfl⟩
theorem next_nil (w : World) :
    Calls Try.prog 16 #[.pointer none] w fun e w' => e = .returned (.tuple #[.int .i64 0, .bool false]) ∧ w = w' := by
  go_enter Try.func16, Try.ntmps16
  go_wp2_with fail
  go_ret2
  exact ⟨rfl, rfl⟩

set_option maxRecDepth 100000 in
theorem len_c (w : World) (g : Nat) (now : Int) (T : List (Int × Bool)) (h : Wl w g now T) :
    Calls Try.prog 18 #[.pointer (some ⟨g, 0, none⟩)] w fun e w' => e = .returned (.int .i64 (PWheel.cnt T 64)) ∧ Below w.heap.size w w' := by
  have HR := Lib.hid h.range
  have HI := Lib.hid h.info
  have HT := Lib.hid h.1
  clear h
  go_enter Try.func18, Try.ntmps18
  go_wp2_with (with_reducible show wpList _ _ _ ((⟨some 11, Op.load 51 _, _, _, _, _⟩ : Oper) :: _) _ _
               go_must (refine wpList_load_mid rfl 51 (.tmp 10) rfl g 1 rfl (T.flatMap tc) _ HR.out arr_under rfl HI.out ?_))
  go_loopw [3, 12] (fun s3 s12 wr => ∃ k : Nat, k ≤ 64 ∧ s12 = .int .i64 k ∧ s3 = .int .i64 (PWheel.cnt T k) ∧ Hid (Below w.heap.size w wr)) (fun _ s12 _ => 64 - (intOf s12).toNat)
  case atStart => exact ⟨0, by omega, rfl, rfl, Lib.hid (Below.refl _ _)⟩
  case round =>
    obtain ⟨k, hk, rfl, rfl, hB⟩ := hrel
    by_cases hlt : k < 64
    · obtain ⟨t1, t2⟩ := tc_at T k (by rw [HT.out]; exact hlt)
      have hn : PWheel.cnt T (k + 1) = PWheel.cnt T k + (if (PWheel.tm T k).2 then 1 else 0) := rfl
      have hl := PWheel.cnt_le T k
      generalize PWheel.tm T k = t at *
      generalize PWheel.cnt T k = c at *
      have HN := Lib.hid (And.intro hn (And.intro t1 t2))
      clear hn t1 t2
      obtain ⟨x, b⟩ := t
      cases b
      all_goals
        go_wp2_with (with_reducible show wpList _ _ _ ((⟨some 14, Op.index _ _ _, _, _, _, _⟩ : Oper) :: _) _ _
                     go_must (refine wpList_index2 rfl 51 (.tmp 11) (.tmp 12) rfl 64 50 arr_under Try.isAgg50 Try.sizeOf50 (T.flatMap tc) rfl k rfl hlt _ _ HN.out.2.1 HN.out.2.2 ?_))
        go_roundw
        case rel => exact ⟨k + 1, by omega, by go_num, by rw [HN.out.1]; rfl, Lib.hid (hB.out.alloc hB.out.size _)⟩
        case measure => simp [intOf]; omega
    · obtain rfl : k = 64 := by omega
      go_wp2_with fail
      go_ret
      exact ⟨rfl, hB.out⟩

set_option maxRecDepth 100000 in
theorem next_c (w : World) (g : Nat) (now : Int) (T : List (Int × Bool)) (h : Wl w g now T) :
    Calls Try.prog 16 #[.pointer (some ⟨g, 0, none⟩)] w fun e w' => e = .returned (.tuple #[.int .i64 (PWheel.next T 64).1, .bool (PWheel.next T 64).2]) ∧ Below w.heap.size w w' := by
  have HI := Lib.hid h.info
  have HT := Lib.hid h.1
  have h1 := h.touch (S := []) (Touch.of_below ((Below.refl _ w).alloc (Nat.le_refl _) (.cells #[.int .i64 0, .bool false] 50))) (by simp)
  have HR := Lib.hid h1.range
  clear h h1
  go_enter Try.func16, Try.ntmps16
  go_wp2_with (with_reducible show wpList _ _ _ ((⟨some 12, Op.load 51 _, _, _, _, _⟩ : Oper) :: _) _ _
               go_must (refine wpList_load_mid rfl 51 (.tmp 11) rfl g 1 rfl (T.flatMap tc) _ HR.out arr_under rfl HI.out ?_))
  go_loopw [13] (fun s13 wr => ∃ k : Nat, k ≤ 64 ∧ s13 = .int .i64 k ∧ Hid (Blk wr w.heap.size 50 [.int .i64 (PWheel.next T k).1, .bool (PWheel.next T k).2]) ∧ Hid (Below w.heap.size w wr)) (fun s13 _ => 64 - (intOf s13).toNat)
  case atStart => exact ⟨0, by omega, rfl, Lib.hid (Blk.new w _ _), Lib.hid ((Below.refl _ _).alloc (Nat.le_refl _) _)⟩
  case round =>
    clear HR
    obtain ⟨k, hk, rfl, hK, hB⟩ := hrel
    by_cases hlt : k < 64
    · obtain ⟨t1, t2⟩ := tc_at T k (by rw [HT.out]; exact hlt)
      have hn : PWheel.next T (k + 1) = if (PWheel.tm T k).2 && (!(PWheel.next T k).2 || decide ((PWheel.tm T k).1 < (PWheel.next T k).1)) then PWheel.tm T k else PWheel.next T k := rfl
      generalize PWheel.tm T k = t at *
      generalize PWheel.next T k = n at *
      have HN := Lib.hid (And.intro hn (And.intro t1 t2))
      clear hn t1 t2
      obtain ⟨x, b⟩ := t
      obtain ⟨y, c⟩ := n
      have q1 := Blk.cell hK.out (i := 0) rfl
      have q2 := Blk.cell hK.out (i := 1) rfl
      have q3 := Blk.free hK.out 0
      have q4 := Blk.free hK.out 1
      have q5 : w.heap.size < wr.heap.size := hK.out.lt
      have hK2 := Lib.hid ((hK.out.alloc (.cells #[.int .i64 x, .bool b] 50)))
      have hB2 := Lib.hid (hB.out.alloc hB.out.size (.cells #[.int .i64 x, .bool b] 50))
      have hB3' := ((hB.out.setCell (p := ⟨w.heap.size, 0, none⟩) (Nat.le_refl _) (.int .i64 x)).setCell (p := ⟨w.heap.size, 1, none⟩) (Nat.le_refl _) (.bool b))
      have hB3 := Lib.hid (hB3'.alloc hB3'.size (.cells #[.int .i64 x, .bool b] 50))
      have hK3 := Lib.hid ((Blk.set (Blk.set hK.out 0 (.int .i64 x)) 1 (.bool b)).alloc (.cells #[.int .i64 x, .bool b] 50))
      clear hB3'
      cases b
      · have e : PWheel.next T (k + 1) = (y, c) := by rw [HN.out.1]; simp
        have HE := Lib.hid e
        clear e
        go_wp2_with (with_reducible show wpList _ _ _ ((⟨some 15, Op.index _ _ _, _, _, _, _⟩ : Oper) :: _) _ _
                     go_must (refine wpList_index2 rfl 51 (.tmp 12) (.tmp 13) rfl 64 50 arr_under Try.isAgg50 Try.sizeOf50 (T.flatMap tc) rfl k rfl hlt _ _ HN.out.2.1 HN.out.2.2 ?_))
        go_roundw
        case rel => exact ⟨k + 1, by omega, by go_num, by rw [HE.out]; exact hK2, hB2⟩
        case measure => simp [intOf]; omega
      · cases c
        · have e : PWheel.next T (k + 1) = (x, true) := by rw [HN.out.1]; simp
          have HE := Lib.hid e
          clear e
          go_wp2_with (with_reducible show wpList _ _ _ ((⟨some 15, Op.index _ _ _, _, _, _, _⟩ : Oper) :: _) _ _
                       go_must (refine wpList_index2 rfl 51 (.tmp 12) (.tmp 13) rfl 64 50 arr_under Try.isAgg50 Try.sizeOf50 (T.flatMap tc) rfl k rfl hlt _ _ HN.out.2.1 HN.out.2.2 ?_))
          go_roundw
          case rel => exact ⟨k + 1, by omega, by go_num, by rw [HE.out]; exact hK3, hB3⟩
          case measure => simp [intOf]; omega
        · by_cases hxy : x < y
          · have e : PWheel.next T (k + 1) = (x, true) := by rw [HN.out.1]; simp [hxy]
            have HE := Lib.hid e
            clear e
            go_wp2_with (with_reducible show wpList _ _ _ ((⟨some 15, Op.index _ _ _, _, _, _, _⟩ : Oper) :: _) _ _
                         go_must (refine wpList_index2 rfl 51 (.tmp 12) (.tmp 13) rfl 64 50 arr_under Try.isAgg50 Try.sizeOf50 (T.flatMap tc) rfl k rfl hlt _ _ HN.out.2.1 HN.out.2.2 ?_))
            go_roundw
            case rel => exact ⟨k + 1, by omega, by go_num, by rw [HE.out]; exact hK3, hB3⟩
            case measure => simp [intOf]; omega
          · have e : PWheel.next T (k + 1) = (y, true) := by rw [HN.out.1]; simp [hxy]
            have HE := Lib.hid e
            clear e
            go_wp2_with (with_reducible show wpList _ _ _ ((⟨some 15, Op.index _ _ _, _, _, _, _⟩ : Oper) :: _) _ _
                         go_must (refine wpList_index2 rfl 51 (.tmp 12) (.tmp 13) rfl 64 50 arr_under Try.isAgg50 Try.sizeOf50 (T.flatMap tc) rfl k rfl hlt _ _ HN.out.2.1 HN.out.2.2 ?_))
            go_roundw
            case rel => exact ⟨k + 1, by omega, by go_num, by rw [HE.out]; exact hK2, hB2⟩
            case measure => simp [intOf]; omega
    · obtain rfl : k = 64 := by omega
      generalize hnx : PWheel.next T 64 = n at hK
      have HX := Lib.hid hnx
      clear hnx
      have q1 := Blk.cell hK.out (i := 0) rfl
      have q2 := Blk.cell hK.out (i := 1) rfl
      go_wp2_with fail
      go_quiet (fail)
      go_wp2_with fail
      go_ret2
      exact ⟨by rw [HX.out]; rfl, below_drawn hB.out _⟩
end Go.Proofs.Ytnpdhddnlcpaiaa
