/- The walk of WheelAll. -/
import Derived.Test.YtnpdhddnlcpaiaaLaw7P
namespace Go.Proofs.Ytnpdhddnlcpaiaa
open Go.RowKit

set_option maxHeartbeats 6400000 in
set_option maxRecDepth 100000 in
theorem WheelAll_w (w : World) (now0 : Int) (A : Option Addr) (c n : Nat) (ops : List (Int × Int × Int)) (h0 : Rd w w.heap.size A c 3 n (ocs ops)) :
    Calls Try.prog 3 #[.int .i64 now0, .slice A n c] w fun e w' => e = .returned (.bool true) ∧ Below w.heap.size w w' := by
  have HR := Lib.hid h0
  clear h0
  go_enter Try.func3, Try.ntmps3
  go_wp2_with fail
  refine (begun_c w).mono ?_
  rintro e w1 ⟨rfl, b1⟩
  go_wp2_with fail
  refine (new_c w1 now0).mono ?_
  rintro e w2 ⟨rfl, W2, b2⟩
  have S0 : Hid (St w w1.heap.size w2 (PWheel.newT now0) [] PWheel.zero none 0 0) := Lib.hid ⟨PMod.Mod.nil, W2, Ow.nil _ _ _ _, b1.trans (b2.mono b1.size), b1.size⟩
  clear b1 b2 W2
  go_upto_if 26 with (go_at_call 10; refine (rTime_c _ _).mono ?_; rintro e w' ⟨rfl, rfl⟩)
  go_cut [0] from 22 (fun s0 wx => s0 = .int .i64 (PWheel.newT now0) ∧ wx = w2)
  case first =>
    cases ht : PWheel.isT now0
    · have HN := Lib.hid (show PWheel.newT now0 = 0 by simp [PWheel.newT, ht])
      go_wp2_with fail
      go_meet
      case rel => exact ⟨by rw [HN.out], rfl⟩
    · have HN := Lib.hid (show PWheel.newT now0 = now0 by simp [PWheel.newT, ht])
      go_wp2_with fail
      go_meet
      case rel => exact ⟨by rw [HN.out], rfl⟩
  case rest =>
    obtain ⟨rfl, hw⟩ := hcut
    have hw' := hw.symm
    clear hw
    subst hw'
    generalize PWheel.newT now0 = now1 at *
    go_wp2_with fail
    go_loopg [0, 7, 8] n (fun gh s0 s7 s8 wr => ∃ (i : Nat) (now : Int) (l : List (Int × Int)) (T : List (Int × Bool)) (Al : Option Addr) (nl cl : Nat), i ≤ n ∧ i ≤ 60 ∧ n - i ≤ gh ∧ s0 = .int .i64 now ∧ s8 = .int .i64 i ∧ s7 = .slice Al nl cl ∧ nl ≤ i ∧ Hid (St w w1.heap.size wr now l T Al nl cl))
    case atStart => exact ⟨0, now1, [], _, none, 0, 0, by omega, by omega, by omega, rfl, rfl, rfl, by omega, S0⟩
    case round =>
      clear S0
      obtain ⟨i, now, l, T, Al, nl, cl, hin, hi60, hgh, rfl, rfl, rfl, hnl, HS⟩ := hrel
      by_cases h1 : i < n
      · by_cases h2 : i < 60
        · obtain ⟨bo, oo, kd, id, t, rfl, o1, o2, o3⟩ := (HR.out.below HS.out.below).trip h1
          have hb0 : bo < wr.heap.size := World.block_lt_of_cell? wr _ o1
          have hN := Lib.hid (Blk.new wr #[.int .i64 kd, .int .i64 id, .int .i64 t] 29)
          have HS1 := Lib.hid (HS.out.past ((Below.refl _ _).alloc (Nat.le_refl _) (.cells #[.int .i64 kd, .int .i64 id, .int .i64 t] 29)))
          have hs1 : (wr.alloc (.cells #[.int .i64 kd, .int .i64 id, .int .i64 t] 29)).heap.size = wr.heap.size + 1 := by simp
          have HSZ := Lib.hid hs1
          clear hs1
          go_wp2_with fail
          clear o1 o2 o3
          generalize wr.heap.size = gO at *
          generalize wr.alloc (.cells #[.int .i64 kd, .int .i64 id, .int .i64 t] 29) = w3 at *
          clear hb0
          go_loopw [10, 11] (fun s10 s11 wr => ∃ k : Nat, k ≤ nl ∧ s11 = .int .i64 k ∧ Hid (Found l id k s10) ∧ (∃ v : Int, s10 = .int .i64 v) ∧ Hid (St w w1.heap.size wr now l T Al nl cl) ∧ Hid (Blk wr gO 29 [.int .i64 kd, .int .i64 id, .int .i64 t])) (fun _ s11 _ => nl - (intOf s11).toNat)
          case atStart => exact ⟨0, by omega, rfl, Lib.hid (.inl ⟨rfl, fun m h => by omega⟩), ⟨_, rfl⟩, HS1, hN⟩
          case round =>
            clear HS1 hN HS HSZ
            obtain ⟨k, hk, rfl, hF, ⟨v, rfl⟩, HS, HO⟩ := hrel
            by_cases hkn : k < nl
            · obtain ⟨b, o, hA, hb, c1, -⟩ := HS.out.list.rd.pair hkn
              have q1 := Blk.cell HO.out (i := 1) rfl
              obtain ⟨x, hx⟩ : ∃ x, x = (pr l k).1 := ⟨_, rfl⟩
              rw [← hx] at c1
              have HX := Lib.hid hx
              subst hA
              clear hx
              by_cases e : x = id
              · subst e
                go_wp2_with fail
                go_quiet (fail)
                go_wp2_with fail
                go_roundw
                case rel => exact ⟨k + 1, by omega, by go_num, Lib.hid (.inr ⟨k, by omega, rfl, HX.out.symm⟩), ⟨_, rfl⟩, Lib.hid (HS.out.drawn _), HO⟩
                case measure => simp [intOf]; omega
              · have e1 : (x == id) = false := by simp [e]
                go_wp2_with fail
                go_quiet (fail)
                go_wp2_with fail
                go_roundw
                case rel => exact ⟨k + 1, by omega, by go_num, Lib.hid (by
                  rcases hF.out with ⟨h1, h2⟩ | ⟨m, h1, h2⟩
                  · exact .inl ⟨h1, fun m hm => by
                      by_cases h : m = k
                      · subst h; rw [← HX.out]; exact e
                      · exact h2 m (by omega)⟩
                  · exact .inr ⟨m, by omega, h2⟩), ⟨_, rfl⟩, Lib.hid (HS.out.drawn _), HO⟩
                case measure => simp [intOf]; omega
            · obtain rfl : k = nl := by omega
              clear hkn hk
              have q0 := Blk.cell HO.out (i := 0) rfl
              have q1 := Blk.cell HO.out (i := 1) rfl
              have q2 := Blk.cell HO.out (i := 2) rfl
              go_upto_block 4 with fail
              go_cut [0, 7] from 27 to 242 (fun s0 s7 wx => ∃ (now' : Int) (l' : List (Int × Int)) (T' : List (Int × Bool)) (A' : Option Addr) (n' c' : Nat), s0 = .int .i64 now' ∧ s7 = .slice A' n' c' ∧ n' ≤ i + 1 ∧ Hid (St w w1.heap.size wx now' l' T' A' n' c'))
              case first =>
                by_cases hk0 : kd = 0
                · subst hk0
                  rcases (by omega : id < 0 ∨ ¬ id < 0 ∧ 64 ≤ id ∨ ¬ id < 0 ∧ ¬ 64 ≤ id) with k1 | ⟨k1, k2⟩ | ⟨k1, k2⟩
                  · as_aux_lemma =>
                      have z1 : ¬ 0 ≤ id := by omega
                      have gi : PWheel.isI id = false := by simp [PWheel.isI]; omega
                      have HE := Lib.hid (And.intro (PWheel.setE_lo (t := t) gi) (PWheel.setT_lo (T := T) (t := t) gi))
                      clear gi k1
                      go_wp2_with fail
                      refine (set_c _ _ _ _ HS.out.wheel id t).mono ?_
                      rw [HE.out.1, HE.out.2]
                      rintro e w4 ⟨rfl, W4, t4⟩
                      have HS4 := Lib.hid (HS.out.wrote t4 W4 HS.out.mod (HS.out.listAt t4))
                      clear W4 t4
                      go_wp2_with fail
                      go_meet
                      case rel => exact ⟨now, l, T, Al, k, cl, rfl, rfl, by omega, HS4⟩
                  · as_aux_lemma =>
                      have z1 : 0 ≤ id := by omega
                      have z2 : ¬ id < 64 := by omega
                      have gi : PWheel.isI id = false := by simp [PWheel.isI]; omega
                      have HE := Lib.hid (And.intro (PWheel.setE_lo (t := t) gi) (PWheel.setT_lo (T := T) (t := t) gi))
                      clear gi k1 k2
                      go_wp2_with fail
                      refine (set_c _ _ _ _ HS.out.wheel id t).mono ?_
                      rw [HE.out.1, HE.out.2]
                      rintro e w4 ⟨rfl, W4, t4⟩
                      have HS4 := Lib.hid (HS.out.wrote t4 W4 HS.out.mod (HS.out.listAt t4))
                      clear W4 t4
                      go_wp2_with fail
                      go_meet
                      case rel => exact ⟨now, l, T, Al, k, cl, rfl, rfl, by omega, HS4⟩
                  · have z1 : 0 ≤ id := by omega
                    have z2 : id < 64 := by omega
                    have gi : PWheel.isI id = true := by simp [PWheel.isI]; omega
                    clear k1 k2
                    cases ht : PWheel.isT t
                    · as_aux_lemma =>
                        have HE := Lib.hid (And.intro (PWheel.setE_no (i := id) ht) (PWheel.setT_no (T := T) (i := id) ht))
                        have HT := Lib.hid ht
                        clear gi ht
                        go_wp2_with fail
                        refine (rTime_c _ t).mono ?_
                        rw [HT.out]
                        rintro e w' ⟨rfl, rfl⟩
                        go_wp2_with fail
                        refine (set_c _ _ _ _ HS.out.wheel id t).mono ?_
                        rw [HE.out.1, HE.out.2]
                        rintro e w4 ⟨rfl, W4, t4⟩
                        have HS4 := Lib.hid (HS.out.wrote t4 W4 HS.out.mod (HS.out.listAt t4))
                        clear W4 t4
                        go_wp2_with fail
                        go_meet
                        case rel => exact ⟨now, l, T, Al, k, cl, rfl, rfl, by omega, HS4⟩
                    · have HE := Lib.hid (And.intro (PWheel.setE_in gi ht) (PWheel.setT_in (T := T) gi ht))
                      have HT := Lib.hid ht
                      clear gi ht
                      rcases hF.out with ⟨hv, hno⟩ | ⟨m, hm, hv, hid⟩
                      · as_aux_lemma =>
                          cases hv
                          have HN := Lib.hid (Found.none (by rw [HS.out.len]; exact hno))
                          clear hno hF
                          go_wp2_with fail
                          refine (rTime_c _ t).mono ?_
                          rw [HT.out]
                          rintro e w' ⟨rfl, rfl⟩
                          go_wp2_with fail
                          refine (set_c _ _ _ _ HS.out.wheel id t).mono ?_
                          rw [HE.out.1, HE.out.2]
                          rintro e w4 ⟨rfl, W4, t4⟩
                          have HM := Lib.hid (HS.out.mod.more HS.out.wheel.1 z1 z2 HN.out t)
                          have L4 := HS.out.listAt t4
                          have HO4 := HO.out.touch t4 (by simpa using HO.out.ne HS.out.wheel.2 (by decide))
                          have q1' := Blk.cell HO4 (i := 1) rfl
                          have q2' := Blk.cell HO4 (i := 2) rfl
                          have B4 := Lib.hid (HS.out.below.trans (t4.below (by simpa using HS.out.low) HS.out.below.size))
                          have hsz := Lib.hid B4.out.size
                          have L5 := L4.past ((Below.refl _ _).alloc (Nat.le_refl _) (.cells #[.int .i64 id, .int .i64 t] 31))
                          have W5 := Lib.hid (W4.past ((Below.refl _ _).alloc (Nat.le_refl _) (.cells #[.int .i64 id, .int .i64 t] 31)))
                          have B5 := Lib.hid (B4.out.alloc B4.out.size (.cells #[.int .i64 id, .int .i64 t] 31))
                          have R5 := Rd.new w4 #[.int .i64 id, .int .i64 t] 31 2 1 rfl (by simp [maxLen])
                          have hle5 : w.heap.size ≤ (w4.alloc (.cells #[.int .i64 id, .int .i64 t] 31)).heap.size := by
                            have := B4.out.size
                            simp; omega
                          clear q0 q1 q2 W4 t4 L4 HO4
                          go_wp2_with (at_builtin; go_must (refine wpList_app2 rfl (.tmp 210) (.tmp 216) 27 rfl w.heap.size 31 _ 2 16 Try.underlying27 tim_info rfl (by omega) Al k cl (tcs l) rfl L5 _ _ 1 1 _ rfl R5 (tcs_one [(id, t)]) ?c2 ?c3 hle5 ?_))
                          case c2 => unfold maxLen; omega
                          case c3 => omega
                          intro A6 c6 w6 L6 g6 _
                          have L6' : Hid (Ow w6 w.heap.size 31 2 A6 (k + 1) c6 (tcs (l ++ [(id, t)]))) := Lib.hid (by rw [tcs_app]; exact L6)
                          have T6 : Hid (Touch (match bk Al with | some g => [g] | none => []) (w4.alloc (.cells #[.int .i64 id, .int .i64 t] 31)) w6) := Lib.hid (Touch.of_grown_none g6 (fun k hk => by rw [hk]; simp))
                          have HS6 : Hid (St w w1.heap.size w6 now (l ++ [(id, t)]) (T.set id.toNat (t, true)) A6 (k + 1) c6) := Lib.hid (by
                            refine ⟨HM.out, W5.out.touch T6.out ?_, L6'.out, B5.out.trans (T6.out.below ?_ hle5), HS.out.low⟩
                            · cases hb : bk Al with
                              | none => simp
                              | some g =>
                                have := HS.out.list.ne HS.out.wheel.2 (by decide)
                                rw [hb] at this
                                simp only [List.mem_singleton]
                                exact fun h => this (by rw [h])
                            · intro g hg
                              cases hb : bk Al with
                              | none => rw [hb] at hg; simp at hg
                              | some g' =>
                                rw [hb] at hg
                                have hg : g = g' := by simpa using hg
                                subst hg
                                exact HS.out.list.low g hb)
                          clear L6 g6 T6 L6' L5 R5 W5 B5 B4 q1' q2'
                          go_wp2_with fail
                          go_meet
                          case rel => exact ⟨now, _, _, A6, k + 1, c6, rfl, rfl, by omega, HS6⟩
                      · as_aux_lemma =>
                          cases hv
                          obtain ⟨l1, t0, l2, hl, hl1, -, -⟩ := Found.some (by rw [HS.out.len]; exact hm) hid
                          obtain ⟨gl, hA, hgl, -⟩ := HS.out.list.some (by omega)
                          subst hl
                          subst hA
                          go_wp2_with fail
                          refine (rTime_c _ t).mono ?_
                          rw [HT.out]
                          rintro e w' ⟨rfl, rfl⟩
                          go_wp2_with fail
                          refine (set_c _ _ _ _ HS.out.wheel id t).mono ?_
                          rw [HE.out.1, HE.out.2]
                          rintro e w4 ⟨rfl, W4, t4⟩
                          have HM := Lib.hid (HS.out.mod.again HS.out.wheel.1 t)
                          have L4 := HS.out.listAt t4
                          have HO4 := HO.out.touch t4 (by simpa using HO.out.ne HS.out.wheel.2 (by decide))
                          have q2' := Blk.cell HO4 (i := 2) rfl
                          have B4 := Lib.hid (HS.out.below.trans (t4.below (by simpa using HS.out.low) HS.out.below.size))
                          obtain ⟨-, tt⟩ := tcs_at (l1 ++ (id, t0) :: l2) m (by rw [HS.out.len]; exact hm)
                          obtain ⟨cc, ff⟩ := L4.cell rfl tt
                          have hlen : m * 2 + 1 < (tcs (l1 ++ (id, t0) :: l2)).length := by rw [tcs_len, HS.out.len]; omega
                          have L5 := L4.set rfl hlen (.int .i64 t)
                          rw [show m * 2 + 1 = l1.length * 2 + 1 by rw [hl1], tcs_set, hl1] at L5
                          have hne : w1.heap.size ≠ gl := by
                            have := HS.out.list.ne HS.out.wheel.2 (by decide)
                            exact fun h => this (by rw [h]; rfl)
                          have HS5 : Hid (St w w1.heap.size (w4.setCell ⟨gl, m * 2 + 1, none⟩ (.int .i64 t)) now (l1 ++ (id, t) :: l2) (T.set id.toNat (t, true)) (some ⟨gl, 0, none⟩) k cl) := Lib.hid (by
                            refine ⟨HM.out, W4.touch (Touch.of_grown (grown_set _ _ _ _)) (by simpa using hne), L5, B4.out.setCell hgl _, HS.out.low⟩)
                          have HH := Lib.hid (And.intro hl1 (And.intro hid hF))
                          clear q0 q1 q2 W4 t4 L4 HO4 L5 tt hlen hne hl1 hid hF
                          go_wp2_with fail
                          go_meet
                          case rel => exact ⟨now, _, _, _, k, cl, rfl, rfl, by omega, HS5⟩
                · have hk0' : (kd == 0) = false := by simp [hk0]
                  by_cases hk1 : kd = 1
                  · subst hk1
                    rcases hF.out with ⟨hv, hno⟩ | ⟨m, hm, hv, hid⟩
                    · as_aux_lemma =>
                        cases hv
                        have HN := Lib.hid (Found.none (by rw [HS.out.len]; exact hno))
                        have HE := Lib.hid (And.intro (PMod.told_out HS.out.mod HN.out) (PMod.stop_out HS.out.mod HN.out))
                        clear hno hF
                        go_wp2_with fail
                        refine (stop_c _ _ _ _ HS.out.wheel id).mono ?_
                        rw [HE.out.1, HE.out.2]
                        rintro e w4 ⟨rfl, W4, t4⟩
                        have HS4 := Lib.hid (HS.out.wrote t4 W4 HS.out.mod (HS.out.listAt t4))
                        clear W4 t4
                        go_wp2_with fail
                        go_meet
                        case rel => exact ⟨now, l, T, Al, k, cl, rfl, rfl, by omega, HS4⟩
                    · as_aux_lemma =>
                        cases hv
                        obtain ⟨l1, t0, l2, hl, hl1, hl2, hl3⟩ := Found.some (by rw [HS.out.len]; exact hm) hid
                        obtain ⟨gl, hA, hgl, -⟩ := HS.out.list.some (by omega)
                        have hle := HS.out.list.le
                        subst hA
                        have hp0 : (pr l m) = (id, t0) := by
                          subst hl; subst hl1
                          simp [pr, List.getD]
                        have HM := Lib.hid (show PMod.Mod (l1 ++ l2) (T.set id.toNat (0, false)) by have := HS.out.mod; rw [hl] at this; exact this.less)
                        have HE := Lib.hid (And.intro (show (PWheel.told T id).2 = true by
                          have h1 := PMod.told_in HS.out.mod (p := pr l m) (pr_mem (by rw [HS.out.len]; exact hm))
                          rw [hp0] at h1
                          simp only at h1
                          rw [h1]) (show PWheel.stopT T id = T.set id.toNat (0, false) by have := HS.out.mod; rw [hl] at this; exact PMod.stop_in this))
                        have HL := Lib.hid (And.intro hl (And.intro hl1 (And.intro hl2 (And.intro hl3 hid))))
                        clear hl hl1 hl2 hl3 hid hp0 hF
                        go_wp2_with fail
                        refine (stop_c _ _ _ _ HS.out.wheel id).mono ?_
                        rw [HE.out.1, HE.out.2]
                        rintro e w4 ⟨rfl, W4, t4⟩
                        have L4 := HS.out.listAt t4
                        have B4 := Lib.hid (HS.out.below.trans (t4.below (by simpa using HS.out.low) HS.out.below.size))
                        have W4' := Lib.hid W4
                        have hle4 : w.heap.size ≤ w4.heap.size := B4.out.size
                        clear W4 t4 q0 q1 q2
                        have hh := L4.head (m := m) (by omega)
                        rw [tcs_take l m (by rw [HS.out.len]; omega)] at hh
                        have hh' := hh.past (w' := w4.drew) ⟨rfl, rfl, rfl, Nat.le_refl _, fun _ _ => rfl⟩
                        have hrd := L4.rd.drew
                        obtain ⟨A', c', hrun, hr2⟩ := cut_any (P := Try.prog) (w := w4.drew) 27 31 Try.underlying27 tim_info hrd (some (.int .i64 (m + 1))) none (m + 1) k (m + 1) 0 (.inr ⟨rfl, by omega⟩) (.inl ⟨rfl, rfl⟩) (by omega) (Nat.le_refl _)
                        rw [tcs_drop l (m + 1) (by rw [HS.out.len]; omega), List.take_of_length_le (by rw [tcs_len, List.length_drop, HS.out.len]; omega)] at hr2
                        clear hh hrd
                        go_wp2_with fail
                        refine Hb.begin ?_
                        refine Hb.take 0 229 rfl ?_ (fun w' hw' => by go_simp; first | done | rfl)
                        refine Hb.take (v := .int .i64 (m : Int)) 1 230 rfl ?_ (fun _ _ => rfl)
                        refine Hb.take (v := .int .i64 (m : Int)) 2 231 rfl ?_ (fun _ _ => rfl)
                        refine Hb.take (v := .slice (some ⟨gl, 0, none⟩) m m) 3 232 rfl ?_ (fun w' hw' => by exact run_headOp 31 Try.underlying27 tim_info (show m ≤ cl by omega) rfl rfl rfl)
                        refine Hb.take 4 233 rfl ?_ (fun w' hw' => by go_simp; first | done | rfl)
                        refine Hb.take (v := .int .i64 (m : Int)) 5 234 rfl ?_ (fun _ _ => rfl)
                        refine Hb.take (v := .int .i64 ((m : Int) + 1)) 6 235 rfl ?_ (fun w' hw' => by go_simp; first | done | rfl | omega | exact wrap_in (by omega) (by omega) | exact Int.tmod_eq_emod_of_nonneg (by omega) | exact Int.tdiv_eq_ediv_of_nonneg (by omega) | (simp; omega))
                        refine Hb.take (v := .slice A' (k - (m + 1)) c') 7 236 rfl ?_ (fun w' hw' => by exact run_sliceOp (hrun w'))
                        refine Hb.only 8 (some 237) rfl ?_
                        refine wpList_appH rfl (.tmp 232) (.tmp 236) 27 rfl w.heap.size 31 _ 2 16 Try.underlying27 tim_info rfl (by omega) (some ⟨gl, 0, none⟩) m m (tcs (l.take m)) rfl hh' _ A' c' (k - (m + 1)) _ rfl hr2 (tcs_one _) ?c2 ?c3 ?c4 rfl ?_
                        case c2 => unfold maxLen; omega
                        case c3 => omega
                        case c4 => exact hle4
                        intro A6 c6 w6 L6 g6
                        have bel6 : Below w4.drew.heap.size w4.drew w6 := ⟨g6.os, g6.tape, g6.output, g6.size, fun k hk => g6.block k hk (by simp)⟩
                        refine Hb.next bel6 bel6.size ?_ (by simp only [Act.put, List.setIfInBounds_toArray, List.set_cons_succ, List.set_cons_zero]; rfl)
                        refine Hb.take 9 7 rfl ?_ (fun w' hw' => by go_simp; first | done | rfl)
                        refine Hb.done ?_
                        have HS6 : Hid (St w w1.heap.size w6 now (l1 ++ l2) (T.set id.toNat (0, false)) A6 (m + (k - (m + 1))) c6) := Lib.hid (by
                          refine ⟨HM.out, W4'.out.past ((Below.refl w4.heap.size w4).drew.trans bel6), ?_, B4.out.trans (((Below.refl w4.heap.size w4).drew.trans bel6).mono hle4), HS.out.low⟩
                          have := L6
                          rw [HL.out.2.2.1, HL.out.2.2.2.1, ← tcs_app] at this
                          exact this)
                        clear L6 g6 bel6 hh' hr2 hrun
                        go_wp2_with fail
                        go_meet
                        case rel => exact ⟨now, _, _, A6, _, c6, rfl, rfl, by omega, HS6⟩
                  · have hk1' : (kd == 1) = false := by simp [hk1]
                    have HG0 := Lib.hid (And.intro hk0 hk1)
                    clear hk0 hk1 hF
                    cases ht : PWheel.isT t
                    · as_aux_lemma =>
                        have HT := Lib.hid ht
                        have HE := Lib.hid (And.intro (show PWheel.goD T now t = [] by simp [PWheel.goD, PWheel.goes, ht]) (show PWheel.goN now t = now by simp [PWheel.goN, PWheel.goes, ht]))
                        clear ht
                        go_wp2_with fail
                        refine (go_c _ _ _ t _ HS.out.wheel).mono ?_
                        rintro e w4 ⟨A5, n5, c5, M, rfl, hn5, p5, -, -, W5, t5⟩
                        rw [HE.out.1] at p5
                        obtain rfl := List.perm_nil.1 p5
                        obtain rfl : n5 = 0 := hn5
                        rw [HE.out.2, show PWheel.clr T [] = T from rfl] at W5
                        have HS4 := Lib.hid (HS.out.wrote t5 W5 HS.out.mod (HS.out.listAt t5))
                        have HO4 := HO.out.touch t5 (by simpa using HO.out.ne HS.out.wheel.2 (by decide))
                        have q2' := Blk.cell HO4 (i := 2) rfl
                        clear p5 W5 t5 q0 q1 q2 HO4
                        go_wp2_with fail
                        refine (rTime_c _ t).mono ?_
                        rw [HT.out]
                        rintro e w' ⟨rfl, rfl⟩
                        go_wp2_with fail
                        go_loopw [18] (fun s18 wr => s18 = .int .i64 0 ∧ wr = w4) (fun _ _ => 0)
                        case atStart => exact ⟨rfl, rfl⟩
                        case round =>
                          obtain ⟨rfl, rfl⟩ := hrel
                          go_wp2_with fail
                          go_meet
                          case rel => exact ⟨now, l, T, Al, k, cl, rfl, rfl, by omega, HS4⟩
                    · by_cases hlt : t < now
                      · as_aux_lemma =>
                          have HT := Lib.hid ht
                          have HE := Lib.hid (And.intro (show PWheel.goD T now t = [] by simp [PWheel.goD, PWheel.goes, hlt]) (show PWheel.goN now t = now by simp [PWheel.goN, PWheel.goes, hlt]))
                          have hge : ¬ now ≤ t := by omega
                          clear ht
                          go_wp2_with fail
                          refine (go_c _ _ _ t _ HS.out.wheel).mono ?_
                          rintro e w4 ⟨A5, n5, c5, M, rfl, hn5, p5, -, -, W5, t5⟩
                          rw [HE.out.1] at p5
                          obtain rfl := List.perm_nil.1 p5
                          obtain rfl : n5 = 0 := hn5
                          rw [HE.out.2, show PWheel.clr T [] = T from rfl] at W5
                          have HS4 := Lib.hid (HS.out.wrote t5 W5 HS.out.mod (HS.out.listAt t5))
                          have HO4 := HO.out.touch t5 (by simpa using HO.out.ne HS.out.wheel.2 (by decide))
                          have q2' := Blk.cell HO4 (i := 2) rfl
                          clear p5 W5 t5 q0 q1 q2 HO4
                          go_wp2_with fail
                          refine (rTime_c _ t).mono ?_
                          rw [HT.out]
                          rintro e w' ⟨rfl, rfl⟩
                          go_wp2_with fail
                          go_loopw [18] (fun s18 wr => s18 = .int .i64 0 ∧ wr = w4) (fun _ _ => 0)
                          case atStart => exact ⟨rfl, rfl⟩
                          case round =>
                            obtain ⟨rfl, rfl⟩ := hrel
                            go_wp2_with fail
                            go_meet
                            case rel => exact ⟨now, l, T, Al, k, cl, rfl, rfl, by omega, HS4⟩
                      · have hgo : PWheel.goes now t = true := by simp [PWheel.goes, ht, hlt]
                        have HT := Lib.hid (And.intro ht hgo)
                        have HE := Lib.hid (show PWheel.goN now t = t by simp [PWheel.goN, hgo])
                        have hge : now ≤ t := by omega
                        clear ht hgo hlt
                        go_wp2_with fail
                        refine (go_c _ _ _ t _ HS.out.wheel).mono ?_
                        rintro e w4 ⟨A5, n5, c5, M, rfl, hn5, p5, s5, o5, W5, t5⟩
                        rw [HE.out] at W5
                        have L4 := Lib.hid (HS.out.listAt t5)
                        have HO4 := HO.out.touch t5 (by simpa using HO.out.ne HS.out.wheel.2 (by decide))
                        have q2' := Blk.cell HO4 (i := 2) rfl
                        have I4 := Lib.hid (own_base o5 HS.out.below.size)
                        have B4 := Lib.hid (HS.out.below.trans (t5.below (by simpa using HS.out.low) HS.out.below.size))
                        have W4 := Lib.hid W5
                        have HM := Lib.hid (And.intro p5 (And.intro s5 (And.intro hn5 (And.intro HS.out.mod (And.intro HS.out.len HS.out.low)))))
                        have hkc := HS.out.list.le
                        have Q2 := Lib.hid (Blk.cell HO4 (i := 2) rfl)
                        clear p5 s5 hn5 o5 W5 t5 q0 q1 q2 HO4 HS HO
                        go_wp2_with fail
                        refine (rTime_c _ t).mono ?_
                        rw [HT.out.1]
                        rintro e w' ⟨rfl, rfl⟩
                        go_wp2_with fail
                        clear q2'
                        go_loopg [14, 15, 16] k (fun gh s14 s15 s16 wr => ∃ (u : Nat) (AL : Option Addr) (nL cL : Nat) (AF : Option Addr) (nF cF : Nat) (F : List (Int × Int)), u ≤ k ∧ k - u ≤ gh ∧ s16 = .int .i64 u ∧ s14 = .slice AL nL cL ∧ s15 = .slice AF nF cF ∧ nL ≤ u ∧ nF ≤ u ∧ Hid (Ow wr w4.heap.size 31 2 AL nL cL (tcs (PMod.stay t (l.take u)))) ∧ Hid (Ow wr w4.heap.size 31 2 AF nF cF (tcs F)) ∧ Hid (∀ g, bk AL = some g → bk AF ≠ some g) ∧ Hid (F.Perm (PMod.offs t (l.take u)) ∧ F.Pairwise PMod.lp) ∧ Hid (Below w4.heap.size w4 wr))
                        case atStart => exact ⟨0, none, 0, 0, none, 0, 0, [], by omega, by omega, rfl, rfl, rfl, by omega, by omega, Lib.hid (Ow.nil _ _ _ _), Lib.hid (Ow.nil _ _ _ _), Lib.hid (by simp [bk]), Lib.hid ⟨by simp [PMod.offs], List.Pairwise.nil⟩, Lib.hid (Below.refl _ _)⟩
                        case round =>
                          obtain ⟨u, AL, nL, cL, AF, nF, cF, F, huk, hgu, rfl, rfl, rfl, hnL, hnF, HL, HF, HSEP, HP, HB⟩ := hrel
                          by_cases hu : u < k
                          · have hlk : l.length = k := HM.out.2.2.2.2.1
                            obtain ⟨gl, hA, -, -⟩ := L4.out.some (by omega)
                            have hgl4 : gl < w4.heap.size := L4.out.hi gl (by rw [hA]; rfl)
                            subst hA
                            obtain ⟨t1, t2⟩ := tcs_at l u (by rw [hlk]; exact hu)
                            have htk := take_succ_pr (l := l) (u := u) (by rw [hlk]; exact hu)
                            have hna := not_ahead HM.out.2.2.2.1 (u := u) (by rw [hlk]; exact hu)
                            obtain ⟨⟨y, s⟩, hx⟩ : ∃ p, p = pr l u := ⟨_, rfl⟩
                            rw [← hx] at t1 t2 htk hna
                            simp only at t1 t2 hna
                            have HX := Lib.hid (And.intro htk (And.intro hna (And.intro t1 t2)))
                            have hlt0 : k < 4611686018427387904 := by omega
                            clear htk hna hx hlk t1 t2
                            by_cases hs : t < s
                            · as_aux_lemma =>
                                have e1 : PMod.stay t (l.take (u + 1)) = PMod.stay t (l.take u) ++ [(y, s)] := by rw [HX.out.1]; simp [PMod.stay, hs]
                                have e2 : PMod.offs t (l.take (u + 1)) = PMod.offs t (l.take u) := by rw [HX.out.1]; simp [PMod.offs]; omega
                                have HE := Lib.hid (And.intro e1 e2)
                                have c1 := ((L4.out.past HB.out).cell rfl HX.out.2.2.1).1
                                have c2 := ((L4.out.past HB.out).cell rfl HX.out.2.2.2).1
                                have hglw : gl < wr.heap.size := by have := HB.out.size; omega
                                have al := (Below.refl wr.heap.size wr).alloc (Nat.le_refl _) (.cells #[.int .i64 y, .int .i64 s] 31)
                                have L6 := HL.out.past al
                                have F6 := Lib.hid (HF.out.past al)
                                have B6 := Lib.hid (HB.out.alloc HB.out.size (.cells #[.int .i64 y, .int .i64 s] 31))
                                have R6 := Rd.new wr #[.int .i64 y, .int .i64 s] 31 2 1 rfl (by simp [maxLen])
                                have hle6 : w4.heap.size ≤ (wr.alloc (.cells #[.int .i64 y, .int .i64 s] 31)).heap.size := B6.out.size
                                clear e1 e2 al
                                go_wp2_with (at_builtin; go_must (refine wpList_app2 rfl (.tmp 86) (.tmp 91) 27 rfl w4.heap.size 31 _ 2 16 Try.underlying27 tim_info rfl (by omega) AL nL cL _ rfl L6 _ _ 1 1 _ rfl R6 (tcs_one [(y, s)]) ?c2 ?c3 hle6 ?_))
                                case c2 => unfold maxLen; omega
                                case c3 => omega
                                intro A7 c7 w7 L7 g7 f7
                                have T7 := Touch.of_bk g7
                                have F7 := Lib.hid (F6.out.touch T7 (fun g hg => HSEP.out g (mem_bl.1 hg)))
                                have S7 : Hid (∀ g, bk A7 = some g → bk AF ≠ some g) := Lib.hid (fun g hg hf => by
                                  rcases f7 g hg with h | h
                                  · exact HSEP.out g h hf
                                  · have h1 := F6.out.hi g hf
                                    have h3 : (wr.alloc (.cells #[.int .i64 y, .int .i64 s] 31)).heap.size = wr.heap.size + 1 := by simp
                                    omega)
                                have B7 := Lib.hid (B6.out.trans (T7.below (fun g hg => HL.out.low g (mem_bl.1 hg)) hle6))
                                have L7' : Hid (Ow w7 w4.heap.size 31 2 A7 (nL + 1) c7 (tcs (PMod.stay t (l.take (u + 1))))) := Lib.hid (by rw [HE.out.1, tcs_app]; exact L7)
                                have P7 := Lib.hid (show F.Perm (PMod.offs t (l.take (u + 1))) ∧ F.Pairwise PMod.lp by rw [HE.out.2]; exact HP.out)
                                clear L6 F6 B6 R6 L7 T7 g7 f7 c1 c2 HL HF HSEP HP HB
                                go_wp2_with fail
                                go_roundg (k - (u + 1))
                                case measure => omega
                                case rel => exact ⟨u + 1, A7, nL + 1, c7, AF, nF, cF, F, by omega, by omega, by go_num, rfl, rfl, by omega, by omega, L7', F7, S7, P7, B7⟩
                            · as_aux_lemma =>
                                have e1 : PMod.stay t (l.take (u + 1)) = PMod.stay t (l.take u) := by rw [HX.out.1]; simp [PMod.stay]; omega
                                have e2 : PMod.offs t (l.take (u + 1)) = PMod.offs t (l.take u) ++ [(y, s)] := by rw [HX.out.1]; simp [PMod.offs]; omega
                                have hdx : ∀ p ∈ F, p.1 ≠ y := fun p hp => HX.out.2.1 p ((PMod.mem_off.1 (HP.out.1.mem_iff.1 hp)).1)
                                have hlF : F.length = nF := HF.out.rd.plen
                                have HE := Lib.hid (And.intro e1 (And.intro e2 (And.intro hdx hlF)))
                                have c1 := ((L4.out.past HB.out).cell rfl HX.out.2.2.1).1
                                have c2 := ((L4.out.past HB.out).cell rfl HX.out.2.2.2).1
                                clear e1 e2 hdx hlF
                                go_wp2_with fail
                                clear c1 c2
                                go_loopg [17] nF (fun gh s17 wr => ∃ j : Nat, j ≤ nF ∧ nF - j ≤ gh ∧ s17 = .int .i64 j ∧ Hid (∀ m, m < j → PMod.lp (pr F m) (y, s)) ∧ Hid (Ow wr w4.heap.size 31 2 AL nL cL (tcs (PMod.stay t (l.take u)))) ∧ Hid (Ow wr w4.heap.size 31 2 AF nF cF (tcs F)) ∧ Hid (Below w4.heap.size w4 wr))
                                case atStart => exact ⟨0, by omega, by omega, rfl, Lib.hid (fun m h => by omega), HL, HF, HB⟩
                                case round =>
                                  clear HL HF HB
                                  obtain ⟨j, hj, hgj, rfl, HJ, HL, HF, HB⟩ := hrel
                                  have c1 := ((L4.out.past HB.out).cell rfl HX.out.2.2.1).1
                                  have c2 := ((L4.out.past HB.out).cell rfl HX.out.2.2.2).1
                                  go_upto_region 29 with fail
                                  go_cut [135] from 93 to 137 (fun s135 wx => ∃ (b : Bool) (q : Nat), s135 = .bool b ∧ (b = true ↔ j < nF ∧ PMod.lp (pr F j) (y, s)) ∧ wx = wr.drewN q)
                                  case first =>
                                    by_cases hjn : j < nF
                                    · obtain ⟨f1, f2⟩ := tcs_at F j (by rw [HE.out.2.2.2]; exact hjn)
                                      obtain ⟨gf, hAF, -, hgf⟩ := HF.out.some (by omega)
                                      subst hAF
                                      have d1 := (HF.out.cell rfl f1).1
                                      have d2 := (HF.out.cell rfl f2).1
                                      obtain ⟨⟨a, r⟩, hp⟩ : ∃ p, p = pr F j := ⟨_, rfl⟩
                                      rw [← hp] at d1 d2
                                      simp only at d1 d2
                                      have HPR := Lib.hid hp
                                      clear f1 f2 hp
                                      by_cases k1 : r < s
                                      · as_aux_lemma =>
                                          go_quiet (fail)
                                          go_wp2_with fail
                                          go_meet
                                          case rel => exact ⟨true, nq, rfl, ⟨fun _ => ⟨hjn, by rw [← HPR.out]; exact .inl k1⟩, fun _ => rfl⟩, rfl⟩
                                      · have hb1 : decide (r < s) = false := decide_eq_false k1
                                        by_cases k2 : r = s
                                        · subst k2
                                          by_cases k3 : a < y
                                          · as_aux_lemma =>
                                              go_quiet (fail)
                                              go_wp2_with fail
                                              go_meet
                                              case rel => exact ⟨true, nq, rfl, ⟨fun _ => ⟨hjn, by rw [← HPR.out]; exact .inr ⟨rfl, k3⟩⟩, fun _ => rfl⟩, rfl⟩
                                          · as_aux_lemma =>
                                              have hb3 : decide (a < y) = false := decide_eq_false k3
                                              go_quiet (fail)
                                              go_wp2_with fail
                                              go_meet
                                              case rel => exact ⟨false, nq, rfl, ⟨fun h => (by cases h), fun h => absurd h.2 (by rw [← HPR.out]; unfold PMod.lp; simp only; omega)⟩, rfl⟩
                                        · as_aux_lemma =>
                                            have hb2 : (r == s) = false := by simp [k2]
                                            go_quiet (fail)
                                            go_wp2_with fail
                                            go_meet
                                            case rel => exact ⟨false, nq, rfl, ⟨fun h => (by cases h), fun h => absurd h.2 (by rw [← HPR.out]; unfold PMod.lp; simp only; omega)⟩, rfl⟩
                                    · as_aux_lemma =>
                                        have hjb : decide ((j : Int) < (nF : Int)) = false := decide_eq_false (by omega)
                                        go_quiet (fail)
                                        go_wp2_with fail
                                        go_meet
                                        case rel => exact ⟨false, nq, rfl, ⟨fun h => (by cases h), fun h => absurd h.1 hjn⟩, rfl⟩
                                  case rest =>
                                    obtain ⟨b, q, rfl, hb, rfl⟩ := hcut
                                    have HL2 := Lib.hid (HL.out.past (below_drawn (Below.refl _ _) q))
                                    have HF2 := Lib.hid (HF.out.past (below_drawn (Below.refl _ _) q))
                                    have HB2 := Lib.hid (below_drawn HB.out q)
                                    clear HL HF HB c1 c2
                                    generalize wr.drewN q = w5 at *
                                    have c1 := ((L4.out.past HB2.out).cell rfl HX.out.2.2.1).1
                                    have c2 := ((L4.out.past HB2.out).cell rfl HX.out.2.2.2).1
                                    cases b
                                    · as_aux_lemma =>
                                        have HNO : Hid (j < F.length → ¬ PMod.lp (pr F j) (y, s)) := Lib.hid (fun h h' => by
                                          have := hb.2 ⟨by rw [HE.out.2.2.2] at h; exact h, h'⟩
                                          cases this)
                                        have hle5 : w4.heap.size ≤ w5.heap.size := HB2.out.size
                                        have hgl5 : gl < w5.heap.size := by omega
                                        have hcf := HF2.out.le
                                        have hhd := HF2.out.head (m := j) hj
                                        rw [tcs_take F j (by rw [HE.out.2.2.2]; exact hj)] at hhd
                                        have hhd' := hhd.past (w' := w5.drew) ((Below.refl _ _).drew)
                                        have hrd := HF2.out.rd.drew
                                        obtain ⟨A', c', hrun, hr2⟩ := cut_any (P := Try.prog) (w := w5.drew) 27 31 Try.underlying27 tim_info hrd (some (.int .i64 j)) none j nF j 0 (.inr ⟨rfl, rfl⟩) (.inl ⟨rfl, rfl⟩) hj (Nat.le_refl _)
                                        rw [tcs_drop F j (by rw [HE.out.2.2.2]; exact hj), List.take_of_length_le (by rw [tcs_len, List.length_drop, HE.out.2.2.2]; omega)] at hr2
                                        have tz : ∀ w, Sem.run Try.prog (zeroValue 31) w = .ok (.agg #[.int .i64 0, .int .i64 0]) w := Try.zeroValue31
                                        have C1 := Lib.hid c1
                                        have C2 := Lib.hid c2
                                        clear hhd hrd hb
                                        go_wp2_with fail
                                        refine Hb.begin ?_
                                        refine Hb.take 0 138 rfl ?_ (fun w' hw' => by go_simp; first | done | rfl)
                                        refine Hb.take (v := .int .i64 (j : Int)) 1 139 rfl ?_ (fun _ _ => rfl)
                                        refine Hb.take (v := .int .i64 (j : Int)) 2 140 rfl ?_ (fun _ _ => rfl)
                                        refine Hb.take (v := .slice AF j j) 3 141 rfl ?_ (fun w' hw' => by exact run_headOp 31 Try.underlying27 tim_info (show j ≤ cF by omega) rfl rfl rfl)
                                        refine Hb.take (v := .slice (some ⟨gl, 0, none⟩) k cl) 4 142 rfl ?_ (fun _ _ => rfl)
                                        refine Hb.take (v := .int .i64 (u : Int)) 5 143 rfl ?_ (fun _ _ => rfl)
                                        refine Hb.take (v := .pointer (some ⟨gl, u * 2, none⟩)) 6 144 rfl ?_ (fun w' hw' => by go_simp; first | done | rfl | omega | exact wrap_in (by omega) (by omega) | exact Int.tmod_eq_emod_of_nonneg (by omega) | exact Int.tdiv_eq_ediv_of_nonneg (by omega) | (simp; omega))
                                        refine Hb.take (v := .agg #[.int .i64 y, .int .i64 s]) 7 145 rfl ?_ (fun w' hw' => by exact run_load2 Try.underlying31 rfl (by kernel_rfl) rfl ((hw'.cell (p := ⟨gl, u * 2, none⟩) hgl5).trans C1.out) ((hw'.cell (p := ⟨gl, u * 2 + 1, none⟩) hgl5).trans C2.out))
                                        refine Hb.take 9 147 rfl ?_ (fun w' hw' => by go_simp; first | done | rfl)
                                        refine Hb.take (v := .int .i64 (j : Int)) 10 148 rfl ?_ (fun _ _ => rfl)
                                        refine Hb.take (v := .slice A' (nF - j) c') 11 149 rfl ?_ (fun w' hw' => by exact run_sliceOp (hrun w'))
                                        refine Hb.only 8 (some 146) rfl ?_
                                        refine wpList_build2 rfl 27 31 (.tmp 145) rfl Try.underlying27 Try.sizeOf31 tz (.int .i64 y) (.int .i64 s) rfl ?_
                                        have bel10 : Below w5.drew.heap.size w5.drew (w5.drew.alloc (.cells #[.int .i64 y, .int .i64 s] 31)) := (Below.refl _ _).alloc (Nat.le_refl _) _
                                        have N10 : Ow (w5.drew.alloc (.cells #[.int .i64 y, .int .i64 s] 31)) w5.drew.heap.size 31 2 (some ⟨w5.drew.heap.size, 0, none⟩) 1 1 (tcs [(y, s)]) := ⟨rfl, .inr ⟨w5.drew.heap.size, [], rfl, Nat.le_refl _, Blk.new _ _ _, Nat.le_refl _, by simp [maxLen], by simp [tcs, pc]⟩⟩
                                        have D10 := hhd'.past bel10
                                        have R10 := hr2.past bel10
                                        have hs10 : (w5.drew.alloc (.cells #[.int .i64 y, .int .i64 s] 31)).heap.size = w5.drew.heap.size + 1 := by simp
                                        refine Hb.next bel10 (Nat.le_refl _) ?_ (by simp only [Act.put, List.setIfInBounds_toArray, List.set_cons_succ, List.set_cons_zero]; rfl)
                                        generalize w5.drew.alloc (.cells #[.int .i64 y, .int .i64 s] 31) = w10 at *
                                        refine Hb.only 12 (some 150) rfl ?_
                                        refine wpList_appH rfl (.tmp 146) (.tmp 149) 27 rfl w5.drew.heap.size 31 _ 2 16 Try.underlying27 tim_info rfl (by omega) _ 1 1 (tcs [(y, s)]) rfl N10 _ A' c' (nF - j) _ rfl R10 (tcs_one _) ?c2 ?c3 ?c4 rfl ?_
                                        case c2 => unfold maxLen; omega
                                        case c3 => omega
                                        case c4 => omega
                                        intro A11 c11 w11 O11 g11
                                        have bel11 : Below w5.drew.heap.size w10 w11 := ⟨g11.os, g11.tape, g11.output, g11.size, fun k hk => g11.block k (by omega) (by simp)⟩
                                        have bel11' : Below w10.heap.size w10 w11 := ⟨g11.os, g11.tape, g11.output, g11.size, fun k hk => g11.block k hk (by simp)⟩
                                        have D11 := D10.past bel11'
                                        have hs11 := g11.size
                                        refine Hb.next bel11 (Nat.le_refl _) ?_ (by simp only [Act.put, List.setIfInBounds_toArray, List.set_cons_succ, List.set_cons_zero]; rfl)
                                        refine Hb.only 13 (some 151) rfl ?_
                                        refine wpList_appG rfl (.tmp 141) (.tmp 150) 27 rfl w4.heap.size 31 _ 2 16 Try.underlying27 tim_info rfl (by omega) AF j j (tcs (F.take j)) rfl D11 _ A11 c11 (1 + (nF - j)) _ rfl O11.rd (by intro v hv; rcases List.mem_append.1 hv with h | h <;> exact tcs_one _ v h) ?d2 ?d3 ?d4 (by omega) ?_
                                        case d2 => unfold maxLen; omega
                                        case d3 => omega
                                        case d4 => have : w5.drew.heap.size = w5.heap.size := rfl; omega
                                        intro A12 c12 w12 O12 g12
                                        have bel12 : Below w5.drew.heap.size w11 w12 := ⟨g12.os, g12.tape, g12.output, g12.size, fun k hk => g12.block k (by omega) (by simp)⟩
                                        clear D10 R10 N10 D11 g11 bel11' O11 g12
                                        refine Hb.next bel12 (Nat.le_refl _) ?_ (by simp only [Act.put, List.setIfInBounds_toArray, List.set_cons_succ, List.set_cons_zero]; rfl)
                                        refine Hb.take 14 15 rfl ?_ (fun w' hw' => by go_simp; first | done | rfl)
                                        refine Hb.done ?_
                                        have F12 : Hid (Ow w12 w4.heap.size 31 2 A12 (j + (1 + (nF - j))) c12 (tcs (F.take j ++ (y, s) :: F.drop j))) := Lib.hid (by
                                          have := O12.down (base' := w4.heap.size) (by have := bel11.size; have := bel10.size; have : w5.drew.heap.size = w5.heap.size := rfl; omega)
                                          rw [tcs_app]
                                          exact this)
                                        have B12 := Lib.hid (HB2.out.trans (((Below.refl w5.heap.size w5).drew.trans (bel10.trans (bel11.trans bel12))).mono hle5))
                                        have L12 := Lib.hid (HL2.out.past ((Below.refl w5.heap.size w5).drew.trans (bel10.trans (bel11.trans bel12))))
                                        have S12 : Hid (∀ g, bk AL = some g → bk A12 ≠ some g) := Lib.hid (fun g hg hf => by
                                          have h1 := HL2.out.hi g hg
                                          have h2 := O12.low g hf
                                          have := bel11.size
                                          have := bel10.size
                                          have : w5.drew.heap.size = w5.heap.size := rfl
                                          omega)
                                        have P12 := Lib.hid (show (F.take j ++ (y, s) :: F.drop j).Perm (PMod.offs t (l.take (u + 1))) ∧ (F.take j ++ (y, s) :: F.drop j).Pairwise PMod.lp from ⟨by rw [HE.out.2.1]; exact ins_perm HP.out.1 (y, s) j, ins_lp HP.out.2 HJ.out HNO.out HE.out.2.2.1⟩)
                                        have L13 : Hid (Ow w12 w4.heap.size 31 2 AL nL cL (tcs (PMod.stay t (l.take (u + 1))))) := Lib.hid (by rw [HE.out.1]; exact L12.out)
                                        clear O12 bel10 bel11 bel12 hhd' hr2 hrun L12 HL2 HF2 HB2
                                        go_wp2_with fail
                                        go_roundg (k - (u + 1))
                                        case measure => omega
                                        case rel => exact ⟨u + 1, AL, nL, cL, A12, _, c12, _, by omega, by omega, by go_num, rfl, rfl, by omega, by omega, L13, F12, S12, P12, B12⟩
                                    · have hb' := hb.1 rfl
                                      have HJ2 : Hid (∀ m, m < j + 1 → PMod.lp (pr F m) (y, s)) := Lib.hid (fun m hm => by
                                        by_cases e : m = j
                                        · subst e; exact hb'.2
                                        · exact HJ.out m (by omega))
                                      have hjn := hb'.1
                                      clear hb hb' HJ
                                      go_wp2_with fail
                                      go_roundg (nF - (j + 1))
                                      case measure => omega
                                      case rel => exact ⟨j + 1, by omega, by omega, by go_num, HJ2, HL2, HF2, HB2⟩
                          · obtain rfl : u = k := by omega
                            as_aux_lemma =>
                              have hFM : M = F.map (·.1) := HM.out.2.2.2.1.went (F := F) (to_ := t) (by have := HP.out.1; rwa [List.take_of_length_le (by rw [HM.out.2.2.2.2.1]; exact Nat.le_refl _)] at this) HP.out.2 HT.out.2 HM.out.1 HM.out.2.1
                              have hFP : F.Perm (PMod.offs t l) := by have := HP.out.1; rwa [List.take_of_length_le (by rw [HM.out.2.2.2.2.1]; exact Nat.le_refl _)] at this
                              have hlF : F.length = nF := HF.out.rd.plen
                              have hn5F : n5 = nF := by rw [HM.out.2.2.1, hFM, List.length_map, hlF]
                              have HMF := Lib.hid (And.intro hFM (And.intro hFP hlF))
                              subst hn5F
                              have HS6 : Hid (St w w1.heap.size wr t (PMod.stay t l) (PWheel.clr T M) AL nL cL) := Lib.hid (by
                                refine ⟨?_, W4.out.past HB.out, ?_, B4.out.trans (HB.out.mono B4.out.size), HM.out.2.2.2.2.2⟩
                                · rw [HMF.out.1]; exact HM.out.2.2.2.1.gone HMF.out.2.1
                                · have := HL.out
                                  rw [List.take_of_length_le (by rw [HM.out.2.2.2.2.1]; exact Nat.le_refl _)] at this
                                  exact this.down B4.out.size)
                              have I5 := Lib.hid (own_below I4.out HB.out)
                              clear hFM hFP hlF HL HSEP HP HB L4 I4 W4
                              go_wp2_with fail
                              go_loopw [18] (fun s18 wr => ∃ j : Nat, j ≤ n5 ∧ s18 = .int .i64 j ∧ Hid (Ow wr w4.heap.size 31 2 AF n5 cF (tcs F)) ∧ Hid (wr.ownsRow w.heap.size 3 1 (.slice A5 n5 c5) n5 (is M)) ∧ Hid (St w w1.heap.size wr t (PMod.stay t l) (PWheel.clr T M) AL nL cL)) (fun s18 _ => n5 - (intOf s18).toNat)
                              case atStart => exact ⟨0, by omega, rfl, HF, I5, HS6⟩
                              case round =>
                                clear HF I5 HS6
                                obtain ⟨j, hj, rfl, HF, I5, HS6⟩ := hrel
                                by_cases hjn : j < n5
                                · obtain ⟨b5, o5, x, hA5, c5', -, hx⟩ := (Rd.of_own I5.out).int hjn
                                  obtain ⟨bf, of_, hAF, -, cf, -⟩ := HF.out.rd.pair hjn
                                  have hxe : (pr F j).1 = x := by
                                    rw [hx, HMF.out.1]
                                    have hjl : j < F.length := by rw [HMF.out.2.2]; exact hjn
                                    simp [pr, List.getD, List.getElem?_eq_getElem hjl]
                                  rw [hxe] at cf
                                  have HA := Lib.hid (And.intro hA5 hAF)
                                  have HF2 := Lib.hid (HF.out.past (below_drawn (Below.refl _ wr) 0))
                                  subst hA5
                                  subst hAF
                                  have hnl5 : n5 < 4611686018427387904 := by
                                    have := HF.out.rd.cap
                                    have := HF.out.le
                                    unfold maxLen at this
                                    omega
                                  clear hx hxe HA HF2
                                  go_wp2_with fail
                                  go_quiet (fail)
                                  go_wp2_with fail
                                  go_roundw
                                  case rel => exact ⟨j + 1, by omega, by go_num, Lib.hid (HF.out.past (below_drawn (Below.refl _ _) _)), Lib.hid (own_below I5.out (below_drawn (Below.refl _ _) _)), Lib.hid (HS6.out.drawn _)⟩
                                  case measure => simp [intOf]; omega
                                · go_wp2_with fail
                                  go_meet
                                  case rel => exact ⟨t, _, _, AL, nL, cL, rfl, rfl, by omega, HS6⟩
              case rest =>
                clear HS HO hF q0 q1 q2
                obtain ⟨now', l', T', A', n', c', rfl, rfl, hn', HS⟩ := hcut
                go_wp2_with fail
                refine (same_c wc w1.heap.size now' T' l' _ A' c' n' HS.out.wheel HS.out.mod HS.out.list.rd (by omega)).mono ?_
                rintro e w5 ⟨rfl, b5⟩
                have HS5 := Lib.hid (HS.out.past b5)
                clear HS b5
                go_wp2_with fail
                go_roundg (n - (i + 1))
                case measure => omega
                case rel => exact ⟨i + 1, now', l', T', A', n', c', by omega, by omega, by omega, rfl, by go_num, rfl, by omega, HS5⟩
        · go_wp2_with fail
          refine (same_c wr w1.heap.size now T l _ Al cl nl HS.out.wheel HS.out.mod HS.out.list.rd (by omega)).mono ?_
          rintro e w5 ⟨rfl, b5⟩
          have HS5 := Lib.hid (HS.out.past b5)
          clear HS b5
          go_wp2_with fail
          go_ret
          exact ⟨rfl, HS5.out.below⟩
      · go_wp2_with fail
        refine (same_c wr w1.heap.size now T l _ Al cl nl HS.out.wheel HS.out.mod HS.out.list.rd (by omega)).mono ?_
        rintro e w5 ⟨rfl, b5⟩
        have HS5 := Lib.hid (HS.out.past b5)
        clear HS b5
        go_wp2_with fail
        go_ret
        exact ⟨rfl, HS5.out.below⟩
end Go.Proofs.Ytnpdhddnlcpaiaa
