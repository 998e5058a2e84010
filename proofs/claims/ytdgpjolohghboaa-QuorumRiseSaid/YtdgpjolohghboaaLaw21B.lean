/- The walk of QuorumRise. Made by gen21b.py. -/
import Derived.Test.YtdgpjolohghboaaQuoK
import Derived.Test.YtdgpjolohghboaaFlat
import Derived.WalkSmall
namespace Go.Proofs.Ytdgpjolohghboaa
open Go.RowKit PQuo

theorem lst_head {m : Nat} {n : Int} (h : PTeam.most m n = true) : 0 < PTeam.cnt m ∧ PTeam.has m ((PTeam.lst m).getD 0 0) = true := by
  obtain ⟨h3, h7, hlt, hc, _⟩ := most_in h
  have h0 : 0 < PTeam.cnt m := by omega
  refine ⟨h0, (PTeam.lst_mem m hlt _).1 ?_⟩
  have hl : 0 < (PTeam.lst m).length := by rw [PTeam.lst_length]; exact h0
  rw [List.getD_eq_getElem?_getD, List.getElem?_eq_getElem hl]
  exact List.getElem_mem _
theorem isR_none {n : Int} (h3 : 3 ≤ n) (h7 : n ≤ 7) : IsR none7 n 0 := by
  refine ⟨?_, ?_⟩
  · rw [show ge none7 0 = 7 by decide]; omega
  · rw [show gt none7 0 = 0 by decide]; omega

set_option maxHeartbeats 8000000 in
set_option maxRecDepth 100000 in
theorem QuorumRise_w (w : World) (n members : Int) (A : Option Addr) (len c : Nat) (xs : List Value) (h0 : Rd w w.heap.size A c 4 len xs) (hI : AllI xs) :
    Calls Try.prog 7 #[.int .i64 n, .int .i64 members, .slice A len c] w fun e w' => e = .returned (.bool true) ∧ Below w.heap.size w w' := by
  have HR := Lib.hid h0
  have HI := Lib.hid hI
  clear h0 hI
  cases hm : PTeam.most members n
  · have HM := Lib.hid hm
    clear hm
    go_enter Try.func7, Try.ntmps7
    go_wp2_with fail
    refine (begunQ_c w).mono ?_
    rintro e w1 ⟨rfl, b1⟩
    go_wp2_with fail
    refine (rtMost_c w1 members n).mono ?_
    rw [HM.out]
    rintro e w2 ⟨rfl, b2⟩
    have B2 := Lib.hid (b1.trans (b2.mono b1.size))
    clear b1 b2
    go_wp2_with fail
    go_ret
    exact ⟨rfl, B2.out⟩
  · have hq0 : 0 ≤ members := by
      unfold PTeam.most PTeam.may at hm
      simp only [Bool.and_eq_true, decide_eq_true_eq] at hm
      exact hm.1.2.1
    obtain ⟨m, rfl⟩ := Int.eq_ofNat_of_zero_le hq0
    obtain ⟨h3, h7, hlt, _⟩ := most_in hm
    obtain ⟨hc0, hme⟩ := lst_head hm
    have HN := Lib.hid (And.intro h3 h7)
    have HM := Lib.hid hm
    clear hm hq0 h3 h7
    go_enter Try.func7, Try.ntmps7
    go_wp2_with fail
    refine (begunQ_c w).mono ?_
    rintro e w1 ⟨rfl, b1⟩
    go_wp2_with fail
    refine (rtMost_c w1 m n).mono ?_
    rw [HM.out]
    rintro e w2 ⟨rfl, b2⟩
    have B2 := Lib.hid (b1.trans (b2.mono b1.size))
    clear b1 b2
    go_wp2_with fail
    refine (rtList_c w2 m hlt).mono ?_
    rintro e w3 ⟨AL, cL, rfl, hown, b3⟩
    have B3 := Lib.hid (B2.out.trans (b3.mono B2.out.size))
    obtain ⟨b, o, x, rfl, hc, -, hx⟩ := (Rd.of_own hown).int (i := 0) hc0
    have hx' : (PTeam.lst m).getD 0 0 = x := hx.symm
    rw [hx'] at hme
    rw [Nat.add_zero] at hc
    have HME := Lib.hid hme
    clear hx hx' hown b3 hme B2
    go_wp2_with fail
    refine (qnew_yes w3 n x m HM.out HME.out).mono ?_
    rintro e w4 ⟨rfl, q4, k4, b4⟩
    have S4 := Lib.hid (Sq.new B3.out q4 k4 b4)
    clear q4 k4 b4 hc B3
    generalize w3.heap.size = g at *
    go_wp2_with fail
    have R0 := Lib.hid (isR_none HN.out.1 HN.out.2)
    go_loopw [9, 10, 11] (fun s9 s10 s11 wr => ∃ (i : Nat) (H P : List Int) (last r1 r2 : Int), i ≤ len ∧ i ≤ 60 ∧ last ≤ (i : Int) ∧ s11 = .int .i64 i ∧ s9 = .int .i64 r1 ∧ s10 = .int .i64 r2 ∧ Hid (IsR H n r1) ∧ Hid (IsR P n r2) ∧ Hid (Sq w wr g n x m H P last)) (fun _ _ s11 _ => len - (intOf s11).toNat)
    case atStart => exact ⟨0, none7, none7, 0, 0, 0, by omega, by omega, Int.le_refl _, rfl, rfl, rfl, R0, R0, S4⟩
    case round =>
      clear S4 R0
      obtain ⟨i, H, P, last, r1, r2, hin, hi60, hlast, rfl, rfl, rfl, HR1, HR2, HS⟩ := hrel
      by_cases h1 : i < len
      · by_cases h2 : i < 60
        · obtain ⟨bo, oo, rfl, -, hc⟩ := (HR.out.below HS.out.bel).flatI HI.out h1 (by omega)
          obtain ⟨kd, o0⟩ := hc 0 (by omega)
          obtain ⟨id, o1⟩ := hc 1 (by omega)
          obtain ⟨hv, o2⟩ := hc 2 (by omega)
          obtain ⟨pr, o3⟩ := hc 3 (by omega)
          rw [Nat.add_zero] at o0
          clear hc
          have hN := Lib.hid (Blk.new wr #[.int .i64 kd, .int .i64 id, .int .i64 hv, .int .i64 pr] 34)
          have HS1 := Lib.hid (HS.out.past ((Below.refl _ _).alloc (Nat.le_refl _) (.cells #[.int .i64 kd, .int .i64 id, .int .i64 hv, .int .i64 pr] 34)))
          by_cases hk : kd = 0
          · subst hk
            go_wp2_with fail
            clear o0 o1 o2 o3 HS
            generalize wr.heap.size = gO at *
            generalize wr.alloc (.cells #[.int .i64 0, .int .i64 id, .int .i64 hv, .int .i64 pr] 34) = w4 at *
            have q0 := 0
            have q1 := Blk.cell hN.out (i := 1) rfl
            have q2 := Blk.cell hN.out (i := 2) rfl
            have q3 := Blk.cell hN.out (i := 3) rfl
            go_wp2_with fail
            refine (HS1.out.ack id hv pr).mono ?_
            rintro e w5 ⟨rfl, s5, -⟩
            have HS2 := Lib.hid s5
            clear s5
            have SH := Lib.hid (show ∀ k, k < 7 → H.getD k 0 ≤ (aH m H id hv).getD k 0 from fun k hk => aH_le HS1.out.k id hv k)
            have SP := Lib.hid (show ∀ k, k < 7 → P.getD k 0 ≤ (aP m P last id hv pr).getD k 0 from fun k hk => aP_le HS1.out.k id hv pr k)
            have HLH := Lib.hid HS1.out.k.h.len
            have HLP := Lib.hid HS1.out.k.p.len
            have hl1 : last ≤ (i : Int) + 1 := by omega
            clear HS1 q0 q1 q2 q3 hN
            generalize aH m H id hv = H1 at *
            generalize aP m P last id hv pr = P1 at *
            go_wp2_with fail
            refine HS2.out.commit.mono ?_
            rintro e w6 ⟨r1', rfl, hr1, b6⟩
            have hle1 : r1 ≤ r1' := isR_rise HLH.out HS2.out.k.h.len SH.out HR1.out hr1
            have HR3 := Lib.hid hr1
            have HS3 := Lib.hid (HS2.out.past b6)
            clear HS2 hr1 b6
            go_wp2_with fail
            refine HS3.out.probe.mono ?_
            rintro e w7 ⟨r2', rfl, hr2, b7⟩
            have hle2 : r2 ≤ r2' := isR_rise HLP.out HS3.out.k.p.len SP.out HR2.out hr2
            have hle3 : r2' ≤ last := isR_hi HS3.out.k.p HS3.out.k.most hr2
            have HR4 := Lib.hid hr2
            have HS4 := Lib.hid (HS3.out.past b7)
            clear HS3 hr2 b7
            go_wp2_with fail
            refine HS4.out.probe.mono ?_
            rintro e w8 ⟨r, rfl, hr, b8⟩
            obtain rfl : r = r2' := uniq hr HR4.out
            have HS5 := Lib.hid (HS4.out.past b8)
            clear HS4 hr b8
            go_wp2_with fail
            refine (qlast_c _ _ _ _ _ _ _ _ HS5.out.q HS5.out.k).mono ?_
            rintro e w9 ⟨rfl, rfl⟩
            go_wp2_with fail
            refine HS5.out.commit.mono ?_
            rintro e w10 ⟨s, rfl, hr, b10⟩
            obtain rfl : s = r1' := uniq hr HR3.out
            have HS6 := Lib.hid (HS5.out.past b10)
            clear HS5 hr b10
            go_wp2_with fail
            refine HS6.out.probe.mono ?_
            rintro e w11 ⟨t, rfl, hr, b11⟩
            obtain rfl : t = r := uniq hr HR4.out
            have HS7 := Lib.hid (HS6.out.past b11)
            clear HS6 hr b11
            go_wp2_with fail
            go_roundw
            case rel => exact ⟨i + 1, H1, P1, last, _, _, by omega, by omega, by omega, by go_num, rfl, rfl, HR3, HR4, HS7⟩
            case measure => simp [intOf]; omega
          · have hk' : (kd == 0) = false := by simpa using hk
            go_wp2_with fail
            clear o0 o1 o2 o3 HS
            generalize wr.heap.size = gO at *
            generalize wr.alloc (.cells #[.int .i64 kd, .int .i64 id, .int .i64 hv, .int .i64 pr] 34) = w4 at *
            have q0 := 0
            have q1 := 0
            have q2 := 0
            have q3 := 0
            go_wp2_with fail
            refine (HS1.out.next (by omega)).mono ?_
            rintro e w5 ⟨rfl, s5, -⟩
            have HS2 := Lib.hid s5
            clear s5
            have SH := Lib.hid (show ∀ k, k < 7 → H.getD k 0 ≤ (H).getD k 0 from fun k hk => Int.le_refl _)
            have SP := Lib.hid (show ∀ k, k < 7 → P.getD k 0 ≤ (P.set (pl x) (last + 1)).getD k 0 from fun k hk => nP_le HS1.out.k hk)
            have HLH := Lib.hid HS1.out.k.h.len
            have HLP := Lib.hid HS1.out.k.p.len
            have hl1 : (last + 1) ≤ (i : Int) + 1 := by omega
            clear HS1 q0 q1 q2 q3 hN
            generalize P.set (pl x) (last + 1) = P1 at *
            generalize last + 1 = last1 at *
            go_wp2_with fail
            refine HS2.out.commit.mono ?_
            rintro e w6 ⟨r1', rfl, hr1, b6⟩
            have hle1 : r1 ≤ r1' := isR_rise HLH.out HS2.out.k.h.len SH.out HR1.out hr1
            have HR3 := Lib.hid hr1
            have HS3 := Lib.hid (HS2.out.past b6)
            clear HS2 hr1 b6
            go_wp2_with fail
            refine HS3.out.probe.mono ?_
            rintro e w7 ⟨r2', rfl, hr2, b7⟩
            have hle2 : r2 ≤ r2' := isR_rise HLP.out HS3.out.k.p.len SP.out HR2.out hr2
            have hle3 : r2' ≤ last1 := isR_hi HS3.out.k.p HS3.out.k.most hr2
            have HR4 := Lib.hid hr2
            have HS4 := Lib.hid (HS3.out.past b7)
            clear HS3 hr2 b7
            go_wp2_with fail
            refine HS4.out.probe.mono ?_
            rintro e w8 ⟨r, rfl, hr, b8⟩
            obtain rfl : r = r2' := uniq hr HR4.out
            have HS5 := Lib.hid (HS4.out.past b8)
            clear HS4 hr b8
            go_wp2_with fail
            refine (qlast_c _ _ _ _ _ _ _ _ HS5.out.q HS5.out.k).mono ?_
            rintro e w9 ⟨rfl, rfl⟩
            go_wp2_with fail
            refine HS5.out.commit.mono ?_
            rintro e w10 ⟨s, rfl, hr, b10⟩
            obtain rfl : s = r1' := uniq hr HR3.out
            have HS6 := Lib.hid (HS5.out.past b10)
            clear HS5 hr b10
            go_wp2_with fail
            refine HS6.out.probe.mono ?_
            rintro e w11 ⟨t, rfl, hr, b11⟩
            obtain rfl : t = r := uniq hr HR4.out
            have HS7 := Lib.hid (HS6.out.past b11)
            clear HS6 hr b11
            go_wp2_with fail
            go_roundw
            case rel => exact ⟨i + 1, H, P1, last1, _, _, by omega, by omega, by omega, by go_num, rfl, rfl, HR3, HR4, HS7⟩
            case measure => simp [intOf]; omega
        · obtain rfl : i = 60 := by omega
          go_wp2_with fail
          go_ret
          exact ⟨rfl, HS.out.bel⟩
      · obtain rfl : i = len := by omega
        go_wp2_with fail
        go_ret
        exact ⟨rfl, HS.out.bel⟩
end Go.Proofs.Ytdgpjolohghboaa
