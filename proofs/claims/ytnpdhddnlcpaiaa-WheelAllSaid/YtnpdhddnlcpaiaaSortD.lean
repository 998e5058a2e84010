/- slices.symMergeCmpFunc where the second row is of one. -/
import Derived.Test.YtnpdhddnlcpaiaaSortC
namespace Go.Proofs.Ytnpdhddnlcpaiaa
open Go.RowKit

set_option maxHeartbeats 1600000 in
set_option maxRecDepth 100000 in
theorem symB_c (w : World) (g c N a m b : Nat) (Z : List Value) (P A R : List Int) (x : Int) (kf : Int → Int) (V : Int → Prop) (G : FuncId) (cb : Array Value) (eg : ∀ args w, (callFunc G args).run Try.prog w = .ok (.enter G args) w)
    (ha : P.length = a) (hm : a + A.length = m) (hb : m + 1 = b) (h2 : a + 1 < m) (hN : b ≤ N) (hS : Sl w g Z (P ++ (A ++ (x :: R)))) (hbig : N < 4611686018427387904) (hC : Cm w g kf V G cb) (hVx : V x) (hV : ∀ x ∈ A, V x) (hA : A.Pairwise (PSort.lt kf)) (hup : ∀ y ∈ A, y < x) :
    Calls Try.prog 31 #[.slice (some ⟨g, 0, none⟩) N c, .int .i64 a, .int .i64 m, .int .i64 b, .func (.func G) #[] cb] w fun e w' => e = .returned (.tuple #[]) ∧ ∃ M, M.Perm (A ++ [x]) ∧ M.Pairwise (PSort.lt kf) ∧ Sl w' g Z (P ++ (M ++ R)) ∧ Touch [g] w w' := by
  have HV := Lib.hid (And.intro hV (And.intro hVx (And.intro ha (And.intro hm (And.intro hA (And.intro hup hC))))))
  have S0 := Lib.hid hS
  have hm0 : ¬ (m : Int) - (a : Int) = 1 := by omega
  have hm1 : (b : Int) - (m : Int) = 1 := by omega
  have HB := Lib.hid hb
  have hmb : m < b := by omega
  have hma : a ≤ m := by omega
  clear ha hb hV hVx hA hup hC hS hm
  go_enter Try.func31, Try.ntmps31
  go_wp2_with fail
  go_loopw [14, 15] (fun s14 s15 wr => ∃ i j : Nat, s14 = .int .i64 i ∧ s15 = .int .i64 j ∧ a ≤ i ∧ i ≤ j ∧ j ≤ m ∧ Hid (PSort.Cut kf x A (i - a) (j - a)) ∧ Hid (Sl wr g Z (P ++ (A ++ (x :: R)))) ∧ Hid (Touch [g] w wr)) (fun s14 s15 _ => (intOf s15).toNat - (intOf s14).toNat)
  case atStart => exact ⟨a, m, rfl, rfl, by omega, by omega, by omega, Lib.hid (by have := PSort.Cut.start kf x A; rwa [show a - a = 0 by omega, show m - a = A.length by have := HV.out.2.2.2.1; omega]), S0, Lib.hid (Touch.refl _ _)⟩
  case round =>
    obtain ⟨i, j, rfl, rfl, hai, hij, hjm, TC, SI, hT⟩ := hrel
    by_cases hlt : i < j
    · obtain ⟨h, h0⟩ : ∃ h, h = (i + j) / 2 := ⟨_, rfl⟩
      have hh : ((i : Int) + (j : Int)) / 2 = (h : Int) := by omega
      obtain ⟨hih, hhj⟩ := half_le h0 hlt
      have hlA : A.length = m - a := by have := HV.out.2.2.2.1; omega
      have hbm : (P ++ (A ++ (x :: R))).getD h 0 = A.getD (h - a) 0 := by
        have hP := HV.out.2.2.1
        rw [getD_app (by omega), hP, getD_fst (by omega)]
      have hax : (P ++ (A ++ (x :: R))).getD m 0 = x := by
        have hP := HV.out.2.2.1
        rw [getD_app (by omega), hP, getD_app (by omega), hlA, Nat.sub_self]; rfl
      have hlen : b ≤ (P ++ (A ++ (x :: R))).length := by
        have hP := HV.out.2.2.1
        have := HB.out
        simp; omega
      have c1 := SI.out.cell (i := h) (by omega)
      have c2 := SI.out.cell (i := m) (by omega)
      rw [hbm] at c1
      rw [hax] at c2
      have hmem : A.getD (h - a) 0 ∈ A := PSort.getD_mem (by omega)
      have HU := Lib.hid (TC.out.up (h := h - a) HV.out.2.2.2.2.1 (by omega))
      have HD := Lib.hid (TC.out.down (h := h - a) HV.out.2.2.2.2.1 (by omega) (by omega))
      have jz : (h : Int) < (N : Int) := by omega
      have jz1 : (m : Int) < (N : Int) := by omega
      have HH := Lib.hid h0
      clear h0 hlA hbm hax hlen TC
      generalize A.getD (h - a) 0 = y at c1 hmem HU HD
      by_cases hk : kf x < kf y
      · have hc := fun n => Cm.lo HV.out.2.2.2.2.2.2 hT.out HV.out.2.1 (HV.out.1 y hmem) hk n
        have HD' := Lib.hid (HD.out (PSort.lt_pos hk))
        clear hk hmem HD HU
        go_wp2_with fail
        go_quiet (first | (go_at_fn G; refine Calls.quiet_of (hc _)))
        go_wp2_with fail
        go_roundw
        case rel => exact ⟨i, h, rfl, by go_num, by omega, by omega, by omega, HD', Lib.hid (SI.out.drewN _), Lib.hid (hT.out.drewN _)⟩
        case measure => simp [intOf]; omega
      · obtain ⟨z, hc⟩ := Cm.hi HV.out.2.2.2.2.2.2 hT.out HV.out.2.1 (HV.out.1 y hmem) hk
        have HU' := Lib.hid (HU.out (PSort.lt_neg (HV.out.2.2.2.2.2.1 y hmem) hk))
        clear hk hmem HD HU
        go_wp2_with fail
        go_quiet (first | (go_at_fn G; refine Calls.quiet_of (hc _)))
        go_wp2_with fail
        go_roundw
        case rel => exact ⟨h + 1, j, by go_num, rfl, by omega, by omega, by omega, Lib.hid (by have := HU'.out; rwa [show h - a + 1 = h + 1 - a by omega] at this), Lib.hid (SI.out.drewN _), Lib.hid (hT.out.drewN _)⟩
        case measure => simp [intOf]; omega
    · obtain rfl : i = j := by omega
      have TD := Lib.hid (And.intro (TC.out.done HV.out.2.2.2.2.1) TC.out.2.1)
      clear TC
      go_wp2_with fail
      go_loopw [17] (fun s17 wr => ∃ k : Nat, s17 = .int .i64 k ∧ i ≤ k ∧ k ≤ m ∧ Hid (Sl wr g Z (P ++ (A.take (k - a) ++ x :: (A.drop (k - a) ++ R)))) ∧ Hid (Touch [g] w wr)) (fun s17 _ => (intOf s17).toNat)
      case atStart => exact ⟨m, rfl, by omega, by omega, Lib.hid (by
        have hl := HV.out.2.2.2.1
        rw [List.take_of_length_le (by omega), List.drop_of_length_le (by omega)]; simpa using SI.out), hT⟩
      case round =>
        clear SI hT
        obtain ⟨k, rfl, hik, hkm, SK, hTK⟩ := hrel
        by_cases hlt : i < k
        · have hlA : A.length = m - a := by have := HV.out.2.2.2.1; omega
          obtain ⟨kp, rfl⟩ : ∃ kp, k = kp + 1 := ⟨k - 1, by omega⟩
          obtain ⟨y, hy⟩ : ∃ y, A.drop (kp - a) = y :: A.drop (kp - a + 1) := ⟨_, List.drop_eq_getElem_cons (by omega)⟩
          have ty : A.take (kp + 1 - a) = A.take (kp - a) ++ [y] := by
            rw [show kp + 1 - a = kp - a + 1 by omega, List.take_add, hy]; simp
          have e1 : P ++ (A.take (kp + 1 - a) ++ x :: (A.drop (kp + 1 - a) ++ R)) = (P ++ A.take (kp - a)) ++ y :: ([] ++ x :: (A.drop (kp - a + 1) ++ R)) := by
            rw [ty, show kp + 1 - a = kp - a + 1 by omega]; simp
          have e2 : P ++ (A.take (kp - a) ++ x :: (A.drop (kp - a) ++ R)) = (P ++ A.take (kp - a)) ++ x :: ([] ++ y :: (A.drop (kp - a + 1) ++ R)) := by
            rw [hy]; simp
          have SI' := SK.out
          rw [e1] at SI'
          obtain ⟨q, hq⟩ : ∃ q, q = kp + 1 := ⟨_, rfl⟩
          obtain ⟨c1, c2, f1, f2, s1, s2⟩ := SI'.two (p := kp) (q := q) (by have := HV.out.2.2.1; simp; omega) (by have := HV.out.2.2.1; simp; omega)
          have E2 := Lib.hid e2
          have S1 := Lib.hid (s2 _ SI')
          have HP := Lib.hid hq
          have eq : ((kp : Int) + 1).toNat = q := by omega
          have hpq : kp ≠ q := by omega
          have jz : (kp : Int) + 1 < (N : Int) := by omega
          have jz1 : (kp : Int) < (N : Int) := by omega
          have jlt : (i : Int) < (kp : Int) + 1 := by omega
          clear e1 e2 ty hy s1 s2 SI' SK hlA hq
          go_wp2_with fail
          go_big_region
          all_goals go_wp2_with fail
          go_roundw
          case rel => exact ⟨kp, by go_num, by omega, by omega, Lib.hid (by rw [E2.out]; exact S1.out.drew), Lib.hid ((hTK.out.cell (by simp) _ _).cell (by simp) _ _).drew⟩
          case measure => simp [intOf]
        · have jlt : ¬ (i : Int) < (k : Int) := by omega
          go_wp2_with fail
          (try simp only [Exit.inBlock, Exit.then]); refine bodyPost_ret (results_none rfl _ _ _) rfl ?_
          obtain rfl : i = k := by omega
          refine ⟨rfl, A.take (i - a) ++ x :: A.drop (i - a), ?_, TD.out.1, by simpa using SK.out, hTK.out⟩
          refine List.perm_middle.trans ?_
          rw [List.take_append_drop]
          exact (List.perm_append_singleton x A).symm

end Go.Proofs.Ytnpdhddnlcpaiaa
