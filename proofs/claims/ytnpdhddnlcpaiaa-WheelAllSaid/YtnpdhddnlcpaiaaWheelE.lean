/- Contracts of package wheel: Go. -/
import Derived.Test.YtnpdhddnlcpaiaaWheelD
namespace Go.Proofs.Ytnpdhddnlcpaiaa
open Go.RowKit

theorem go_nil (w : World) (t : Int) :
    Calls Try.prog 13 #[.pointer none, .int .i64 t] w fun e w' => e = .returned (.slice none 0 0) ∧ w = w' := by
  go_enter Try.func13, Try.ntmps13
  go_wp2_with fail
  go_ret
  exact ⟨rfl, rfl⟩

/-- What Go leaves: who went off, in order; the wheel without them. -/
def Went (w : World) (g : Nat) (T : List (Int × Bool)) (now nw : Int) (e : Ending) (w' : World) : Prop :=
  ∃ (A : Option Addr) (n c : Nat) (M : List Int), e = .returned (.slice A n c) ∧ n = M.length ∧ M.Perm (PWheel.goD T now nw) ∧ M.Pairwise (PSort.lt (PWheel.key T)) ∧
    w'.ownsRow w.heap.size 3 1 (.slice A n c) n (is M) ∧ Wl w' g (PWheel.goN now nw) (PWheel.clr T M) ∧ Touch [g] w w'

theorem goes_mem {T : List (Int × Bool)} {now nw x : Int} (h : x ∈ PWheel.goD T now nw) : 0 ≤ x ∧ x < 64 := by
  unfold PWheel.goD at h
  split at h
  · exact ⟨(PWheel.mem_due.1 h).1, (PWheel.mem_due.1 h).2.1⟩
  · simp at h

theorem went_none (w : World) (g : Nat) (T : List (Int × Bool)) (now nw : Int) (h : Wl w g now T) (hg : PWheel.goes now nw = false) : Went w g T now nw (.returned (.slice none 0 0)) w :=
  ⟨none, 0, 0, [], rfl, rfl, by simp [PWheel.goD, hg], List.Pairwise.nil, ⟨rfl, .inl ⟨rfl, rfl⟩⟩, by simpa [PWheel.goN, hg, PWheel.clr] using h, Touch.refl _ _⟩

set_option maxHeartbeats 1600000 in
set_option maxRecDepth 100000 in
theorem go_c (w : World) (g : Nat) (now nw : Int) (T : List (Int × Bool)) (h : Wl w g now T) :
    Calls Try.prog 13 #[.pointer (some ⟨g, 0, none⟩), .int .i64 nw] w (Went w g T now nw) := by
  have hc := h.tick
  cases ht : PWheel.isT nw
  · have H := Lib.hid ht
    have HW := Lib.hid (went_none w g T now nw h (by simp [PWheel.goes, ht]))
    clear ht h
    go_enter Try.func13, Try.ntmps13
    go_wp2_with fail
    refine (wTime_c w nw).mono ?_
    rw [H.out]
    rintro e w' ⟨rfl, rfl⟩
    go_wp2_with fail
    go_ret
    exact HW.out
  · by_cases hn : nw < now
    · have H := Lib.hid ht
      have HW := Lib.hid (went_none w g T now nw h (by simp [PWheel.goes, hn]))
      clear ht h
      go_enter Try.func13, Try.ntmps13
      go_wp2_with fail
      refine (wTime_c w nw).mono ?_
      rw [H.out]
      rintro e w' ⟨rfl, rfl⟩
      go_wp2_with fail
      go_ret
      exact HW.out
    · have hgo : PWheel.goes now nw = true := by simp [PWheel.goes, ht, hn]
      have H := Lib.hid ht
      have HD := Lib.hid (show PWheel.goD T now nw = PWheel.due T nw 64 by simp [PWheel.goD, hgo])
      have HN := Lib.hid (show PWheel.goN now nw = nw by simp [PWheel.goN, hgo])
      have fz := h.free 0
      have hlt := h.lt
      have h1 := Lib.hid (h.time nw)
      have t1 := Lib.hid (Touch.of_grown (grown_set w g 0 (.int .i64 nw)))
      have hsz : (w.setCell ⟨g, 0, none⟩ (.int .i64 nw)).heap.size = w.heap.size := by simp [World.setCell]
      have HSZ := Lib.hid hsz
      clear ht h hgo hsz
      go_enter Try.func13, Try.ntmps13
      go_wp2_with fail
      refine (wTime_c w nw).mono ?_
      rw [H.out]
      rintro e w' ⟨rfl, rfl⟩
      go_wp2_with fail
      clear hc fz
      generalize w.setCell ⟨g, 0, none⟩ (.int .i64 nw) = w1 at *
      refine (due_c w1 g nw T h1.out).mono ?_
      rintro e w2 ⟨A, n, c, M, rfl, hn2, p2, s2, o2, b2⟩
      have W2 := h1.out.past b2
      have t2 := Lib.hid (t1.out.trans (Touch.of_below b2))
      have HM := Lib.hid (And.intro hn2 (And.intro p2 s2))
      have hl64 : n ≤ 64 := by rw [hn2, p2.length_eq]; exact PWheel.due_len T nw 64
      have O2 := Lib.hid (own_base o2 (Nat.le_of_eq HSZ.out.symm))
      have W2' := Lib.hid W2
      clear hn2 p2 s2 o2 b2 W2 h1 t1
      go_wp2_with fail
      go_loopw [31] (fun s31 wr => ∃ k : Nat, k ≤ n ∧ s31 = .int .i64 k ∧ Hid (Wl wr g nw (PWheel.clr T (M.take k))) ∧ Hid (wr.ownsRow w.heap.size 3 1 (.slice A n c) n (is M)) ∧ Hid (Touch [g] w wr)) (fun s31 _ => n - (intOf s31).toNat)
      case atStart => exact ⟨0, by omega, rfl, W2', O2, t2⟩
      case round =>
        clear W2' O2 t2
        obtain ⟨k, hk, rfl, WK, OK, TK⟩ := hrel
        by_cases hkn : k < n
        · have hr := Rd.of_own OK.out
          obtain ⟨b, o, x, hA, hx, hd, hxe⟩ := hr.int hkn
          have hml : k < M.length := by have := HM.out.1; omega
          have hxm : x ∈ M := by
            rw [hxe]; simp [List.getD, List.getElem?_eq_getElem hml]
          obtain ⟨x0, x64⟩ := goes_mem (T := T) (now := now) (nw := nw) (by rw [HD.out]; exact HM.out.2.1.mem_iff.1 hxm)
          obtain ⟨i, rfl⟩ := Int.eq_ofNat_of_zero_le x0
          have hi : i < 64 := by omega
          obtain ⟨c1, c2⟩ := WK.out.at_ hi
          have f1 := WK.out.free (1 + i * 2)
          have f2 := WK.out.free (1 + i * 2 + 1)
          have hs := WK.out.set hi 0 false
          have htk : PWheel.clr T (M.take (k + 1)) = (PWheel.clr T (M.take k)).set i (0, false) := by
            have e : M.take (k + 1) = M.take k ++ [(i : Int)] := by
              rw [List.take_add, hd]; simp
            rw [e, PWheel.clr_app]; rfl
          rw [← htk] at hs
          have HS := Lib.hid hs
          have tw : Touch [g] wr ((wr.setCell ⟨g, 1 + i * 2, none⟩ (.int .i64 0)).setCell ⟨g, 1 + i * 2 + 1, none⟩ (.bool false)) := (Touch.of_grown (grown_set _ _ _ _)).trans (Touch.of_grown (grown_set _ _ _ _))
          have HT := Lib.hid tw
          have HO := Lib.hid (own_touch OK.out tw (fun g' hg' ys hy => by
            have e : g' = g := by simpa using hg'
            subst e
            exact absurd rfl (Blk.ne hy WK.out.2 (by decide))))
          subst hA
          clear hs tw htk hd hxe hxm hr OK WK x0 x64
          go_wp2_with fail
          go_roundw
          case rel => exact ⟨k + 1, by omega, by go_num, HS, HO, Lib.hid (TK.out.trans HT.out)⟩
          case measure => simp [intOf]; omega
        · obtain rfl : k = n := by omega
          go_wp2_with fail
          go_ret
          refine ⟨A, k, c, M, rfl, HM.out.1, by rw [HD.out]; exact HM.out.2.1, HM.out.2.2, OK.out, ?_, TK.out⟩
          have := WK.out
          rw [List.take_of_length_le (by have := HM.out.1; omega)] at this
          rw [HN.out]; exact this

end Go.Proofs.Ytnpdhddnlcpaiaa
