/- The walk of NodePatience. -/
import Derived.Test.YtfolifhgmdglaaaGreatDoorSeg25
import Derived.Test.YtfolifhgmdglaaaGreatDoorSegLaw25D
namespace Go.Proofs.YtfolifhgmdglaaaGreatDoor
open Go.RowKit PNode

theorem next_id {id n v : Int} (_h1 : 1 ≤ id) (_h2 : id ≤ n) (h : IsNext id n (max 0 0 + 1) v) (h3 : 3 ≤ n) (h7 : n ≤ 7) : id = v := by
  obtain ⟨q1, q2, q3⟩ := h
  have e : max (0 : Int) 0 = 0 := rfl
  rw [e] at q1 q2
  unfold PTeam.decider at q3
  rw [if_neg (by omega), Int.emod_eq_of_lt (by omega) (by omega)] at q3
  omega

set_option maxHeartbeats 16000000 in
set_option maxRecDepth 100000 in
theorem NodePatience_good (w : World) (ht : Tab w) (id n : Int) (N : Nat) (hN : n = N) (g1 : 3 ≤ n) (g2 : n ≤ 7) (g3 : 1 ≤ id) (g4 : id ≤ n) :
    Calls Tryz.prog 7 #[.int .i64 id, .int .i64 n] w fun e w' => e = .returned (.bool true) ∧ Below w.heap.size w w' := by
  have HT := Lib.hid ht
  have HNN := Lib.hid hN
  clear ht hN
  go_enter Tryz.func7, Tryz.ntmps7
  go_wp2_with fail
  refine (begunN_c w HT.out).mono ?_
  rintro e w1 ⟨rfl, b1⟩
  have b2 := Lib.hid (b1.alloc b1.size (.cells #[.int .i64 0, .int .i64 0] 28))
  have D2 : Hid (Ds (w1.alloc (.cells #[.int .i64 0, .int .i64 0] 28)) w1.heap.size 0 0) := Lib.hid (Blk.new w1 _ _)
  have hd1 := Lib.hid (show w.heap.size ≤ w1.heap.size from b1.size)
  clear b1
  go_wp2_with fail
  refine (Sn.make (w0 := w) b2.out (id := id) (n := n) (b := 0) D2.out hd1.out g1 g2 g3 g4 (by omega) (by omega) (by omega) (by omega)).mono ?_
  rintro e w4 ⟨x, rfl, n4, -⟩
  have N4 := Lib.hid (show Sn w w4 x w1.heap.size (idl id n 0) from n4)
  obtain ⟨d, hd⟩ : ∃ d, w1.heap.size = d := ⟨_, rfl⟩
  rw [hd] at N4
  rw [hd]
  clear n4 hd hd1 D2 b2
  go_wp2_with fail
  go_loopw [9] (fun s9 wr => ∃ k : Nat, s9 = .int .i64 ((k : Int) + 1) ∧ (k : Int) + 1 ≤ 8 + 2 * id ∧ Hid (Sn w wr x d (idl id n k))) (fun s9 _ => (8 + 2 * id - intOf s9).toNat)
  case atStart => exact ⟨0, rfl, by omega, N4⟩
  case round =>
    obtain ⟨k, rfl, hk, NK⟩ := hrel
    by_cases hlt : (k : Int) + 1 < 8 + 2 * id
    · go_wp2_with fail
      refine (NK.out.idle hlt (by omega)).mono ?_
      rintro e w5 ⟨Q, p', A, c, ⟨rfl, rfl⟩, rfl, -, n5, -⟩
      have N5 := Lib.hid n5
      have D5 : Hid (Ds w5 d 1 0) := Lib.hid n5.disk
      clear n5 NK
      go_wp2_with fail
      refine (view_c w5 d 1 0 D5.out).mono ?_
      rintro e w6 ⟨rfl, rfl⟩
      go_wp2_with fail
      go_roundw
      case rel => exact ⟨k + 1, by go_num, by omega, N5⟩
      case measure => simp [intOf]; omega
    · have hk8 : (k : Int) + 1 = 8 + 2 * id := by omega
      clear N4
      go_wp2_with fail
      refine (NK.out.first (by omega) hk8 (by omega) N HNN.out).mono ?_
      rintro e w5 ⟨Q, p', A, c, ⟨v, hv, hQ, hp⟩, rfl, o5, n5, -⟩
      subst hp
      obtain rfl : id = v := next_id g3 g4 hv g1 g2
      have hr : Nr (idl id n ((k : Int) + 1)) := idl_nr id n _ g1 g2 g3 g4 (by omega) (by omega)
      have hlen0 := propsP_len hr (v := id) (by show (0 : Int) < id; omega) (N := N) HNN.out (idl id n ((k : Int) + 1)).boot
      rw [← hQ] at hlen0
      have hlen : (Q.length : Int) = n - 1 := by have := HNN.out; omega
      have hq : Hid (∀ q ∈ Q, q.A = none ∧ q.c = 0 ∧ q.m.es = []) := Lib.hid (fun q hq => by
        obtain ⟨i, h1⟩ := List.getElem?_of_mem hq
        rw [hQ] at h1
        obtain ⟨dst, rfl⟩ := propsP_each h1
        exact ⟨rfl, rfl, rfl⟩)
      have HQ := Lib.hid hQ
      have HL := Lib.hid hlen
      have O5 := Lib.hid o5
      have N5 := Lib.hid n5
      have D5 : Hid (Ds w5 d 1 id) := Lib.hid n5.disk
      clear hv hQ o5 n5 NK hr
      go_wp2_with fail
      refine (view_c w5 d 1 id D5.out).mono ?_
      rintro e w6 ⟨rfl, rfl⟩
      go_wp2_with fail
      go_loopw [11] (fun s11 wr => ∃ i : Nat, s11 = .int .i64 (i : Int) ∧ i ≤ Q.length ∧ Hid (Below w5.heap.size w5 wr)) (fun s11 _ => Q.length - (intOf s11).toNat)
      case atStart => exact ⟨0, rfl, by omega, Lib.hid (Below.refl _ _)⟩
      case round =>
        obtain ⟨i, rfl, hi, BT⟩ := hrel
        by_cases hlt2 : i < Q.length
        · have hqi := List.getElem?_eq_getElem hlt2
          obtain ⟨dst, hdst⟩ := propsP_each (t := PVote.tm (own (idl id n ((k : Int) + 1)) id)) (me := id) (boot := 1) (view := id) (N := N) (i := i) (q := Q[i]) (by rw [show propsP (PVote.tm (own (idl id n ((k : Int) + 1)) id)) id 1 id N = Q from HQ.out.symm]; exact hqi)
          obtain ⟨g, hg, hc⟩ := ms_at (O5.out.past BT.out) hqi
          subst hg
          rw [hdst] at hc
          have k0 : wr.cell? ⟨g, i * 13, none⟩ = some (.int .i64 1) := by
            have := hc 0 (.int .i64 1) rfl
            simpa using this
          have k1 : wr.cell? ⟨g, i * 13 + 1, none⟩ = some (.int .i64 id) := by
            have := hc 1 (.int .i64 id) rfl
            simpa using this
          have k3 : wr.cell? ⟨g, i * 13 + 3, none⟩ = some (.int .i64 1) := by
            have := hc 3 (.int .i64 1) rfl
            simpa using this
          have k4 : wr.cell? ⟨g, i * 13 + 4, none⟩ = some (.int .i64 id) := by
            have := hc 4 (.int .i64 id) rfl
            simpa using this
          clear hc hdst hqi
          go_wp2_with fail
          go_roundw
          case rel => exact ⟨i + 1, by go_num, by omega, BT⟩
          case measure => simp [intOf]; omega
        · obtain rfl : i = Q.length := by omega
          have N6 := Lib.hid (N5.out.past BT.out)
          have O6 := Lib.hid (O5.out.past BT.out)
          clear N5 O5 BT
          go_wp2_with fail
          refine (N6.out.post (C := cCanv (clkP (prpP (idl id n ((k : Int) + 1)) id)) N id (own (idl id n ((k : Int) + 1)) id)) (fun F hF => tick_of hF (by show (k : Int) + 1 < _; omega) _ (fun Q p' hh => by rw [hh.2]; exact ⟨rfl, rfl⟩) (fun w1 F1 h1 => act_votes h1 rfl (by show (id == id) = true; simp) _ (fun w2 h2 => gather_canv h2 N HNN.out (v := id) (V := own (idl id n ((k : Int) + 1)) id) rfl (by rw [own_tm (idl_nr id n _ g1 g2 g3 g4 (by omega) (by omega)) (by show (0 : Int) < id; omega)]; exact most_one g3 g4 g1 g2) rfl (by show decide (8 + 2 * id ≤ (k : Int) + 1 + 1 - (k + 1)) = false; simp; omega))))).mono ?_
          rintro e w7 ⟨Q7, p', A7, c7, ⟨hQ7, rfl⟩, rfl, o7, n7, K7⟩
          obtain rfl : Q = Q7 := HQ.out.trans hQ7.symm
          have N7 := Lib.hid n7
          have O7 := Lib.hid o7
          have O8 := Lib.hid (K7.ow _ _ _ _ _ _ _ (by decide) O6.out)
          clear o7 n7 K7 N6 O6 hQ7
          go_wp2_with fail
          refine (rEqMsgs_c w7 O8.out O7.out hq.out (by omega)).mono ?_
          rintro e w8 ⟨rfl, b8⟩
          have N8 := Lib.hid (N7.out.past b8)
          clear b8 N7
          go_wp2_with fail
          go_ret
          exact ⟨by simp, N8.out.bel⟩

set_option maxRecDepth 100000 in
theorem NodePatience_bad (w : World) (ht : Tab w) (id n : Int) (hb : n < 3 ∨ 7 < n ∨ id < 1 ∨ n < id) :
    Calls Tryz.prog 7 #[.int .i64 id, .int .i64 n] w fun e w' => e = .returned (.bool true) ∧ Below w.heap.size w w' := by
  have HT := Lib.hid ht
  clear ht
  rcases (by omega : (n < 3) ∨ (¬ n < 3 ∧ 7 < n) ∨ (¬ n < 3 ∧ ¬ 7 < n ∧ id < 1) ∨ (¬ n < 3 ∧ ¬ 7 < n ∧ ¬ id < 1 ∧ n < id)) with h | ⟨h0, h⟩ | ⟨h0, h1, h⟩ | ⟨h0, h1, h2, h⟩
  all_goals
    clear hb
    go_enter Tryz.func7, Tryz.ntmps7
    go_wp2_with fail
    refine (begunN_c w HT.out).mono ?_
    rintro e w1 ⟨rfl, b1⟩
    have b1' := Lib.hid b1
    clear b1
    go_wp2_with fail
    go_ret
    exact ⟨rfl, b1'.out⟩
theorem NodePatience_w (w : World) (ht : Tab w) (id n : Int) :
    Calls Tryz.prog 7 #[.int .i64 id, .int .i64 n] w fun e w' => e = .returned (.bool true) ∧ Below w.heap.size w w' := by
  by_cases hb : n < 3 ∨ 7 < n ∨ id < 1 ∨ n < id
  · exact NodePatience_bad w ht id n hb
  · exact NodePatience_good w ht id n n.toNat (by omega) (by omega) (by omega) (by omega) (by omega)
end Go.Proofs.YtfolifhgmdglaaaGreatDoor

