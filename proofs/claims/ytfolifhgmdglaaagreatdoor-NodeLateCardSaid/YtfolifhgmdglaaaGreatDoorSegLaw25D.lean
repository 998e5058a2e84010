/- The walk of NodeDenied. -/
import Derived.Test.YtfolifhgmdglaaaGreatDoorSeg23
import Derived.Test.YtfolifhgmdglaaaGreatDoorSeg22
import Derived.Test.YtfolifhgmdglaaaGreatDoorSeg25
import Derived.Test.YtfolifhgmdglaaaGreatDoorSegLaw25B
namespace Go.Proofs.YtfolifhgmdglaaaGreatDoor
open Go.RowKit PNode

/-- Behind the denial. -/
def dnP (p : Np) (m : Msg) : Np := { gotP p m with den := max (gotP p m).den m.view }
theorem mod_next {id n : Int} (h1 : 1 ≤ id) (h2 : id ≤ n) (h3 : 3 ≤ n) : (1 ≤ 1 + id % n ∧ 1 + id % n ≤ n) ∧ 1 + id % n ≠ id := by
  rcases Int.lt_or_eq_of_le h2 with h | rfl
  · have e : id % n = id := Int.emod_eq_of_lt (by omega) h
    rw [e]; omega
  · rw [Int.emod_self]; omega

set_option maxHeartbeats 16000000 in
set_option maxRecDepth 100000 in
theorem NodeDenied_good (w : World) (ht : Tab w) (id n by_ : Int) (N : Nat) (hN : n = N) (g1 : 3 ≤ n) (g2 : n ≤ 7) (g3 : 1 ≤ id) (g4 : id ≤ n) (g5 : 0 ≤ by_) (g6 : by_ ≤ 1000) :
    Calls Tryz.prog 8 #[.int .i64 id, .int .i64 n, .int .i64 by_] w fun e w' => e = .returned (.bool true) ∧ Below w.heap.size w w' := by
  have HT := Lib.hid ht
  obtain ⟨o, ho⟩ : ∃ o, 1 + id % n = o := ⟨_, rfl⟩
  have hmod := mod_next g3 g4 g1
  rw [ho] at hmod
  have HO := Lib.hid ho
  have HM := Lib.hid (may_m (kind := 2) (id := o) (dst := id) (view := by_) (mem := 0) (num := 0) (es := []) (yes := false) (by omega) (by omega) (by omega) hmod.2 (by omega) (by omega) (by omega) (by simp) rfl)
  have HNN := Lib.hid hN
  have q0 : 0 ≤ id % n := by have := hmod.1.1; omega
  have q1 : id % n < n := by have := hmod.1.2; omega
  clear ht hN hmod ho
  go_enter Tryz.func8, Tryz.ntmps8
  go_wp2_with fail
  refine (begunN_c w HT.out).mono ?_
  rintro e w1 ⟨rfl, b1⟩
  have b2 := Lib.hid (b1.alloc b1.size (.cells #[.int .i64 0, .int .i64 0] 28))
  have D2 : Hid (Ds (w1.alloc (.cells #[.int .i64 0, .int .i64 0] 28)) w1.heap.size 0 0) := Lib.hid (Blk.new w1 _ _)
  have hd1 := Lib.hid (show w.heap.size ≤ w1.heap.size from b1.size)
  clear b1
  go_wp2_with fail
  refine (Sn.make (w0 := w) b2.out (id := id) (n := n) (b := 0) D2.out hd1.out g1 g2 g3 g4 (by omega) (by omega) (by omega) (by omega)).mono ?_
  rintro e w4 ⟨x, rfl, n4, -⟩
  have N4 := Lib.hid (show Sn w w4 x w1.heap.size (idl id n 0) from n4)
  obtain ⟨d, hd⟩ : ∃ d, w1.heap.size = d := ⟨_, rfl⟩
  rw [hd] at N4
  rw [hd]
  clear n4 hd hd1 D2 b2
  go_wp2_with fail
  go_loopw [11] (fun s11 wr => ∃ (k : Nat) (p : Np), s11 = .int .i64 (k : Int) ∧ (k : Int) ≤ 8 + 2 * id ∧ Hid ((k : Int) < 8 + 2 * id → p = idl id n k) ∧ Hid ((k : Int) = 8 + 2 * id → ∃ v, IsNext id n (max 0 0 + 1) v ∧ p = prpP (idl id n k) v) ∧ Hid (Sn w wr x d p)) (fun s11 _ => (8 + 2 * id - intOf s11).toNat)
  case atStart => exact ⟨0, _, rfl, by omega, Lib.hid (fun _ => rfl), Lib.hid (fun h => by omega), N4⟩
  case round =>
    obtain ⟨k, p, rfl, hk, HP1, HP2, NK⟩ := hrel
    by_cases hlt : (k : Int) < 8 + 2 * id
    · have NI := Lib.hid (show Sn w wr x d (idl id n k) by rw [← HP1.out hlt]; exact NK.out)
      rcases (by omega : (k : Int) + 1 < 8 + 2 * id ∨ (k : Int) + 1 = 8 + 2 * id) with h9 | h9
      · go_wp2_with fail
        refine (NI.out.idle h9 (by omega)).mono ?_
        rintro e w5 ⟨Q, p', A, c, ⟨rfl, rfl⟩, rfl, -, n5, -⟩
        have N5 := Lib.hid n5
        clear n5 HP1 HP2 NK NI
        go_wp2_with fail
        go_roundw
        case rel => exact ⟨k + 1, _, by go_num, by omega, Lib.hid (fun _ => by simp), Lib.hid (fun h => by omega), N5⟩
        case measure => simp [intOf]; omega
      · go_wp2_with fail
        refine (NI.out.first (by omega) h9 (by omega) N HNN.out).mono ?_
        rintro e w5 ⟨Q, p', A, c, ⟨v, hv, rfl, rfl⟩, rfl, -, n5, -⟩
        have N5 := Lib.hid n5
        have HV := Lib.hid hv
        clear n5 hv HP1 HP2 NK NI
        go_wp2_with fail
        go_roundw
        case rel => exact ⟨k + 1, _, by go_num, by omega, Lib.hid (fun h => by omega), Lib.hid (fun _ => ⟨v, HV.out, by simp⟩), N5⟩
        case measure => simp [intOf]; omega
    · have hk8 : (k : Int) = 8 + 2 * id := by omega
      obtain ⟨v, hv, hp⟩ := HP2.out hk8
      subst hp
      have v1 : 1 ≤ v ∧ v ≤ 7 := by
        have h1 := hv.1
        have h2 := hv.2.1
        have e : max (0 : Int) 0 = 0 := rfl
        rw [e] at h1 h2
        omega
      have D5 : Hid (Ds wr d 1 v) := Lib.hid NK.out.disk
      clear hv HP1 HP2 N4
      go_wp2_with fail
      refine (view_c wr d 1 v D5.out).mono ?_
      rintro e w5 ⟨rfl, rfl⟩
      go_wp2_with fail
      rw [HO.out]
      refine (from_c wr 2 o id by_).mono ?_
      rintro e w6 ⟨rfl, b6⟩
      have N6 := Lib.hid (NK.out.past b6)
      clear b6 NK D5
      go_wp2_with fail
      have hG : PGram.herr (prpP (idl id n k) v).id (prpP (idl id n k) v).G (some (fromM 2 o id by_)) = 0 := by
        show (if id ≠ id then (1 : Int) else if (1 : Int) < (PGram.at_ PGram.zeroL o).boot then 7 else 0) = 0
        rw [if_neg (by simp), zero_boot]
        rfl
      have HG := Lib.hid hG
      clear hG
      by_cases hby : by_ ≤ v
      · refine (hearL_not N6.out (fromM 2 o id by_) none 0 (Rd.nil _ _ _) HT.out HM.out HG.out (fun w1 F1 A1 c1 h1 => ?_)).mono ?_
        · have := hd_deny h1 (fromM 2 o id by_) A1 c1 rfl (by show (v == v) = true; simp)
          rw [show decide ((gotP (prpP (idl id n k) v) (fromM 2 o id by_)).pro < (fromM 2 o id by_).view) = false from decide_eq_false (by show ¬ (v < by_); omega)] at this
          exact this
        rintro e w7 ⟨Q, p', A, c, ⟨rfl, rfl⟩, rfl, -, n7, -⟩
        have N7 := Lib.hid n7
        clear n7 N6
        go_wp2_with fail
        refine (N7.out.post (C := cCanv (clkP (gotP (prpP (idl id n k) v) (fromM 2 o id by_))) N v (own (idl id n k) v)) (fun F hF => tick_of hF (by show (k : Int) < _; omega) _ (fun Q p' hh => by rw [hh.2]; exact ⟨rfl, rfl⟩) (fun w1 F1 h1 => act_votes h1 rfl (by show (v == v) = true; simp) _ (fun w2 h2 => gather_canv h2 N HNN.out (v := v) (V := own (idl id n k) v) rfl (by rw [own_tm (idl_nr id n k g1 g2 g3 g4 (by omega) (by omega)) (by show (0 : Int) < v; omega)]; exact most_one g3 g4 g1 g2) rfl (by show decide (8 + 2 * id ≤ (k : Int) + 1 - k) = false; simp; omega))))).mono ?_
        rintro e w8 ⟨Q, p', A, c, ⟨rfl, rfl⟩, rfl, -, n8, -⟩
        have N8 := Lib.hid n8
        have D8 : Hid (Ds w8 d 1 v) := Lib.hid n8.disk
        clear n8 N7
        go_wp2_with fail
        refine (view_c w8 d 1 v D8.out).mono ?_
        rintro e w9 ⟨rfl, rfl⟩
        go_wp2_with fail
        go_ret
        exact ⟨by simp, N8.out.bel⟩
      · refine (hearL_of N6.out (fromM 2 o id by_) none 0 (Rd.nil _ _ _) HT.out HM.out HG.out (C := cDone (dnP (prpP (idl id n k) v) (fromM 2 o id by_))) (fun Q p' hh => by rw [hh.2]; exact ⟨rfl, rfl⟩) (fun w1 F1 A1 c1 h1 => ?_) (fun w1 F1 A1 c1 h1 r1 => heed_deny h1 (fromM 2 o id by_) A1 c1 rfl (by show 0 ≤ by_ ∧ by_ ≤ _; omega))).mono ?_
        · have := hd_deny h1 (fromM 2 o id by_) A1 c1 rfl (by show (v == v) = true; simp)
          rw [show decide ((gotP (prpP (idl id n k) v) (fromM 2 o id by_)).pro < (fromM 2 o id by_).view) = true from decide_eq_true (by show v < by_; omega)] at this
          exact this
        rintro e w7 ⟨Q, p', A, c, ⟨rfl, rfl⟩, rfl, -, n7, -⟩
        have N7 := Lib.hid n7
        clear n7 N6
        go_wp2_with fail
        have hmx : max (0 : Int) by_ = by_ := Int.max_eq_right g5
        have HMX := Lib.hid hmx
        clear hmx
        refine (N7.out.post (C := cProp (clkP (dnP (prpP (idl id n k) v) (fromM 2 o id by_))) N) (fun F hF => tick_of hF (by show (k : Int) < _; omega) _ (fun Q p' hh => by obtain ⟨v, -, -, rfl⟩ := hh; exact ⟨rfl, rfl⟩) (fun w1 F1 h1 => act_votes h1 rfl (by show (v == v) = true; simp) _ (fun w2 h2 => gather_den h2 N HNN.out (v := v) (V := own (idl id n k) v) rfl (by rw [own_tm (idl_nr id n k g1 g2 g3 g4 (by omega) (by omega)) (by show (0 : Int) < v; omega)]; exact most_one g3 g4 g1 g2) (by show 0 < max (0 : Int) by_; rw [HMX.out]; omega) (by show v ≤ _; omega) (by show max (0 : Int) by_ ≤ _; rw [HMX.out]; omega) rfl rfl)))).mono ?_
        rintro e w8 ⟨Q, p', A, c, ⟨v2, hv2, rfl, rfl⟩, rfl, o8, n8, -⟩
        have hv2' : IsNext id n (max v by_ + 1) v2 := by
          have : IsNext id n (max v (max 0 by_) + 1) v2 := hv2
          rw [HMX.out] at this
          exact this
        have e3 : max v by_ = by_ := Int.max_eq_right (by omega)
        rw [e3] at hv2'
        have hr7 : Nr (clkP (dnP (prpP (idl id n k) v) (fromM 2 o id by_))) := N7.out.r.clk (by show (k : Int) < _; omega)
        have hlen := propsP_len hr7 (v := v2) (by have := hv2'.1; show (0 : Int) < v2; omega) (N := N) HNN.out 1
        obtain ⟨Q, hQ⟩ : ∃ Q, propsP (PVote.tm (own (clkP (dnP (prpP (idl id n k) v) (fromM 2 o id by_))) v2)) (clkP (dnP (prpP (idl id n k) v) (fromM 2 o id by_))).id (clkP (dnP (prpP (idl id n k) v) (fromM 2 o id by_))).boot v2 N = Q := ⟨_, rfl⟩
        have hlen' : (Q.length : Int) = N - 1 := by rw [← hQ]; exact hlen
        have hq0 : 0 < Q.length := by have := HNN.out; omega
        obtain ⟨dst, hdst⟩ := propsP_each (t := PVote.tm (own (clkP (dnP (prpP (idl id n k) v) (fromM 2 o id by_))) v2)) (me := id) (boot := 1) (view := v2) (N := N) (i := 0) (q := Q[0]) (by rw [show propsP (PVote.tm (own (clkP (dnP (prpP (idl id n k) v) (fromM 2 o id by_))) v2)) id 1 v2 N = Q from hQ]; exact List.getElem?_eq_getElem hq0)
        rw [hQ] at o8 ⊢
        obtain ⟨g, hg, hc⟩ := ms_at o8 (List.getElem?_eq_getElem hq0)
        subst hg
        have k4 : w8.cell? ⟨g, 4, none⟩ = some (.int .i64 v2) := by
          have := hc 4 (.int .i64 v2) (by rw [hdst]; rfl)
          simpa using this
        have HLN := Lib.hid hlen'
        have hln : ((Q.length : Nat) : Int) = n - 1 := by rw [hlen', HNN.out]
        have N8 := Lib.hid n8
        have D8 : Hid (Ds w8 d 1 v2) := Lib.hid n8.disk
        have g8 : by_ < v2 := by have := hv2'.1; omega
        have g9 : v2 ≤ by_ + n := by have := hv2'.2.1; omega
        have HD9 := Lib.hid hv2'.2.2
        clear n8 N7 o8 hc hdst hQ hlen hlen' hr7 hv2 hv2' HLN
        go_wp2_with fail
        refine (view_c w8 d 1 v2 D8.out).mono ?_
        rintro e w9 ⟨rfl, rfl⟩
        go_wp2_with fail
        refine (rtDecider_c w8 v2 n (by omega) (by omega)).mono ?_
        rw [HD9.out]
        rintro e w9 ⟨rfl, rfl⟩
        go_wp2_with fail
        go_ret
        exact ⟨by simp, N8.out.bel⟩

set_option maxRecDepth 100000 in
theorem NodeDenied_bad (w : World) (ht : Tab w) (id n by_ : Int) (hb : n < 3 ∨ 7 < n ∨ id < 1 ∨ n < id ∨ by_ < 0 ∨ 1000 < by_) :
    Calls Tryz.prog 8 #[.int .i64 id, .int .i64 n, .int .i64 by_] w fun e w' => e = .returned (.bool true) ∧ Below w.heap.size w w' := by
  have HT := Lib.hid ht
  clear ht
  rcases (by omega : (n < 3) ∨ (¬ n < 3 ∧ 7 < n) ∨ (¬ n < 3 ∧ ¬ 7 < n ∧ id < 1) ∨ (¬ n < 3 ∧ ¬ 7 < n ∧ ¬ id < 1 ∧ n < id) ∨ (¬ n < 3 ∧ ¬ 7 < n ∧ ¬ id < 1 ∧ ¬ n < id ∧ by_ < 0) ∨ (¬ n < 3 ∧ ¬ 7 < n ∧ ¬ id < 1 ∧ ¬ n < id ∧ ¬ by_ < 0 ∧ 1000 < by_)) with h | ⟨h0, h⟩ | ⟨h0, h1, h⟩ | ⟨h0, h1, h2, h⟩ | ⟨h0, h1, h2, h3, h⟩ | ⟨h0, h1, h2, h3, h4, h⟩
  all_goals
    clear hb
    go_enter Tryz.func8, Tryz.ntmps8
    go_wp2_with fail
    refine (begunN_c w HT.out).mono ?_
    rintro e w1 ⟨rfl, b1⟩
    have b1' := Lib.hid b1
    clear b1
    go_wp2_with fail
    go_ret
    exact ⟨rfl, b1'.out⟩
theorem NodeDenied_w (w : World) (ht : Tab w) (id n by_ : Int) :
    Calls Tryz.prog 8 #[.int .i64 id, .int .i64 n, .int .i64 by_] w fun e w' => e = .returned (.bool true) ∧ Below w.heap.size w w' := by
  by_cases hb : n < 3 ∨ 7 < n ∨ id < 1 ∨ n < id ∨ by_ < 0 ∨ 1000 < by_
  · exact NodeDenied_bad w ht id n by_ hb
  · exact NodeDenied_good w ht id n by_ n.toNat (by omega) (by omega) (by omega) (by omega) (by omega) (by omega) (by omega)
end Go.Proofs.YtfolifhgmdglaaaGreatDoor

