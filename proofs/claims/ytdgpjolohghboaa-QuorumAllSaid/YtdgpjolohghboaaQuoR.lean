/- Contracts of the document's own quorum: Ack, Next, Commit, Probe. -/
import Derived.Test.YtdgpjolohghboaaQuo
import Derived.Test.YtdgpjolohghboaaTeamR
import Derived.Lib.MinMax
import Derived.BigRegion
import Derived.BigQuiet
import Derived.Deep.QuietTactic
namespace Go.Proofs.Ytdgpjolohghboaa
open Go.RowKit PQuo
section
variable (w : World) (g : Nat) (n me : Int) (m : Nat) (H P : List Int) (last : Int)
theorem rqack_no (h : Rq w g n me m H P last) (hk : Qk n me m H P last) (id x probe : Int) (hno : (PTeam.has m id && decide (0 ≤ x ∧ x ≤ 60)) = false) :
    Calls Try.prog 14 #[.pointer (some ⟨g, 0, none⟩), .int .i64 id, .int .i64 x, .int .i64 probe] w fun e w' => e = .returned (.bool false) ∧ Below w.heap.size w w' := by
  have c2 := Blk.cell h rcs_m
  have hlt := hk.n.2.2
  clear h hk
  cases hh : PTeam.has m id
  · have HH := Lib.hid hh
    clear hh hno
    go_enter Try.func14, Try.ntmps14
    go_wp2_with fail
    refine (rtHas_c w m id hlt).mono ?_
    rw [HH.out]
    rintro e w' ⟨rfl, b1⟩
    have B1 := Lib.hid b1
    clear b1
    go_wp2_with fail
    go_ret
    exact ⟨rfl, B1.out⟩
  · rw [hh, Bool.true_and] at hno
    have hx := of_decide_eq_false hno
    have HH := Lib.hid hh
    clear hh hno
    by_cases hx0 : x < 0
    · clear hx
      go_enter Try.func14, Try.ntmps14
      go_wp2_with fail
      refine (rtHas_c w m id hlt).mono ?_
      rw [HH.out]
      rintro e w' ⟨rfl, b1⟩
      have B1 := Lib.hid b1
      clear b1
      go_wp2_with fail
      go_ret
      exact ⟨rfl, B1.out⟩
    · have hx6 : 60 < x := by omega
      clear hx
      go_enter Try.func14, Try.ntmps14
      go_wp2_with fail
      refine (rtHas_c w m id hlt).mono ?_
      rw [HH.out]
      rintro e w' ⟨rfl, b1⟩
      have B1 := Lib.hid b1
      clear b1
      go_wp2_with fail
      go_ret
      exact ⟨rfl, B1.out⟩
theorem rqack_yes (h : Rq w g n me m H P last) (hk : Qk n me m H P last) (id x probe : Int) (hid : PTeam.has m id = true) (hx0 : 0 ≤ x) (hx6 : x ≤ 60) :
    Calls Try.prog 14 #[.pointer (some ⟨g, 0, none⟩), .int .i64 id, .int .i64 x, .int .i64 probe] w fun e w' => e = .returned (.bool true) ∧ Rq w' g n me m (upd H id x) (if probe ≤ last then upd P id probe else P) last ∧ Touch [g] w w' := by
  unfold upd
  obtain ⟨a, b, hk7, hpl⟩ := pl_in hk.n.2.2 hid
  generalize pl id = k at *
  subst hpl
  have c2 := Blk.cell h rcs_m
  have hlt := hk.n.2.2
  have HH := Lib.hid hid
  have HS := Lib.hid h
  have HK := Lib.hid hk
  clear h hk hid a b
  obtain ⟨v, hv⟩ : ∃ v, H.getD k 0 = v := ⟨_, rfl⟩
  rw [hv]
  have HV := Lib.hid hv
  clear hv
  obtain ⟨u, hu⟩ : ∃ u, P.getD k 0 = u := ⟨_, rfl⟩
  rw [hu]
  have HU := Lib.hid hu
  clear hu
  go_enter Try.func14, Try.ntmps14
  go_wp2_with fail
  refine (rtHas_c w m _ hlt).mono ?_
  rw [HH.out]
  rintro e w0 ⟨rfl, b0⟩
  have S0 := Lib.hid (HS.out.past b0)
  have T0 := Lib.hid (Touch.of_below (S := [g]) b0)
  clear b0 c2
  have c3 := Blk.cell S0.out (rcs_h HK.out.h.len hk7)
  have f3 := Blk.free S0.out (4 + k)
  rw [HV.out, show 4 + k = 3 + (k + 1) by omega] at c3
  rw [show 4 + k = 3 + (k + 1) by omega] at f3
  go_wp2_with fail
  go_big_region
  have S1 := Lib.hid (show Rq (w0.setCell ⟨g, 3 + (k + 1), none⟩ (.int .i64 (max v x))).drew g n me m (H.set k (max v x)) P last by
    have := Blk.set S0.out (4 + k) (.int .i64 (max v x))
    rw [rset_h HK.out.h.len hk7] at this
    rw [show 3 + (k + 1) = 4 + k by omega]
    exact this)
  have T1 := Lib.hid (show Touch [g] w (w0.setCell ⟨g, 3 + (k + 1), none⟩ (.int .i64 (max v x))).drew from (T0.out.cell (List.mem_singleton.2 rfl) _ _).drew)
  have hl : (H.set k (max v x)).length = 7 := by rw [List.length_set]; exact HK.out.h.len
  clear c3 f3 S0 T0
  generalize (w0.setCell ⟨g, 3 + (k + 1), none⟩ (.int .i64 (max v x))).drew = w1 at *
  have c2 := Blk.cell S1.out (rcs_last hl HK.out.p.len)
  have c3 := Blk.cell S1.out (rcs_p hl HK.out.p.len hk7)
  have f3 := Blk.free S1.out (12 + k)
  rw [HU.out, show 12 + k = 11 + (k + 1) by omega] at c3
  rw [show 12 + k = 11 + (k + 1) by omega] at f3
  have HL := Lib.hid hl
  clear hl
  by_cases hp : probe ≤ last
  · go_wp2_with fail
    go_big_region
    go_wp2_with fail
    go_ret
    refine ⟨rfl, ?_, (T1.out.cell (List.mem_singleton.2 rfl) _ _).drew⟩
    have := Blk.set S1.out (12 + k) (.int .i64 (max u probe))
    rw [rset_p HL.out HK.out.p.len hk7] at this
    rw [show 11 + (k + 1) = 12 + k by omega]
    exact this
  · go_wp2_with fail
    go_ret
    exact ⟨rfl, S1.out, T1.out⟩
theorem rqnext_c (h : Rq w g n me m H P last) (hk : Qk n me m H P last) (hb : last < 100) :
    Calls Try.prog 16 #[.pointer (some ⟨g, 0, none⟩)] w fun e w' => e = .returned (.int .i64 (last + 1)) ∧ Rq w' g n me m H (P.set (pl me) (last + 1)) (last + 1) ∧ Touch [g] w w' := by
  obtain ⟨_, _, hlt⟩ := hk.n
  obtain ⟨_, _, hk7, hpl⟩ := pl_in hlt hk.me
  generalize pl me = k at *
  subst hpl
  have c17 := Blk.cell h (rcs_last hk.h.len hk.p.len)
  have f17 := Blk.free h 19
  have hl0 := hk.l0
  have S1 := Lib.hid (show Rq (w.setCell ⟨g, 19, none⟩ (.int .i64 (last + 1))) g n ((k : Int) + 1) m H P (last + 1) by
    have := Blk.set h 19 (.int .i64 (last + 1))
    rw [rset_last hk.h.len hk.p.len] at this
    exact this)
  have T1 := Lib.hid (show Touch [g] w (w.setCell ⟨g, 19, none⟩ (.int .i64 (last + 1))) from (Touch.refl [g] w).cell (List.mem_singleton.2 rfl) _ _)
  have HK := Lib.hid hk
  clear h hk hlt
  go_enter Try.func16, Try.ntmps16
  go_wp2_with fail
  clear c17 f17
  generalize w.setCell ⟨g, 19, none⟩ (.int .i64 (last + 1)) = w1 at *
  have c1 := Blk.cell S1.out rcs_me
  have c17 := Blk.cell S1.out (rcs_last HK.out.h.len HK.out.p.len)
  have c3 := Blk.cell S1.out (rcs_p HK.out.h.len HK.out.p.len hk7)
  have f3 := Blk.free S1.out (12 + k)
  rw [show 12 + k = 11 + (k + 1) by omega] at c3
  rw [show 12 + k = 11 + (k + 1) by omega] at f3
  go_wp2_with fail
  go_big_region
  have S2 := Lib.hid (show Rq (w1.setCell ⟨g, 11 + (k + 1), none⟩ (.int .i64 (last + 1))).drew g n ((k : Int) + 1) m H (P.set k (last + 1)) (last + 1) by
    have := Blk.set S1.out (12 + k) (.int .i64 (last + 1))
    rw [rset_p HK.out.h.len HK.out.p.len hk7] at this
    rw [show 11 + (k + 1) = 12 + k by omega]
    exact this)
  have T2 := Lib.hid (show Touch [g] w (w1.setCell ⟨g, 11 + (k + 1), none⟩ (.int .i64 (last + 1))).drew from (T1.out.cell (List.mem_singleton.2 rfl) _ _).drew)
  clear c1 c17 c3 f3
  generalize (w1.setCell ⟨g, 11 + (k + 1), none⟩ (.int .i64 (last + 1))).drew = w2 at *
  have HL := Lib.hid (show (P.set k (last + 1)).length = 7 by rw [List.length_set]; exact HK.out.p.len)
  have c5 := Blk.cell S2.out (rcs_last HK.out.h.len HL.out)
  go_wp2_with fail
  go_ret
  exact ⟨rfl, S2.out, T2.out⟩
end
end Go.Proofs.Ytdgpjolohghboaa
