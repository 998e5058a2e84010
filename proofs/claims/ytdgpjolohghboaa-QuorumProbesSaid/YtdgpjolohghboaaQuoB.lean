/- Contracts of package quorum: New, Ack, Have, Last, Next, Commit, Probe. -/
import Derived.Test.YtdgpjolohghboaaQuoA
import Derived.Test.YtdgpjolohghboaaTeamA
import Derived.Lib.MinMax
import Derived.BigRegion
import Derived.Deep.RegionWith
import Derived.Tactics2
import Derived.Test.YtdgpjolohghboaaHeld
namespace Go.Proofs.Ytdgpjolohghboaa
open Go.RowKit PQuo

theorem qnew_no (w : World) (n t me : Int) (h1 : -9223372036854775808 ≤ t) (h2 : t ≤ 9223372036854775807) (hno : (PTeam.most t n && PTeam.has t.toNat me) = false) :
    Calls Try.prog 10 #[.int .i64 n, .int .i64 t, .int .i64 me] w fun e w' => e = .returned (.pointer none) ∧ w = w' := by
  cases hm : PTeam.most t n
  · have HM := Lib.hid hm
    clear hm hno
    go_enter Try.func10, Try.ntmps10
    go_wp2_with fail
    refine (tMost_c w t n h1 h2).mono ?_
    rw [HM.out]
    rintro e w' ⟨rfl, rfl⟩
    go_wp2_with fail
    go_ret
    exact ⟨rfl, rfl⟩
  · have h0 : 0 ≤ t := by
      unfold PTeam.most PTeam.may at hm
      simp only [Bool.and_eq_true, decide_eq_true_eq] at hm
      exact hm.1.2.1
    obtain ⟨m, rfl⟩ := Int.eq_ofNat_of_zero_le h0
    obtain ⟨h3, h7, hlt, _⟩ := most_in hm
    rw [hm, Bool.true_and, Int.toNat_natCast] at hno
    have HM := Lib.hid hm
    have HH := Lib.hid hno
    clear hm h3 h7 hno
    go_enter Try.func10, Try.ntmps10
    go_wp2_with fail
    refine (tMost_c w m n h1 h2).mono ?_
    rw [HM.out]
    rintro e w' ⟨rfl, rfl⟩
    go_wp2_with fail
    refine (tHas_c w m me hlt).mono ?_
    rw [HH.out]
    rintro e w' ⟨rfl, rfl⟩
    go_wp2_with fail
    go_ret
    exact ⟨rfl, rfl⟩
theorem qnew_yes (w : World) (n me : Int) (m : Nat) (hm : PTeam.most m n = true) (hh : PTeam.has m me = true) :
    Calls Try.prog 10 #[.int .i64 n, .int .i64 m, .int .i64 me] w fun e w' => e = .returned (.pointer (some ⟨w.heap.size, 0, none⟩)) ∧ Qs w' w.heap.size n me m none7 none7 0 ∧ Qk n me m none7 none7 0 ∧ Below w.heap.size w w' := by
  obtain ⟨h3, h7, hlt, _⟩ := most_in hm
  have HM := Lib.hid hm
  have HH := Lib.hid hh
  clear hm h3 h7 hh
  go_enter Try.func10, Try.ntmps10
  go_wp2_with fail
  refine (tMost_c w m n (by omega) (by omega)).mono ?_
  rw [HM.out]
  rintro e w' ⟨rfl, rfl⟩
  go_wp2_with fail
  refine (tHas_c w m me hlt).mono ?_
  rw [HH.out]
  rintro e w' ⟨rfl, rfl⟩
  go_wp2_with fail
  go_ret
  exact ⟨rfl, Blk.new w _ _, ⟨HM.out, HH.out, ok_none m (by omega), ok_none m (Int.le_refl _), Int.le_refl _, by omega⟩, (Below.refl _ _).alloc (Nat.le_refl _) _⟩

theorem qack_nil (w : World) (id have_ probe : Int) : Calls Try.prog 13 #[.pointer none, .int .i64 id, .int .i64 have_, .int .i64 probe] w fun e w' => e = .returned (.bool false) ∧ w = w' := by
  go_enter Try.func13, Try.ntmps13
  go_wp2_with fail
  go_ret
  exact ⟨rfl, rfl⟩
theorem qhave_nil (w : World) (id : Int) : Calls Try.prog 22 #[.pointer none, .int .i64 id] w fun e w' => e = .returned (.int .i64 0) ∧ w = w' := by
  go_enter Try.func22, Try.ntmps22
  go_wp2_with fail
  go_ret
  exact ⟨rfl, rfl⟩
theorem qcommit_nil (w : World) : Calls Try.prog 17 #[.pointer none] w fun e w' => e = .returned (.int .i64 0) ∧ w = w' := by
  go_enter Try.func17, Try.ntmps17
  go_wp2_with fail
  go_ret
  exact ⟨rfl, rfl⟩
theorem qprobe_nil (w : World) : Calls Try.prog 19 #[.pointer none] w fun e w' => e = .returned (.int .i64 0) ∧ w = w' := by
  go_enter Try.func19, Try.ntmps19
  go_wp2_with fail
  go_ret
  exact ⟨rfl, rfl⟩
theorem qnext_nil (w : World) : Calls Try.prog 15 #[.pointer none] w fun e w' => e = .returned (.int .i64 0) ∧ w = w' := by
  go_enter Try.func15, Try.ntmps15
  go_wp2_with fail
  go_ret
  exact ⟨rfl, rfl⟩
theorem qlast_nil (w : World) : Calls Try.prog 21 #[.pointer none] w fun e w' => e = .returned (.int .i64 0) ∧ w = w' := by
  go_enter Try.func21, Try.ntmps21
  go_wp2_with fail
  go_ret
  exact ⟨rfl, rfl⟩

section
variable (w : World) (g : Nat) (n me : Int) (m : Nat) (H P : List Int) (last : Int)
theorem qlast_c (h : Qs w g n me m H P last) (hk : Qk n me m H P last) : Calls Try.prog 21 #[.pointer (some ⟨g, 0, none⟩)] w fun e w' => e = .returned (.int .i64 last) ∧ w = w' := by
  have c := Blk.cell h (qcs_last hk.h.len hk.p.len)
  clear h hk
  go_enter Try.func21, Try.ntmps21
  go_wp2_with fail
  go_ret
  exact ⟨rfl, rfl⟩
theorem qhave_out (h : Qs w g n me m H P last) (hk : Qk n me m H P last) (id : Int) (hid : PTeam.has m id = false) : Calls Try.prog 22 #[.pointer (some ⟨g, 0, none⟩), .int .i64 id] w fun e w' => e = .returned (.int .i64 0) ∧ w = w' := by
  have c2 := Blk.cell h qcs_m
  have hlt := hk.n.2.2
  have HH := Lib.hid hid
  clear h hk hid
  go_enter Try.func22, Try.ntmps22
  go_wp2_with fail
  refine (tHas_c w m id hlt).mono ?_
  rw [HH.out]
  rintro e w' ⟨rfl, rfl⟩
  go_wp2_with fail
  go_ret
  exact ⟨rfl, rfl⟩
theorem qhave_in (h : Qs w g n me m H P last) (hk : Qk n me m H P last) (id : Int) (hid : PTeam.has m id = true) : Calls Try.prog 22 #[.pointer (some ⟨g, 0, none⟩), .int .i64 id] w fun e w' => e = .returned (.int .i64 (H.getD (pl id) 0)) ∧ w = w' := by
  obtain ⟨a, b, hk7, hpl⟩ := pl_in hk.n.2.2 hid
  generalize pl id = k at *
  subst hpl
  have c2 := Blk.cell h qcs_m
  have c3 := Blk.cell h (qcs_h hk.h.len hk7)
  have hlt := hk.n.2.2
  have HH := Lib.hid hid
  clear h hk hid a b
  generalize H.getD k 0 = x at *
  go_enter Try.func22, Try.ntmps22
  go_wp2_with fail
  refine (tHas_c w m _ hlt).mono ?_
  rw [HH.out]
  rintro e w' ⟨rfl, rfl⟩
  go_wp2_with fail
  go_ret
  exact ⟨rfl, rfl⟩
theorem qack_no (h : Qs w g n me m H P last) (hk : Qk n me m H P last) (id x probe : Int) (hno : (PTeam.has m id && decide (0 ≤ x ∧ x ≤ 60)) = false) :
    Calls Try.prog 13 #[.pointer (some ⟨g, 0, none⟩), .int .i64 id, .int .i64 x, .int .i64 probe] w fun e w' => e = .returned (.bool false) ∧ w = w' := by
  have c2 := Blk.cell h qcs_m
  have hlt := hk.n.2.2
  clear h hk
  cases hh : PTeam.has m id
  · have HH := Lib.hid hh
    clear hh hno
    go_enter Try.func13, Try.ntmps13
    go_wp2_with fail
    refine (tHas_c w m id hlt).mono ?_
    rw [HH.out]
    rintro e w' ⟨rfl, rfl⟩
    go_wp2_with fail
    go_ret
    exact ⟨rfl, rfl⟩
  · rw [hh, Bool.true_and] at hno
    have hx := of_decide_eq_false hno
    have HH := Lib.hid hh
    clear hh hno
    by_cases hx0 : x < 0
    · clear hx
      go_enter Try.func13, Try.ntmps13
      go_wp2_with fail
      refine (tHas_c w m id hlt).mono ?_
      rw [HH.out]
      rintro e w' ⟨rfl, rfl⟩
      go_wp2_with fail
      go_ret
      exact ⟨rfl, rfl⟩
    · have hx6 : 60 < x := by omega
      clear hx
      go_enter Try.func13, Try.ntmps13
      go_wp2_with fail
      refine (tHas_c w m id hlt).mono ?_
      rw [HH.out]
      rintro e w' ⟨rfl, rfl⟩
      go_wp2_with fail
      go_ret
      exact ⟨rfl, rfl⟩
theorem qack_yes (h : Qs w g n me m H P last) (hk : Qk n me m H P last) (id x probe : Int) (hid : PTeam.has m id = true) (hx0 : 0 ≤ x) (hx6 : x ≤ 60) :
    Calls Try.prog 13 #[.pointer (some ⟨g, 0, none⟩), .int .i64 id, .int .i64 x, .int .i64 probe] w fun e w' => e = .returned (.bool true) ∧ Qs w' g n me m (upd H id x) (if probe ≤ last then upd P id probe else P) last ∧ Touch [g] w w' := by
  unfold upd
  obtain ⟨a, b, hk7, hpl⟩ := pl_in hk.n.2.2 hid
  generalize pl id = k at *
  subst hpl
  have c2 := Blk.cell h qcs_m
  have c3 := Blk.cell h (qcs_h hk.h.len hk7)
  have f3 := Blk.free h (3 + k)
  have hlt := hk.n.2.2
  have HH := Lib.hid hid
  have HS := Lib.hid h
  have HK := Lib.hid hk
  clear h hk hid a b
  obtain ⟨v, hv⟩ : ∃ v, H.getD k 0 = v := ⟨_, rfl⟩
  rw [hv] at c3 ⊢
  have HV := Lib.hid hv
  clear hv
  obtain ⟨u, hu⟩ : ∃ u, P.getD k 0 = u := ⟨_, rfl⟩
  rw [hu]
  have HU := Lib.hid hu
  clear hu
  go_enter Try.func13, Try.ntmps13
  go_wp2_with fail
  refine (tHas_c w m _ hlt).mono ?_
  rw [HH.out]
  rintro e w' ⟨rfl, rfl⟩
  go_wp2_with fail
  go_big_region
  have S1 := Lib.hid (show Qs (w.setCell ⟨g, 3 + k, none⟩ (.int .i64 (max v x))).drew g n me m (H.set k (max v x)) P last by
    have := Blk.set HS.out (3 + k) (.int .i64 (max v x))
    rw [qset_h HK.out.h.len hk7] at this
    exact this)
  have T1 := Lib.hid (show Touch [g] w (w.setCell ⟨g, 3 + k, none⟩ (.int .i64 (max v x))).drew from ((Touch.refl [g] w).cell (List.mem_singleton.2 rfl) _ _).drew)
  have hl : (H.set k (max v x)).length = 7 := by rw [List.length_set]; exact HK.out.h.len
  clear c2 c3 f3
  generalize (w.setCell ⟨g, 3 + k, none⟩ (.int .i64 (max v x))).drew = w1 at *
  have c2 := Blk.cell S1.out (qcs_last hl HK.out.p.len)
  have c3 := Blk.cell S1.out (qcs_p hl HK.out.p.len hk7)
  have f3 := Blk.free S1.out (10 + k)
  rw [HU.out] at c3
  have HL := Lib.hid hl
  clear hl
  by_cases hp : probe ≤ last
  · go_wp2_with fail
    go_big_region
    go_wp2_with fail
    go_ret
    refine ⟨rfl, ?_, (T1.out.cell (List.mem_singleton.2 rfl) _ _).drew⟩
    have := Blk.set S1.out (10 + k) (.int .i64 (max u probe))
    rw [qset_p HL.out HK.out.p.len hk7] at this
    exact this
  · go_wp2_with fail
    go_ret
    exact ⟨rfl, S1.out, T1.out⟩
theorem qnext_c (h : Qs w g n me m H P last) (hk : Qk n me m H P last) (hb : last < 100) :
    Calls Try.prog 15 #[.pointer (some ⟨g, 0, none⟩)] w fun e w' => e = .returned (.int .i64 (last + 1)) ∧ Qs w' g n me m H (P.set (pl me) (last + 1)) (last + 1) ∧ Touch [g] w w' := by
  have c17 := Blk.cell h (qcs_last hk.h.len hk.p.len)
  have f17 := Blk.free h 17
  have hl0 := hk.l0
  have hl1 := hk.l1
  have S1 := Lib.hid (show Qs (w.setCell ⟨g, 17, none⟩ (.int .i64 (last + 1))) g n me m H P (last + 1) by
    have := Blk.set h 17 (.int .i64 (last + 1))
    rw [qset_last hk.h.len hk.p.len] at this
    exact this)
  have T1 := Lib.hid (show Touch [g] w (w.setCell ⟨g, 17, none⟩ (.int .i64 (last + 1))) from (Touch.refl [g] w).cell (List.mem_singleton.2 rfl) _ _)
  obtain ⟨_, _, hlt⟩ := hk.n
  obtain ⟨_, _, hk7, hpl⟩ := pl_in hlt hk.me
  have K1 := Lib.hid (show Qk n me m H P (last + 1) from ⟨hk.most, hk.me, hk.h, ok_more hk.p (by omega), by omega, by omega⟩)
  have HU := Lib.hid (show upd H me 0 = H from upd_same hlt hk.h hk.me (hk.h.lo _ hk7))
  have HV := Lib.hid (show upd P me (last + 1) = P.set (pl me) (last + 1) by unfold upd; rw [Int.max_eq_right (show P.getD (pl me) 0 ≤ last + 1 by have := hk.p.hi _ hk7; omega)])
  have HS := Lib.hid h
  have HK := Lib.hid hk
  clear h hk hk7 hpl hlt
  go_enter Try.func15, Try.ntmps15
  go_wp2_with fail
  clear c17 f17
  generalize w.setCell ⟨g, 17, none⟩ (.int .i64 (last + 1)) = w1 at *
  have c1 := Blk.cell S1.out qcs_me
  have c17 := Blk.cell S1.out (qcs_last HK.out.h.len HK.out.p.len)
  go_region_with (go_at_call 13; refine (qack_yes _ g n me m H P (last + 1) (Qs.past S1.out ?_) K1.out me 0 (last + 1) ?_ (by omega) (by omega)).mono ?_; exact ⟨rfl, rfl, rfl, Nat.le_refl _, fun _ _ => rfl⟩; exact K1.out.me; rintro e w2 ⟨rfl, s2, t2⟩)
  all_goals
    rw [if_pos (Int.le_refl _), HU.out, HV.out] at s2
    have S2 := Lib.hid s2
    have T2 := Lib.hid (show Touch [g] w w2 from T1.out.trans ⟨t2.os, t2.tape, t2.output, t2.size, t2.block⟩)
    have HL := Lib.hid (show (P.set (pl me) (last + 1)).length = 7 by rw [List.length_set]; exact HK.out.p.len)
    have c5 := Blk.cell S2.out (qcs_last HK.out.h.len HL.out)
    clear s2 t2 c1 c17
    go_wp2_with fail
    go_ret
    exact ⟨rfl, S2.out, T2.out⟩

theorem range_h {w : World} {g : Nat} {n me : Int} {m : Nat} {H P : List Int} {last : Int} (h : Qs w g n me m H P last) (hl : H.length = 7) : w.rangeAt g 3 (is H) := fun j v hv => by
  have hj : j < 7 := by have := (List.getElem?_eq_some_iff.1 hv).1; rw [is_length] at this; omega
  rw [Blk.cell h (qcs_h hl hj), ← hv, is_get H (by omega)]
theorem range_p {w : World} {g : Nat} {n me : Int} {m : Nat} {H P : List Int} {last : Int} (h : Qs w g n me m H P last) (hl : H.length = 7) (pl : P.length = 7) : w.rangeAt g 10 (is P) := fun j v hv => by
  have hj : j < 7 := by have := (List.getElem?_eq_some_iff.1 hv).1; rw [is_length] at this; omega
  rw [Blk.cell h (qcs_p hl pl hj), ← hv, is_get P (by omega)]
theorem run_loadI7 {w : World} {dst : Option Tmp} {x : Operand} {ty : TypeId} {pos : String} {after : Array Edge} {guard : Option (Nat × Bool)} {ρ : Operand → Value} {b o : Nat} {l : List Int}
    (hr : w.rangeAt b o (is l)) (hx : ρ x = .pointer (some ⟨b, o, none⟩)) (hl : l.length = 7) :
    (execOp ρ { dst, op := .load 49 x, type := ty, pos, after, guard }).run Try.prog w = .ok (.value (.agg (is l).toArray)) w := by
  have := run_loadAt_mid (P := Try.prog) w b o 49 (is l) _ hr Try.underlying49 rfl (by rw [is_length, hl]; kernel_rfl)
  unfold execOp
  simp only [hx, Sem.run_bind, this, Result.andThen_ok, Sem.run_pure]
theorem run_loadL7 {w : World} {dst : Option Tmp} {x : Operand} {ty : TypeId} {pos : String} {after : Array Edge} {guard : Option (Nat × Bool)} {ρ : Operand → Value} {b o : Nat} {l : List Int}
    (hr : w.rangeAt b o (is l)) (hx : ρ x = .pointer (some ⟨b, o, none⟩)) (hl : l.length = 7) :
    (execOp ρ { dst, op := .load 50 x, type := ty, pos, after, guard }).run Try.prog w = .ok (.value (.agg (is l).toArray)) w := by
  have := run_loadAt_mid (P := Try.prog) w b o 50 (is l) _ hr Try.underlying50 rfl (by rw [is_length, hl]; kernel_rfl)
  unfold execOp
  simp only [hx, Sem.run_bind, this, Result.andThen_ok, Sem.run_pure]
theorem qcommit_c (h : Qs w g n me m H P last) (hk : Qk n me m H P last) :
    Calls Try.prog 17 #[.pointer (some ⟨g, 0, none⟩)] w fun e w' => ∃ r, e = .returned (.int .i64 r) ∧ IsR H n r ∧ Below w.heap.size w w' := by
  have HS := Lib.hid h
  have HK := Lib.hid hk
  clear h hk
  go_enter Try.func17, Try.ntmps17
  go_wp2_with fail
-- REGION (*curfew/quorum.Quorum).Commit 3 qcommit3 2
  refine Hb.begin ?_
  refine Hb.take (v := .pointer (some ⟨g, 0, none⟩)) 0 5 rfl ?_ (fun _ _ => rfl)
  refine Hb.take (v := .pointer (some ⟨g, 0, none⟩)) 1 6 rfl ?_ (fun w' hw' => by go_simp; first | done | rfl | omega | exact wrap_in (by omega) (by omega) | exact Int.tmod_eq_emod_of_nonneg (by omega) | exact Int.tdiv_eq_ediv_of_nonneg (by omega) | (simp; omega))
  refine Hb.take (v := .pointer (some ⟨g, 3, none⟩)) 2 7 rfl ?_ (fun w' hw' => by go_simp; first | done | rfl | omega | exact wrap_in (by omega) (by omega) | exact Int.tmod_eq_emod_of_nonneg (by omega) | exact Int.tdiv_eq_ediv_of_nonneg (by omega) | (simp; omega))
  refine Hb.take (v := .agg (is H).toArray) 3 8 rfl ?_ (fun w' hw' => by exact run_loadI7 (range_h ((show Qs w.drew g n me m H P last from HS.out).past hw') HK.out.h.len) rfl HK.out.h.len)
  refine Hb.take (v := .pointer (some ⟨g, 0, none⟩)) 4 9 rfl ?_ (fun _ _ => rfl)
  refine Hb.take (v := .pointer (some ⟨g, 0, none⟩)) 5 10 rfl ?_ (fun w' hw' => by go_simp; first | done | rfl | omega | exact wrap_in (by omega) (by omega) | exact Int.tmod_eq_emod_of_nonneg (by omega) | exact Int.tdiv_eq_ediv_of_nonneg (by omega) | (simp; omega))
  refine Hb.take (v := .pointer (some ⟨g, 0, none⟩)) 6 11 rfl ?_ (fun w' hw' => by go_simp; first | done | rfl | omega | exact wrap_in (by omega) (by omega) | exact Int.tmod_eq_emod_of_nonneg (by omega) | exact Int.tdiv_eq_ediv_of_nonneg (by omega) | (simp; omega))
  refine Hb.take (v := .int .i64 n) 7 12 rfl ?_ (fun w' hw' => by have cc := Blk.cell ((show Qs w.drew g n me m H P last from HS.out).past hw') qcs_n; go_simp)
  refine Hb.call (f := 28) (args := #[.agg (is H).toArray, .int .i64 n]) 8 13 rfl ?_ (run_callf Try.func28 (by kernel_rfl) (by kernel_rfl) (by simp only [List.map_toArray, List.map_cons, List.map_nil]; rfl))
  refine (reachI_c _ H n HK.out.h.len HK.out.n.1 HK.out.n.2.1).mono ?_
  rintro x w2 ⟨r, rfl, hr, b2⟩
  have HR := Lib.hid hr
  have B2 := Lib.hid ((Below.refl w.heap.size w).drew.trans b2)
  refine Hb.back b2 (Nat.le_refl _) ?_
  refine Hb.take (v := .int .i64 r) 9 2 rfl ?_ (fun _ _ => rfl)
  refine Hb.done ?_
-- END
  go_wp2_with fail
  go_ret
  exact ⟨r, rfl, HR.out, B2.out⟩
theorem qprobe_c (h : Qs w g n me m H P last) (hk : Qk n me m H P last) :
    Calls Try.prog 19 #[.pointer (some ⟨g, 0, none⟩)] w fun e w' => ∃ r, e = .returned (.int .i64 r) ∧ IsR P n r ∧ Below w.heap.size w w' := by
  have HS := Lib.hid h
  have HK := Lib.hid hk
  clear h hk
  go_enter Try.func19, Try.ntmps19
  go_wp2_with fail
-- REGION (*curfew/quorum.Quorum).Probe 3 qprobe3 2
  refine Hb.begin ?_
  refine Hb.take (v := .pointer (some ⟨g, 0, none⟩)) 0 5 rfl ?_ (fun _ _ => rfl)
  refine Hb.take (v := .pointer (some ⟨g, 0, none⟩)) 1 6 rfl ?_ (fun w' hw' => by go_simp; first | done | rfl | omega | exact wrap_in (by omega) (by omega) | exact Int.tmod_eq_emod_of_nonneg (by omega) | exact Int.tdiv_eq_ediv_of_nonneg (by omega) | (simp; omega))
  refine Hb.take (v := .pointer (some ⟨g, 10, none⟩)) 2 7 rfl ?_ (fun w' hw' => by go_simp; first | done | rfl | omega | exact wrap_in (by omega) (by omega) | exact Int.tmod_eq_emod_of_nonneg (by omega) | exact Int.tdiv_eq_ediv_of_nonneg (by omega) | (simp; omega))
  refine Hb.take (v := .agg (is P).toArray) 3 8 rfl ?_ (fun w' hw' => by exact run_loadL7 (range_p ((show Qs w.drew g n me m H P last from HS.out).past hw') HK.out.h.len HK.out.p.len) rfl HK.out.p.len)
  refine Hb.take (v := .pointer (some ⟨g, 0, none⟩)) 4 9 rfl ?_ (fun _ _ => rfl)
  refine Hb.take (v := .pointer (some ⟨g, 0, none⟩)) 5 10 rfl ?_ (fun w' hw' => by go_simp; first | done | rfl | omega | exact wrap_in (by omega) (by omega) | exact Int.tmod_eq_emod_of_nonneg (by omega) | exact Int.tdiv_eq_ediv_of_nonneg (by omega) | (simp; omega))
  refine Hb.take (v := .pointer (some ⟨g, 0, none⟩)) 6 11 rfl ?_ (fun w' hw' => by go_simp; first | done | rfl | omega | exact wrap_in (by omega) (by omega) | exact Int.tmod_eq_emod_of_nonneg (by omega) | exact Int.tdiv_eq_ediv_of_nonneg (by omega) | (simp; omega))
  refine Hb.take (v := .int .i64 n) 7 12 rfl ?_ (fun w' hw' => by have cc := Blk.cell ((show Qs w.drew g n me m H P last from HS.out).past hw') qcs_n; go_simp)
  refine Hb.call (f := 29) (args := #[.agg (is P).toArray, .int .i64 n]) 8 13 rfl ?_ (run_callf Try.func29 (by kernel_rfl) (by kernel_rfl) (by simp only [List.map_toArray, List.map_cons, List.map_nil]; rfl))
  refine (reachL_c _ P n HK.out.p.len HK.out.n.1 HK.out.n.2.1).mono ?_
  rintro x w2 ⟨r, rfl, hr, b2⟩
  have HR := Lib.hid hr
  have B2 := Lib.hid ((Below.refl w.heap.size w).drew.trans b2)
  refine Hb.back b2 (Nat.le_refl _) ?_
  refine Hb.take (v := .int .i64 r) 9 2 rfl ?_ (fun _ _ => rfl)
  refine Hb.done ?_
-- END
  go_wp2_with fail
  go_ret
  exact ⟨r, rfl, HR.out, B2.out⟩
end
end Go.Proofs.Ytdgpjolohghboaa
