/- The walk of QuorumAll. Made by gen21f.py. -/
import Derived.Test.YtdgpjolohghboaaQuoL
import Derived.Test.YtdgpjolohghboaaQuoS
import Derived.Test.YtdgpjolohghboaaHeldT
import Derived.Test.YtdgpjolohghboaaFlat
import Derived.WalkSmall
namespace Go.Proofs.Ytdgpjolohghboaa
open Go.RowKit PQuo

theorem rq_ack (w : World) (g : Nat) (n me : Int) (m : Nat) (H P : List Int) (last : Int) (h : Rq w g n me m H P last) (hk : Qk n me m H P last) (id x p : Int) :
    Calls Try.prog 14 #[.pointer (some ⟨g, 0, none⟩), .int .i64 id, .int .i64 x, .int .i64 p] w fun e w' => e = .returned (.bool (okA m id x)) ∧ Rq w' g n me m (aH m H id x) (aP m P last id x p) last ∧ Touch [g] w w' := by
  unfold aH aP
  cases ho : okA m id x
  · refine (rqack_no w g n me m H P last h hk id x p ho).mono ?_
    rintro e w' ⟨rfl, b⟩
    exact ⟨rfl, h.past b, .of_below b⟩
  · obtain ⟨h1, h2, h3⟩ := okA_parts ho
    exact rqack_yes w g n me m H P last h hk id x p h1 h2 h3
theorem qhave_any (w : World) (g : Nat) (n me : Int) (m : Nat) (H P : List Int) (last : Int) (h : Qs w g n me m H P last) (hk : Qk n me m H P last) {k : Nat} (hk7 : k < 7) :
    Calls Try.prog 22 #[.pointer (some ⟨g, 0, none⟩), .int .i64 ((k : Int) + 1)] w fun e w' => e = .returned (.int .i64 (H.getD k 0)) ∧ w = w' := by
  cases hh : PTeam.has m ((k : Int) + 1)
  · rw [hk.h.out k hk7 hh]
    exact qhave_out w g n me m H P last h hk _ hh
  · have := qhave_in w g n me m H P last h hk _ hh
    rw [show pl ((k : Int) + 1) = k by unfold pl; omega] at this
    exact this
/-- The quorum at g and the document's own at g2 hold the same. -/
structure Bq (w0 w : World) (g g2 : Nat) (n x : Int) (m : Nat) (H P : List Int) (last : Int) : Prop where
  s : Sq w0 w g n x m H P last
  r : Rq w g2 n x m H P last
  lo : w0.heap.size ≤ g2
section
variable {w0 w w' w'' : World} {g g2 : Nat} {n x : Int} {m : Nat} {H P H' P' : List Int} {last last' : Int}
theorem Bq.past (h : Bq w0 w g g2 n x m H P last) (b : Below w.heap.size w w') : Bq w0 w' g g2 n x m H P last := ⟨h.s.past b, h.r.past b, h.lo⟩
theorem Bq.drew (h : Bq w0 w g g2 n x m H P last) : Bq w0 w.drew g g2 n x m H P last := h.past (Below.refl _ _).drew
theorem Bq.ne (h : Bq w0 w g g2 n x m H P last) : g ≠ g2 := Blk.ne h.s.q h.r (by decide)
theorem Bq.mid (h : Bq w0 w g g2 n x m H P last) (t : Touch [g] w w') : Rq w' g2 n x m H P last := h.r.touch t (by simpa using h.ne.symm)
theorem Bq.both (h : Bq w0 w g g2 n x m H P last) (s : Sq w0 w' g n x m H' P' last') (_ : Touch [g] w w') (r : Rq w'' g2 n x m H' P' last') (t' : Touch [g2] w' w'') : Bq w0 w'' g g2 n x m H' P' last' :=
  ⟨s.far t' (by simpa using h.lo) (by simpa using h.ne), r, h.lo⟩
end
set_option maxHeartbeats 8000000 in
set_option maxRecDepth 100000 in
theorem QuorumAll_none (w : World) (n members me : Int) (A : Option Addr) (len c : Nat) (h1 : -9223372036854775808 ≤ members) (h2 : members ≤ 9223372036854775807) (h : PTeam.most members n = false) :
    Calls Try.prog 3 #[.int .i64 n, .int .i64 members, .int .i64 me, .slice A len c] w fun e w' => e = .returned (.bool true) ∧ Below w.heap.size w w' := by
  have HM := Lib.hid h
  clear h
  go_enter Try.func3, Try.ntmps3
  go_wp2_with fail
  refine (begunQ_c w).mono ?_
  rintro e w1 ⟨rfl, b1⟩
  have B1 := Lib.hid b1
  clear b1
  go_wp2_with fail
  refine (qnew_no w1 n members me h1 h2 (by rw [HM.out]; rfl)).mono ?_
  rintro e w2 ⟨rfl, rfl⟩
  go_wp2_with fail
  refine (rtMost_c w1 members n).mono ?_
  rw [HM.out]
  rintro e w2 ⟨rfl, b2⟩
  have B2 := Lib.hid (B1.out.trans (b2.mono B1.out.size))
  clear b2
  go_wp2_with fail
  go_ret
  exact ⟨rfl, B2.out⟩
set_option maxHeartbeats 8000000 in
set_option maxRecDepth 100000 in
theorem QuorumAll_out (w : World) (n me : Int) (m : Nat) (A : Option Addr) (len c : Nat) (h : PTeam.most m n = true) (hh : PTeam.has m me = false) :
    Calls Try.prog 3 #[.int .i64 n, .int .i64 (m : Int), .int .i64 me, .slice A len c] w fun e w' => e = .returned (.bool true) ∧ Below w.heap.size w w' := by
  have hlt := (most_in h).2.2.1
  have HM := Lib.hid h
  have HH := Lib.hid hh
  clear h hh
  go_enter Try.func3, Try.ntmps3
  go_wp2_with fail
  refine (begunQ_c w).mono ?_
  rintro e w1 ⟨rfl, b1⟩
  have B1 := Lib.hid b1
  clear b1
  go_wp2_with fail
  refine (qnew_no w1 n m me (by omega) (by omega) (by rw [HM.out, Int.toNat_natCast, HH.out]; rfl)).mono ?_
  rintro e w2 ⟨rfl, rfl⟩
  go_wp2_with fail
  refine (rtMost_c w1 m n).mono ?_
  rw [HM.out]
  rintro e w2 ⟨rfl, b2⟩
  have B2 := Lib.hid (B1.out.trans (b2.mono B1.out.size))
  clear b2
  go_wp2_with fail
  refine (rtHas_c w2 m me hlt).mono ?_
  rw [HH.out]
  rintro e w3 ⟨rfl, b3⟩
  have B3 := Lib.hid (B2.out.trans (b3.mono B2.out.size))
  clear b3
  go_wp2_with fail
  go_ret
  exact ⟨rfl, B3.out⟩
set_option maxHeartbeats 8000000 in
set_option maxRecDepth 100000 in
theorem QuorumAll_ok (w : World) (n x : Int) (m : Nat) (A : Option Addr) (len c : Nat) (xs : List Value) (h0 : Rd w w.heap.size A c 4 len xs) (hI : AllI xs) (h : PTeam.most m n = true) (hh : PTeam.has m x = true) :
    Calls Try.prog 3 #[.int .i64 n, .int .i64 (m : Int), .int .i64 x, .slice A len c] w fun e w' => e = .returned (.bool true) ∧ Below w.heap.size w w' := by
  have hlt := (most_in h).2.2.1
  have HR := Lib.hid h0
  have HI := Lib.hid hI
  have HM := Lib.hid h
  have HH := Lib.hid hh
  clear h hh h0 hI
  go_enter Try.func3, Try.ntmps3
  go_wp2_with fail
  refine (begunQ_c w).mono ?_
  rintro e w1 ⟨rfl, b1⟩
  have B1 := Lib.hid b1
  clear b1
  go_wp2_with fail
  refine (qnew_yes w1 n x m HM.out HH.out).mono ?_
  rintro e w2 ⟨rfl, q2, k2, b2⟩
  have S2 := Lib.hid (Sq.new B1.out q2 k2 b2)
  clear q2 k2 b2 B1
  generalize w1.heap.size = g at *
  go_wp2_with fail
  refine (rtMost_c w2 m n).mono ?_
  rw [HM.out]
  rintro e w3 ⟨rfl, b3⟩
  have S3 := Lib.hid (S2.out.past b3)
  clear b3 S2
  go_wp2_with fail
  refine (rtHas_c w3 m x hlt).mono ?_
  rw [HH.out]
  rintro e w4 ⟨rfl, b4⟩
  have S4 := Lib.hid (S3.out.past b4)
  clear b4 S3
  have HS0 := Lib.hid (show Bq w (w4.alloc (.cells #[.int .i64 n, .int .i64 (m : Int), .int .i64 x, .int .i64 0, .int .i64 0, .int .i64 0, .int .i64 0, .int .i64 0, .int .i64 0, .int .i64 0, .int .i64 0, .int .i64 0, .int .i64 0, .int .i64 0, .int .i64 0, .int .i64 0, .int .i64 0, .int .i64 0, .int .i64 0, .int .i64 0] 32)) g w4.heap.size n x m none7 none7 0 from
    ⟨S4.out.alloc _, Blk.new w4 _ _, S4.out.bel.size⟩)
  go_wp2_with fail
  generalize w4.heap.size = g2 at *
  generalize w4.alloc (.cells #[.int .i64 n, .int .i64 (m : Int), .int .i64 x, .int .i64 0, .int .i64 0, .int .i64 0, .int .i64 0, .int .i64 0, .int .i64 0, .int .i64 0, .int .i64 0, .int .i64 0, .int .i64 0, .int .i64 0, .int .i64 0, .int .i64 0, .int .i64 0, .int .i64 0, .int .i64 0, .int .i64 0] 32) = w5 at *
  clear S4
  go_loopw [12] (fun s12 wr => ∃ (i : Nat) (H P : List Int) (last : Int), i ≤ len ∧ i ≤ 60 ∧ last ≤ (i : Int) ∧ s12 = .int .i64 i ∧ Hid (Bq w wr g g2 n x m H P last)) (fun s12 _ => len - (intOf s12).toNat)
  case atStart => exact ⟨0, none7, none7, 0, by omega, by omega, Int.le_refl _, rfl, HS0⟩
  case round =>
    clear HS0
    obtain ⟨i, H, P, last, hin, hi60, hlast, rfl, HS⟩ := hrel
    by_cases h1 : i < len
    · by_cases h2 : i < 60
      · obtain ⟨bo, oo, rfl, -, hc⟩ := (HR.out.below HS.out.s.bel).flatI HI.out h1 (by omega)
        obtain ⟨kd, o0⟩ := hc 0 (by omega)
        obtain ⟨id, o1⟩ := hc 1 (by omega)
        obtain ⟨hv, o2⟩ := hc 2 (by omega)
        obtain ⟨pr, o3⟩ := hc 3 (by omega)
        rw [Nat.add_zero] at o0
        clear hc
        have KO := Lib.hid (Blk.new wr #[.int .i64 kd, .int .i64 id, .int .i64 hv, .int .i64 pr] 34)
        have HS1 := Lib.hid (HS.out.past ((Below.refl _ _).alloc (Nat.le_refl _) (.cells #[.int .i64 kd, .int .i64 id, .int .i64 hv, .int .i64 pr] 34)))
        by_cases hk : kd = 0
        · subst hk
          go_wp2_with fail
          clear o0 o1 o2 o3 HS
          generalize wr.heap.size = gO at *
          generalize wr.alloc (.cells #[.int .i64 0, .int .i64 id, .int .i64 hv, .int .i64 pr] 34) = w4 at *
          obtain ⟨bo, hbo⟩ : ∃ bo, okA m id hv = bo := ⟨_, rfl⟩
          have HBO := Lib.hid hbo
          clear hbo
          have NG := Lib.hid (show gO ∉ [g, g2] by
            have n1 := Blk.ne KO.out HS1.out.s.q (by decide)
            have n2 := Blk.ne KO.out HS1.out.r (by decide)
            simp [n1, n2])
          go_wp2_with fail
-- REGION curfew/curfewlaw21.QuorumAll 13 qall13 10
          refine Hs.begin ([g, g2]) ?_
          refine Hs.take (v := .pointer (some ⟨g, 0, none⟩)) 0 57 rfl ?_ (fun _ _ => rfl)
          refine Hs.take (v := .pointer (some ⟨gO, 1, none⟩)) 1 58 rfl ?_ (fun w' hw' => by go_simp; first | done | rfl | omega | exact wrap_in (by omega) (by omega) | exact Int.tmod_eq_emod_of_nonneg (by omega) | exact Int.tdiv_eq_ediv_of_nonneg (by omega) | (simp; omega))
          refine Hs.take (v := .int .i64 id) 2 59 rfl ?_ (fun w' hw' => by have cc := ((show Blk w4.drew gO _ _ from KO.out).touch hw' NG.out).cell (i := 1) rfl; go_simp)
          refine Hs.take (v := .pointer (some ⟨gO, 2, none⟩)) 3 60 rfl ?_ (fun w' hw' => by go_simp; first | done | rfl | omega | exact wrap_in (by omega) (by omega) | exact Int.tmod_eq_emod_of_nonneg (by omega) | exact Int.tdiv_eq_ediv_of_nonneg (by omega) | (simp; omega))
          refine Hs.take (v := .int .i64 hv) 4 61 rfl ?_ (fun w' hw' => by have cc := ((show Blk w4.drew gO _ _ from KO.out).touch hw' NG.out).cell (i := 2) rfl; go_simp)
          refine Hs.take (v := .pointer (some ⟨gO, 3, none⟩)) 5 62 rfl ?_ (fun w' hw' => by go_simp; first | done | rfl | omega | exact wrap_in (by omega) (by omega) | exact Int.tmod_eq_emod_of_nonneg (by omega) | exact Int.tdiv_eq_ediv_of_nonneg (by omega) | (simp; omega))
          refine Hs.take (v := .int .i64 pr) 6 63 rfl ?_ (fun w' hw' => by have cc := ((show Blk w4.drew gO _ _ from KO.out).touch hw' NG.out).cell (i := 3) rfl; go_simp)
          refine Hs.take (v := .pointer (some ⟨g2, 0, none⟩)) 8 65 rfl ?_ (fun _ _ => rfl)
          refine Hs.take (v := .pointer (some ⟨gO, 1, none⟩)) 9 66 rfl ?_ (fun w' hw' => by go_simp; first | done | rfl | omega | exact wrap_in (by omega) (by omega) | exact Int.tmod_eq_emod_of_nonneg (by omega) | exact Int.tdiv_eq_ediv_of_nonneg (by omega) | (simp; omega))
          refine Hs.take (v := .int .i64 id) 10 67 rfl ?_ (fun w' hw' => by have cc := ((show Blk w4.drew gO _ _ from KO.out).touch hw' NG.out).cell (i := 1) rfl; go_simp)
          refine Hs.take (v := .pointer (some ⟨gO, 2, none⟩)) 11 68 rfl ?_ (fun w' hw' => by go_simp; first | done | rfl | omega | exact wrap_in (by omega) (by omega) | exact Int.tmod_eq_emod_of_nonneg (by omega) | exact Int.tdiv_eq_ediv_of_nonneg (by omega) | (simp; omega))
          refine Hs.take (v := .int .i64 hv) 12 69 rfl ?_ (fun w' hw' => by have cc := ((show Blk w4.drew gO _ _ from KO.out).touch hw' NG.out).cell (i := 2) rfl; go_simp)
          refine Hs.take (v := .pointer (some ⟨gO, 3, none⟩)) 13 70 rfl ?_ (fun w' hw' => by go_simp; first | done | rfl | omega | exact wrap_in (by omega) (by omega) | exact Int.tmod_eq_emod_of_nonneg (by omega) | exact Int.tdiv_eq_ediv_of_nonneg (by omega) | (simp; omega))
          refine Hs.take (v := .int .i64 pr) 14 71 rfl ?_ (fun w' hw' => by have cc := ((show Blk w4.drew gO _ _ from KO.out).touch hw' NG.out).cell (i := 3) rfl; go_simp)
          refine Hs.call (f := 13) (args := #[.pointer (some ⟨g, 0, none⟩), .int .i64 id, .int .i64 hv, .int .i64 pr]) 7 64 rfl ?_ (run_callf Try.func13 (by kernel_rfl) (by kernel_rfl) (by simp only [List.map_toArray, List.map_cons, List.map_nil]; rfl))
          refine (HS1.out.drew.s.ack id hv pr).mono ?_
          rw [HBO.out]
          rintro e w5 ⟨rfl, s5, t5⟩
          have R5 := Lib.hid (HS1.out.drew.mid t5)
          have S5 := Lib.hid s5
          have T5 := Lib.hid t5
          clear s5
          refine Hs.back (t5.wide (by simp)) ?_
          refine Hs.call (f := 14) (args := #[.pointer (some ⟨g2, 0, none⟩), .int .i64 id, .int .i64 hv, .int .i64 pr]) 15 72 rfl ?_ (run_callf Try.func14 (by kernel_rfl) (by kernel_rfl) (by simp only [List.map_toArray, List.map_cons, List.map_nil]; rfl))
          refine (rq_ack _ g2 n x m H P last R5.out HS1.out.s.k id hv pr).mono ?_
          rw [HBO.out]
          rintro e w6 ⟨rfl, r6, t6⟩
          have HS2 := Lib.hid (HS1.out.drew.both S5.out T5.out r6 t6)
          refine Hs.back (t6.wide (by simp)) ?_
          refine Hs.take (v := .bool false) 16 73 rfl ?_ (fun w' hw' => by go_simp; first | done | rfl | omega | exact wrap_in (by omega) (by omega) | exact Int.tmod_eq_emod_of_nonneg (by omega) | exact Int.tdiv_eq_ediv_of_nonneg (by omega) | (simp; omega))
          refine Hs.done ?_
-- END
          clear KO HS1 NG R5 S5 T5 HBO
          go_wp2_with fail
          obtain ⟨dc, hdc⟩ : ∃ dc, dbest m n (aH m H id hv) 7 = dc := ⟨_, rfl⟩
          obtain ⟨dp, hdp⟩ : ∃ dp, dbest m n (aP m P last id hv pr) 7 = dp := ⟨_, rfl⟩
          have HIC := Lib.hid (show IsR (aH m H id hv) n dc from hdc ▸ dbest_isR HS2.out.s.k.h HM.out)
          have HIP := Lib.hid (show IsR (aP m P last id hv pr) n dp from hdp ▸ dbest_isR HS2.out.s.k.p HM.out)
          have HDC := Lib.hid hdc
          have HDP := Lib.hid hdp
          have LG2 := Lib.hid HS2.out.r.lt
          clear hdc hdp
-- REGION curfew/curfewlaw21.QuorumAll 17 qall17a 10
          refine Hb.begin ?_
          refine Hb.take (v := .pointer (some ⟨g, 0, none⟩)) 0 79 rfl ?_ (fun _ _ => rfl)
          refine Hb.take (v := .pointer (some ⟨g2, 0, none⟩)) 2 81 rfl ?_ (fun _ _ => rfl)
          refine Hb.call (f := 17) (args := #[.pointer (some ⟨g, 0, none⟩)]) 1 80 rfl ?_ (run_callf Try.func17 (by kernel_rfl) (by kernel_rfl) (by simp only [List.map_toArray, List.map_cons, List.map_nil]; rfl))
          refine HS2.out.drew.s.commit.mono ?_
          rintro e w7 ⟨c, rfl, hr, b7⟩
          obtain rfl : dc = c := (uniq hr HIC.out).symm
          have HS7 := Lib.hid (HS2.out.drew.past b7)
          have L7 := Lib.hid b7.size
          clear hr
          refine Hb.back b7 (Nat.le_refl _) ?_
          refine Hb.call (f := 18) (args := #[.pointer (some ⟨g2, 0, none⟩)]) 3 82 rfl ?_ (run_callf Try.func18 (by kernel_rfl) (by kernel_rfl) (by simp only [List.map_toArray, List.map_cons, List.map_nil]; rfl))
          refine (rqcommit_c _ g2 n x m _ _ _ HS7.out.r HS7.out.s.k).mono ?_
          rw [HDC.out]
          rintro e w8 ⟨rfl, b8⟩
          have HS8 := Lib.hid (HS7.out.past b8)
          have L8 := Lib.hid (Nat.le_trans L7.out b8.size)
          refine Hb.back (b8.mono L7.out) (Nat.le_refl _) ?_
          refine Hb.take (v := .bool false) 4 83 rfl ?_ (fun w' hw' => by go_simp; first | done | rfl | omega | exact wrap_in (by omega) (by omega) | exact Int.tmod_eq_emod_of_nonneg (by omega) | exact Int.tdiv_eq_ediv_of_nonneg (by omega) | (simp; omega))
          refine Hb.take (v := .bool false) 5 84 rfl ?_ (fun _ _ => rfl)
          refine Hb.take (v := .pointer (some ⟨g, 0, none⟩)) 6 85 rfl ?_ (fun _ _ => rfl)
          refine Hb.take (v := .pointer (some ⟨g2, 0, none⟩)) 8 87 rfl ?_ (fun _ _ => rfl)
          refine Hb.call (f := 19) (args := #[.pointer (some ⟨g, 0, none⟩)]) 7 86 rfl ?_ (run_callf Try.func19 (by kernel_rfl) (by kernel_rfl) (by simp only [List.map_toArray, List.map_cons, List.map_nil]; rfl))
          refine HS8.out.s.probe.mono ?_
          rintro e w9 ⟨c, rfl, hr, b9⟩
          obtain rfl : dp = c := (uniq hr HIP.out).symm
          have HS9 := Lib.hid (HS8.out.past b9)
          have L9 := Lib.hid (Nat.le_trans L8.out b9.size)
          clear hr
          refine Hb.back (b9.mono L8.out) (Nat.le_refl _) ?_
          refine Hb.call (f := 20) (args := #[.pointer (some ⟨g2, 0, none⟩)]) 9 88 rfl ?_ (run_callf Try.func20 (by kernel_rfl) (by kernel_rfl) (by simp only [List.map_toArray, List.map_cons, List.map_nil]; rfl))
          refine (rqprobe_c _ g2 n x m _ _ _ HS9.out.r HS9.out.s.k).mono ?_
          rw [HDP.out]
          rintro e w10 ⟨rfl, b10⟩
          have HS10 := Lib.hid (HS9.out.past b10)
          refine Hb.back (b10.mono L9.out) (Nat.le_refl _) ?_
          refine Hb.take (v := .bool false) 10 89 rfl ?_ (fun w' hw' => by go_simp; first | done | rfl | omega | exact wrap_in (by omega) (by omega) | exact Int.tmod_eq_emod_of_nonneg (by omega) | exact Int.tdiv_eq_ediv_of_nonneg (by omega) | (simp; omega))
          refine Hb.take (v := .bool false) 11 90 rfl ?_ (fun _ _ => rfl)
          refine Hb.take (v := .bool false) 12 91 rfl ?_ (fun _ _ => rfl)
          refine Hb.take (v := .pointer (some ⟨g, 0, none⟩)) 13 92 rfl ?_ (fun _ _ => rfl)
          refine Hb.take (v := .pointer (some ⟨g2, 0, none⟩)) 15 94 rfl ?_ (fun _ _ => rfl)
          refine Hb.take (v := .pointer (some ⟨g2, 0, none⟩)) 16 95 rfl ?_ (fun w' hw' => by go_simp; first | done | rfl | omega | exact wrap_in (by omega) (by omega) | exact Int.tmod_eq_emod_of_nonneg (by omega) | exact Int.tdiv_eq_ediv_of_nonneg (by omega) | (simp; omega))
          refine Hb.take (v := .pointer (some ⟨g2, 19, none⟩)) 17 96 rfl ?_ (fun w' hw' => by go_simp; first | done | rfl | omega | exact wrap_in (by omega) (by omega) | exact Int.tmod_eq_emod_of_nonneg (by omega) | exact Int.tdiv_eq_ediv_of_nonneg (by omega) | (simp; omega))
          refine Hb.take (v := .int .i64 last) 18 97 rfl ?_ (fun w' hw' => by have cc := Blk.cell (Blk.below HS10.out.r hw' LG2.out) (rcs_last HS10.out.s.k.h.len HS10.out.s.k.p.len); go_simp)
          refine Hb.call (f := 21) (args := #[.pointer (some ⟨g, 0, none⟩)]) 14 93 rfl ?_ (run_callf Try.func21 (by kernel_rfl) (by kernel_rfl) (by simp only [List.map_toArray, List.map_cons, List.map_nil]; rfl))
          refine (qlast_c _ g n x m _ _ _ HS10.out.s.q HS10.out.s.k).mono ?_
          rintro e w11 ⟨rfl, rfl⟩
          refine Hb.back (Below.refl _ _) (Nat.le_refl _) ?_
          refine Hb.take (v := .bool false) 19 98 rfl ?_ (fun w' hw' => by go_simp; first | done | rfl | omega | exact wrap_in (by omega) (by omega) | exact Int.tmod_eq_emod_of_nonneg (by omega) | exact Int.tdiv_eq_ediv_of_nonneg (by omega) | (simp; omega))
          refine Hb.take (v := .bool false) 20 99 rfl ?_ (fun _ _ => rfl)
          refine Hb.done ?_
-- END
          have HLH := Lib.hid HS10.out.s.k.h.len
          clear HIC HIP HDC HDP LG2 HS7 HS8 HS9 HS2 L7 L8 L9
          obtain ⟨H1, hH1⟩ : ∃ H1, (aH m H id hv) = H1 := ⟨_, rfl⟩
          obtain ⟨P1, hP1⟩ : ∃ P1, (aP m P last id hv pr) = P1 := ⟨_, rfl⟩
          rw [hH1, hP1] at HS10
          rw [hH1] at HLH
          clear hH1 hP1
          go_wp2_with fail
          go_loopw [14] (fun s14 wx => ∃ j : Nat, j ≤ 9 ∧ s14 = .int .i64 j ∧ wx = w10) (fun s14 _ => 9 - (intOf s14).toNat)
          case atStart => exact ⟨0, by omega, rfl, rfl⟩
          case round =>
            obtain ⟨j, hj, rfl, rfl⟩ := hrel
            by_cases hj9 : j < 9
            · by_cases hj1 : 1 ≤ j ∧ j ≤ 7
              · obtain ⟨k, rfl⟩ : ∃ k, j = k + 1 := ⟨j - 1, by omega⟩
                have hk7 : k < 7 := by omega
                have cc := Blk.cell HS10.out.r (rcs_h HLH.out hk7)
                obtain ⟨y, hy⟩ : ∃ y, H1.getD k 0 = y := ⟨_, rfl⟩
                rw [hy, show 4 + k = 3 + (k + 1) by omega] at cc
                have HV := Lib.hid (qhave_any _ g n x m H1 P1 _ HS10.out.s.q HS10.out.s.k hk7)
                rw [hy] at HV
                clear hy hj hj9 hj1
                go_wp2_with fail
                refine HV.out.mono ?_
                rintro e w12 ⟨rfl, rfl⟩
                go_wp2_with fail
                go_roundw
                case rel => exact ⟨k + 1 + 1, by omega, by go_num, trivial⟩
                case measure => simp [intOf]; omega
              · have hout : PTeam.has m (j : Int) = false := PTeam.has_out m (by omega)
                have HO := Lib.hid hout
                have hj0 : j = 0 ∨ j = 8 := by omega
                clear hout hj hj9 hj1
                rcases hj0 with rfl | rfl
                · go_wp2_with fail
                  refine (qhave_out _ g n x m H1 P1 _ HS10.out.s.q HS10.out.s.k _ HO.out).mono ?_
                  rintro e w12 ⟨rfl, rfl⟩
                  go_wp2_with fail
                  go_roundw
                  case rel => exact ⟨1, by omega, by go_num, trivial⟩
                  case measure => simp [intOf]
                · go_wp2_with fail
                  refine (qhave_out _ g n x m H1 P1 _ HS10.out.s.q HS10.out.s.k _ HO.out).mono ?_
                  rintro e w12 ⟨rfl, rfl⟩
                  go_wp2_with fail
                  go_roundw
                  case rel => exact ⟨9, by omega, by go_num, trivial⟩
                  case measure => simp [intOf]
            · obtain rfl : j = 9 := by omega
              go_wp2_with fail
              go_roundw
              case rel => exact ⟨i + 1, H1, P1, _, by omega, by omega, by omega, by go_num, HS10⟩
              case measure => simp [intOf]; omega
        · have hk' : (kd == 0) = false := by simpa using hk
          go_wp2_with fail
          clear o0 o1 o2 o3 HS KO
          generalize wr.heap.size = gO at *
          generalize wr.alloc (.cells #[.int .i64 kd, .int .i64 id, .int .i64 hv, .int .i64 pr] 34) = w4 at *
          go_wp2_with fail
          refine (HS1.out.s.next (by omega)).mono ?_
          rintro e w5 ⟨rfl, s5, t5⟩
          have R5 := Lib.hid (HS1.out.mid t5)
          have S5 := Lib.hid s5
          have T5 := Lib.hid t5
          clear s5 t5
          go_wp2_with fail
          refine (rqnext_c w5 g2 n x m H P last R5.out HS1.out.s.k (by omega)).mono ?_
          rintro e w6 ⟨rfl, r6, t6⟩
          have HS2 := Lib.hid (HS1.out.both S5.out T5.out r6 t6)
          clear HS1 R5 S5 T5 r6 t6
          go_wp2_with fail
          obtain ⟨dc, hdc⟩ : ∃ dc, dbest m n H 7 = dc := ⟨_, rfl⟩
          obtain ⟨dp, hdp⟩ : ∃ dp, dbest m n (P.set (pl x) (last + 1)) 7 = dp := ⟨_, rfl⟩
          have HIC := Lib.hid (show IsR H n dc from hdc ▸ dbest_isR HS2.out.s.k.h HM.out)
          have HIP := Lib.hid (show IsR (P.set (pl x) (last + 1)) n dp from hdp ▸ dbest_isR HS2.out.s.k.p HM.out)
          have HDC := Lib.hid hdc
          have HDP := Lib.hid hdp
          have LG2 := Lib.hid HS2.out.r.lt
          clear hdc hdp
-- REGION curfew/curfewlaw21.QuorumAll 17 qall17b 10
          refine Hb.begin ?_
          refine Hb.take (v := .pointer (some ⟨g, 0, none⟩)) 0 79 rfl ?_ (fun _ _ => rfl)
          refine Hb.take (v := .pointer (some ⟨g2, 0, none⟩)) 2 81 rfl ?_ (fun _ _ => rfl)
          refine Hb.call (f := 17) (args := #[.pointer (some ⟨g, 0, none⟩)]) 1 80 rfl ?_ (run_callf Try.func17 (by kernel_rfl) (by kernel_rfl) (by simp only [List.map_toArray, List.map_cons, List.map_nil]; rfl))
          refine HS2.out.drew.s.commit.mono ?_
          rintro e w7 ⟨c, rfl, hr, b7⟩
          obtain rfl : dc = c := (uniq hr HIC.out).symm
          have HS7 := Lib.hid (HS2.out.drew.past b7)
          have L7 := Lib.hid b7.size
          clear hr
          refine Hb.back b7 (Nat.le_refl _) ?_
          refine Hb.call (f := 18) (args := #[.pointer (some ⟨g2, 0, none⟩)]) 3 82 rfl ?_ (run_callf Try.func18 (by kernel_rfl) (by kernel_rfl) (by simp only [List.map_toArray, List.map_cons, List.map_nil]; rfl))
          refine (rqcommit_c _ g2 n x m _ _ _ HS7.out.r HS7.out.s.k).mono ?_
          rw [HDC.out]
          rintro e w8 ⟨rfl, b8⟩
          have HS8 := Lib.hid (HS7.out.past b8)
          have L8 := Lib.hid (Nat.le_trans L7.out b8.size)
          refine Hb.back (b8.mono L7.out) (Nat.le_refl _) ?_
          refine Hb.take (v := .bool false) 4 83 rfl ?_ (fun w' hw' => by go_simp; first | done | rfl | omega | exact wrap_in (by omega) (by omega) | exact Int.tmod_eq_emod_of_nonneg (by omega) | exact Int.tdiv_eq_ediv_of_nonneg (by omega) | (simp; omega))
          refine Hb.take (v := .bool false) 5 84 rfl ?_ (fun _ _ => rfl)
          refine Hb.take (v := .pointer (some ⟨g, 0, none⟩)) 6 85 rfl ?_ (fun _ _ => rfl)
          refine Hb.take (v := .pointer (some ⟨g2, 0, none⟩)) 8 87 rfl ?_ (fun _ _ => rfl)
          refine Hb.call (f := 19) (args := #[.pointer (some ⟨g, 0, none⟩)]) 7 86 rfl ?_ (run_callf Try.func19 (by kernel_rfl) (by kernel_rfl) (by simp only [List.map_toArray, List.map_cons, List.map_nil]; rfl))
          refine HS8.out.s.probe.mono ?_
          rintro e w9 ⟨c, rfl, hr, b9⟩
          obtain rfl : dp = c := (uniq hr HIP.out).symm
          have HS9 := Lib.hid (HS8.out.past b9)
          have L9 := Lib.hid (Nat.le_trans L8.out b9.size)
          clear hr
          refine Hb.back (b9.mono L8.out) (Nat.le_refl _) ?_
          refine Hb.call (f := 20) (args := #[.pointer (some ⟨g2, 0, none⟩)]) 9 88 rfl ?_ (run_callf Try.func20 (by kernel_rfl) (by kernel_rfl) (by simp only [List.map_toArray, List.map_cons, List.map_nil]; rfl))
          refine (rqprobe_c _ g2 n x m _ _ _ HS9.out.r HS9.out.s.k).mono ?_
          rw [HDP.out]
          rintro e w10 ⟨rfl, b10⟩
          have HS10 := Lib.hid (HS9.out.past b10)
          refine Hb.back (b10.mono L9.out) (Nat.le_refl _) ?_
          refine Hb.take (v := .bool false) 10 89 rfl ?_ (fun w' hw' => by go_simp; first | done | rfl | omega | exact wrap_in (by omega) (by omega) | exact Int.tmod_eq_emod_of_nonneg (by omega) | exact Int.tdiv_eq_ediv_of_nonneg (by omega) | (simp; omega))
          refine Hb.take (v := .bool false) 11 90 rfl ?_ (fun _ _ => rfl)
          refine Hb.take (v := .bool false) 12 91 rfl ?_ (fun _ _ => rfl)
          refine Hb.take (v := .pointer (some ⟨g, 0, none⟩)) 13 92 rfl ?_ (fun _ _ => rfl)
          refine Hb.take (v := .pointer (some ⟨g2, 0, none⟩)) 15 94 rfl ?_ (fun _ _ => rfl)
          refine Hb.take (v := .pointer (some ⟨g2, 0, none⟩)) 16 95 rfl ?_ (fun w' hw' => by go_simp; first | done | rfl | omega | exact wrap_in (by omega) (by omega) | exact Int.tmod_eq_emod_of_nonneg (by omega) | exact Int.tdiv_eq_ediv_of_nonneg (by omega) | (simp; omega))
          refine Hb.take (v := .pointer (some ⟨g2, 19, none⟩)) 17 96 rfl ?_ (fun w' hw' => by go_simp; first | done | rfl | omega | exact wrap_in (by omega) (by omega) | exact Int.tmod_eq_emod_of_nonneg (by omega) | exact Int.tdiv_eq_ediv_of_nonneg (by omega) | (simp; omega))
          refine Hb.take (v := .int .i64 (last + 1)) 18 97 rfl ?_ (fun w' hw' => by have cc := Blk.cell (Blk.below HS10.out.r hw' LG2.out) (rcs_last HS10.out.s.k.h.len HS10.out.s.k.p.len); go_simp)
          refine Hb.call (f := 21) (args := #[.pointer (some ⟨g, 0, none⟩)]) 14 93 rfl ?_ (run_callf Try.func21 (by kernel_rfl) (by kernel_rfl) (by simp only [List.map_toArray, List.map_cons, List.map_nil]; rfl))
          refine (qlast_c _ g n x m _ _ _ HS10.out.s.q HS10.out.s.k).mono ?_
          rintro e w11 ⟨rfl, rfl⟩
          refine Hb.back (Below.refl _ _) (Nat.le_refl _) ?_
          refine Hb.take (v := .bool false) 19 98 rfl ?_ (fun w' hw' => by go_simp; first | done | rfl | omega | exact wrap_in (by omega) (by omega) | exact Int.tmod_eq_emod_of_nonneg (by omega) | exact Int.tdiv_eq_ediv_of_nonneg (by omega) | (simp; omega))
          refine Hb.take (v := .bool false) 20 99 rfl ?_ (fun _ _ => rfl)
          refine Hb.done ?_
-- END
          have HLH := Lib.hid HS10.out.s.k.h.len
          clear HIC HIP HDC HDP LG2 HS7 HS8 HS9 HS2 L7 L8 L9
          obtain ⟨H1, hH1⟩ : ∃ H1, H = H1 := ⟨_, rfl⟩
          obtain ⟨P1, hP1⟩ : ∃ P1, (P.set (pl x) (last + 1)) = P1 := ⟨_, rfl⟩
          rw [hH1, hP1] at HS10
          rw [hH1] at HLH
          clear hH1 hP1
          go_wp2_with fail
          go_loopw [14] (fun s14 wx => ∃ j : Nat, j ≤ 9 ∧ s14 = .int .i64 j ∧ wx = w10) (fun s14 _ => 9 - (intOf s14).toNat)
          case atStart => exact ⟨0, by omega, rfl, rfl⟩
          case round =>
            obtain ⟨j, hj, rfl, rfl⟩ := hrel
            by_cases hj9 : j < 9
            · by_cases hj1 : 1 ≤ j ∧ j ≤ 7
              · obtain ⟨k, rfl⟩ : ∃ k, j = k + 1 := ⟨j - 1, by omega⟩
                have hk7 : k < 7 := by omega
                have cc := Blk.cell HS10.out.r (rcs_h HLH.out hk7)
                obtain ⟨y, hy⟩ : ∃ y, H1.getD k 0 = y := ⟨_, rfl⟩
                rw [hy, show 4 + k = 3 + (k + 1) by omega] at cc
                have HV := Lib.hid (qhave_any _ g n x m H1 P1 _ HS10.out.s.q HS10.out.s.k hk7)
                rw [hy] at HV
                clear hy hj hj9 hj1
                go_wp2_with fail
                refine HV.out.mono ?_
                rintro e w12 ⟨rfl, rfl⟩
                go_wp2_with fail
                go_roundw
                case rel => exact ⟨k + 1 + 1, by omega, by go_num, trivial⟩
                case measure => simp [intOf]; omega
              · have hout : PTeam.has m (j : Int) = false := PTeam.has_out m (by omega)
                have HO := Lib.hid hout
                have hj0 : j = 0 ∨ j = 8 := by omega
                clear hout hj hj9 hj1
                rcases hj0 with rfl | rfl
                · go_wp2_with fail
                  refine (qhave_out _ g n x m H1 P1 _ HS10.out.s.q HS10.out.s.k _ HO.out).mono ?_
                  rintro e w12 ⟨rfl, rfl⟩
                  go_wp2_with fail
                  go_roundw
                  case rel => exact ⟨1, by omega, by go_num, trivial⟩
                  case measure => simp [intOf]
                · go_wp2_with fail
                  refine (qhave_out _ g n x m H1 P1 _ HS10.out.s.q HS10.out.s.k _ HO.out).mono ?_
                  rintro e w12 ⟨rfl, rfl⟩
                  go_wp2_with fail
                  go_roundw
                  case rel => exact ⟨9, by omega, by go_num, trivial⟩
                  case measure => simp [intOf]
            · obtain rfl : j = 9 := by omega
              go_wp2_with fail
              go_roundw
              case rel => exact ⟨i + 1, H1, P1, _, by omega, by omega, by omega, by go_num, HS10⟩
              case measure => simp [intOf]; omega
      · obtain rfl : i = 60 := by omega
        go_wp2_with fail
        go_ret
        exact ⟨rfl, HS.out.s.bel⟩
    · obtain rfl : i = len := by omega
      go_wp2_with fail
      go_ret
      exact ⟨rfl, HS.out.s.bel⟩
theorem QuorumAll_w (w : World) (n members me : Int) (A : Option Addr) (len c : Nat) (xs : List Value) (h1 : -9223372036854775808 ≤ members) (h2 : members ≤ 9223372036854775807) (h0 : Rd w w.heap.size A c 4 len xs) (hI : AllI xs) :
    Calls Try.prog 3 #[.int .i64 n, .int .i64 members, .int .i64 me, .slice A len c] w fun e w' => e = .returned (.bool true) ∧ Below w.heap.size w w' := by
  cases hm : PTeam.most members n
  · exact QuorumAll_none w n members me A len c h1 h2 hm
  · have hq0 : 0 ≤ members := by
      unfold PTeam.most PTeam.may at hm
      simp only [Bool.and_eq_true, decide_eq_true_eq] at hm
      exact hm.1.2.1
    obtain ⟨m, rfl⟩ := Int.eq_ofNat_of_zero_le hq0
    cases hh : PTeam.has m me
    · exact QuorumAll_out w n me m A len c hm hh
    · exact QuorumAll_ok w n me m A len c xs h0 hI hm hh
end Go.Proofs.Ytdgpjolohghboaa
