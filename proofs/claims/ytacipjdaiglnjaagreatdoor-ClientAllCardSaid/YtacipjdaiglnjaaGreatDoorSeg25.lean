/- A process proposes, whatever its log is. -/
import Derived.Test.YtacipjdaiglnjaaGreatDoorSeg18
import Derived.Test.YtacipjdaiglnjaaGreatDoorSeg13
import Derived.Test.YtacipjdaiglnjaaGreatDoorSeg3
import Derived.Deep.RegionWith
import Derived.Deep.CutRange
import Derived.Test.YtacipjdaiglnjaaGreatDoorSeg2
import Derived.Test.YtacipjdaiglnjaaGreatDoorSeg19
import Derived.Lib.MinMax
import Derived.Test.YtacipjdaiglnjaaGreatDoorSeg17
import Derived.BigQuiet
import Derived.Deep.QuietTactic
import Derived.Test.YtacipjdaiglnjaaGreatDoorSeg24
import Derived.Test.YtacipjdaiglnjaaGreatDoorSeg7
import Derived.Test.YtacipjdaiglnjaaGreatDoorSeg4
import Derived.BigRegion
namespace Go.Proofs.YtacipjdaiglnjaaGreatDoor
open Go.RowKit PNode

/-- Its own vote alone. -/
def ownG (p : Np) (v : Int) : List (Option Vt) := PVote.add v p.n PVote.none7 ⟨p.id, p.last, p.L, p.com⟩
/-- Behind a promise of view v; half way: a new view, no votes yet; behind its proposing view v. -/
def quitG (p : Np) (v : Int) : Np := { p with pro := v, vo := none, te := none, pc := p.pl, pp := false, heard := p.clock }
def midG (p : Np) (v : Int) : Np := { quitG p v with vo := some (v, PVote.none7), den := 0 }
def prpG (p : Np) (v : Int) : Np := { quitG p v with vo := some (v, ownG p v), den := 0 }
theorem Nr.prpG {p : Np} (h : Nr p) {v : Int} (h1 : p.pro < v) (h2 : v ≤ 1099511627776) : Nr (prpG p v) :=
  ⟨h.n, h.id, h.boot, ⟨by have := h.pro; show 0 ≤ v; omega, h2⟩, h.clock, ⟨h.clock.1, Int.le_refl _⟩, ⟨h.last.1, by have := h.last; show p.last ≤ v; omega⟩, h.mem, h.com,
    fun v' S e => by cases e; exact ⟨by have := h.pro; omega, h2, PVote.pl_add PVote.pl_none _⟩, ⟨Int.le_refl _, by show (0 : Int) ≤ _; omega⟩,
    ⟨h.pf.len, Int.le_trans h.pf.c0 h.pf.cl, Int.le_refl _, h.pf.l1, h.pf.a, h.pf.k⟩, h.seq⟩
theorem quitG_eq {p : Np} {v : Int} (h : p.pro < v) (h2 : v ≤ 1099511627776) : proP p v = quitG p v := by
  unfold proP quitG
  rw [put_v h h2]

set_option maxHeartbeats 8000000 in
set_option maxRecDepth 100000 in
theorem proposeG {w : World} {x d : Nat} {F : List Nat} {p : Np} (h : Nd w x d F p) (n : Nat) (hn : p.n = n) (h1 : p.pro ≤ 1000000) (h2 : p.den ≤ 1000000) :
    Calls Tryz.prog 68 #[.pointer (some ⟨x, 0, none⟩)] w fun e w' => ∃ v A c, e = .returned (.slice A (propsP (PVote.tm (ownG p v)) p.id p.boot v n).length c) ∧ IsNext p.id p.n (max p.pro p.den + 1) v ∧ Ms w' w.heap.size A c (propsP (PVote.tm (ownG p v)) p.id p.boot v n) ∧ NdW w w' x d F (prpG p v) := by
  obtain ⟨a0, s0, hr⟩ := h.open
  have HR := Lib.hid hr
  have HH := Lib.hid h
  have HNN := Lib.hid hn
  have B0 : Blk w x 79 (ncs d p a0) := s0.sep.get (i := 0) rfl
  have D0 : Ds w d p.boot p.pro := s0.sep.get (i := 1) rfl
  clear h hn s0
  go_enter Tryz.func68, Tryz.ntmps68
  go_wp2_with fail
  refine (nextView_c B0 D0 hr h1 h2).mono ?_
  rintro e w1 ⟨v, rfl, hv, b1⟩
  have HV := Lib.hid hv
  have g1 : p.pro < v := by have := hv.1; have := Int.le_max_left p.pro p.den; omega
  have g2 : v ≤ 1099511627776 := by have := hv.2.1; have := hr.n; have : max p.pro p.den ≤ 1000000 := Int.max_le.2 ⟨h1, h2⟩; omega
  have g0 : v ≠ 0 := by have := hr.pro; omega
  have g3 : 1 ≤ v := by have := hr.pro; omega
  have N1 := HH.out.past b1
  have HB1 := Lib.hid b1
  clear hv B0 D0 hr b1
  go_wp2_with fail
  refine (promise_c N1 v).mono ?_
  rw [quitG_eq g1 g2]
  rintro e w2 ⟨rfl, P2⟩
  have W2 := Lib.hid (P2.behind HB1.out)
  clear P2 N1
  obtain ⟨⟨F2, N2, hF2⟩, T2⟩ := W2.out
  obtain ⟨a, s2, hr2⟩ := N2.open
  have HF2 := Lib.hid hF2
  have HT2 := Lib.hid T2
  have S2 := Lib.hid s2
  have HB2 : Blk w2 x 79 (ncs d (quitG p v) a) := s2.sep.get (i := 0) rfl
  have c12 : w2.cell? ⟨x, 12, none⟩ = some (.int .i64 p.den) := HB2.cell rfl
  have f12 := HB2.free 12
  have BB2 := Lib.hid HB2
  have c1 : w2.cell? ⟨x, 1, none⟩ = some (.int .i64 p.n) := HB2.cell rfl
  clear W2 N2 hF2 T2 s2 hr2 HB2
  go_wp2_with fail
  have B3 := Lib.hid (BB2.out.set 12 (.int .i64 0))
  have S3 := Lib.hid (S2.out.set 0 rfl (pX_ok x d { quitG p v with den := 0 } a) (((Touch.refl [x] w2).cell (g := x) (by simp) 12 (.int .i64 0))) B3.out (fun k hk => .inl hk))
  clear c12 f12 c1
  generalize hw3 : w2.setCell ⟨x, 12, none⟩ (.int .i64 0) = w5 at *
  refine (vnew_yes w5 v p.n ⟨g3, by omega, HR.out.n.1, HR.out.n.2⟩).mono ?_
  rintro e w6 ⟨rfl, V6, b6⟩
  have S4 := Lib.hid ((S3.out.put 3 rfl (pV_ok p.n { a with vg := w5.heap.size, FV := [w5.heap.size] } (some (v, PVote.none7))) b6 V6 (by simp [pV])))
  have HB4 : Blk w6 x 79 (ncs d { quitG p v with den := 0 } a) := B3.out.past b6
  have c11 : w6.cell? ⟨x, 11, none⟩ = some (.pointer none) := HB4.cell rfl
  have f11 := HB4.free 11
  have BB4 := Lib.hid HB4
  clear HB4 V6 b6 B3 S3 S2 BB2 hw3
  go_wp2_with fail
  have B5 := Lib.hid (BB4.out.set 11 (.pointer (some ⟨w5.heap.size, 0, none⟩)))
  have S6 := Lib.hid (S4.out.set 0 rfl (pX_ok x d (midG p v) { a with vg := w5.heap.size, FV := [w5.heap.size] }) (((Touch.refl [x] w6).cell (g := x) (by simp) 11 (.pointer (some ⟨w5.heap.size, 0, none⟩)))) B5.out (fun k hk => .inl hk))
  clear c11 f11 BB4 S4
  generalize hw7 : w6.setCell ⟨x, 11, none⟩ (.pointer (some ⟨w5.heap.size, 0, none⟩)) = w6' at *
  have B6 : Hid (Blk w6' x 79 (ncs d (midG p v) { a with vg := w5.heap.size, FV := [w5.heap.size] })) := Lib.hid B5.out
  have L6 : Hid (Lg w6' a.lg a.FL p.L) := Lib.hid (S6.out.sep.get (i := 2) rfl)
  have hx : x ∉ [w5.heap.size] := S6.out.sep.two (i := 0) (j := 3) (by omega) rfl rfl x (by simp [pX])
  have HX := Lib.hid hx
  have HN7 := Lib.hid HR.out.n.2
  clear hx B5 hw7
  go_wp2_with fail
-- REGION (*curfew/node.Node).propose 7 ngprop7 2
  refine Hs.begin ([w5.heap.size]) ?_
  refine Hs.take (v := .pointer (some ⟨x, 0, none⟩)) 0 23 rfl ?_ (fun _ _ => rfl)
  refine Hs.take (v := .pointer (some ⟨x, 0, none⟩)) 1 24 rfl ?_ (fun w' hw' => by go_simp; first | done | rfl | (simp; omega))
  refine Hs.take (v := .pointer (some ⟨x, 11, none⟩)) 2 25 rfl ?_ (fun w' hw' => by go_simp; first | done | rfl | (simp; omega))
  refine Hs.take (v := .pointer (some ⟨w5.heap.size, 0, none⟩)) 3 26 rfl ?_ (fun w' hw' => by exact ldVotes (Blk.cell (i := 11) (Blk.touch (show Blk w6'.drew x 79 (ncs d (midG p v) { a with vg := w5.heap.size, FV := [w5.heap.size] }) from B6.out) hw' HX.out) rfl) rfl)
  refine Hs.take (v := .pointer (some ⟨x, 0, none⟩)) 4 27 rfl ?_ (fun _ _ => rfl)
  refine Hs.take (v := .pointer (some ⟨x, 0, none⟩)) 5 28 rfl ?_ (fun w' hw' => by go_simp; first | done | rfl | (simp; omega))
  refine Hs.take (v := .pointer (some ⟨x, 0, none⟩)) 6 29 rfl ?_ (fun w' hw' => by go_simp; first | done | rfl | (simp; omega))
  refine Hs.take (v := .int .i64 p.id) 7 30 rfl ?_ (fun w' hw' => by exact ldInt (Blk.cell (i := 0) (Blk.touch (show Blk w6'.drew x 79 (ncs d (midG p v) { a with vg := w5.heap.size, FV := [w5.heap.size] }) from B6.out) hw' HX.out) rfl) rfl)
  refine Hs.take (v := .pointer (some ⟨x, 0, none⟩)) 8 31 rfl ?_ (fun _ _ => rfl)
  refine Hs.take (v := .pointer (some ⟨x, 0, none⟩)) 9 32 rfl ?_ (fun w' hw' => by go_simp; first | done | rfl | (simp; omega))
  refine Hs.take (v := .pointer (some ⟨x, 7, none⟩)) 10 33 rfl ?_ (fun w' hw' => by go_simp; first | done | rfl | (simp; omega))
  refine Hs.take (v := .int .i64 p.last) 11 34 rfl ?_ (fun w' hw' => by exact ldI64 (Blk.cell (i := 7) (Blk.touch (show Blk w6'.drew x 79 (ncs d (midG p v) { a with vg := w5.heap.size, FV := [w5.heap.size] }) from B6.out) hw' HX.out) rfl) rfl)
  refine Hs.take (v := .pointer (some ⟨x, 0, none⟩)) 12 35 rfl ?_ (fun _ _ => rfl)
  refine Hs.take (v := .pointer (some ⟨x, 0, none⟩)) 13 36 rfl ?_ (fun w' hw' => by go_simp; first | done | rfl | (simp; omega))
  refine Hs.take (v := .pointer (some ⟨x, 9, none⟩)) 14 37 rfl ?_ (fun w' hw' => by go_simp; first | done | rfl | (simp; omega))
  refine Hs.take (v := .pointer (some ⟨a.lg, 0, none⟩)) 15 38 rfl ?_ (fun w' hw' => by exact ldLog (Blk.cell (i := 9) (Blk.touch (show Blk w6'.drew x 79 (ncs d (midG p v) { a with vg := w5.heap.size, FV := [w5.heap.size] }) from B6.out) hw' HX.out) rfl) rfl)
  refine Hs.take (v := .pointer (some ⟨x, 0, none⟩)) 17 40 rfl ?_ (fun _ _ => rfl)
  refine Hs.take (v := .pointer (some ⟨x, 0, none⟩)) 18 41 rfl ?_ (fun w' hw' => by go_simp; first | done | rfl | (simp; omega))
  refine Hs.take (v := .pointer (some ⟨x, 10, none⟩)) 19 42 rfl ?_ (fun w' hw' => by go_simp; first | done | rfl | (simp; omega))
  refine Hs.take (v := .int .i64 p.com) 20 43 rfl ?_ (fun w' hw' => by exact ldInt (Blk.cell (i := 10) (Blk.touch (show Blk w6'.drew x 79 (ncs d (midG p v) { a with vg := w5.heap.size, FV := [w5.heap.size] }) from B6.out) hw' HX.out) rfl) rfl)
  refine Hs.call (f := 38) (args := #[.pointer (some ⟨a.lg, 0, none⟩), .int .i64 0]) 16 39 rfl ?_ (run_callf Tryz.func38 (by kernel_rfl) (by kernel_rfl) (by simp only [List.map_toArray, List.map_cons, List.map_nil]; rfl))
  refine (From_all (show Lg w6'.drew a.lg a.FL p.L from L6.out.drew)).mono ?_
  rintro e w7 ⟨A, c, rfl, o7, b7⟩
  have S7 := Lib.hid (S6.out.drew.past b7)
  have O7 := Lib.hid o7.rd
  clear o7
  refine Hs.back (.of_below b7) ?_
  refine Hs.take (v := .agg #[.int .i64 p.id, .int .i64 p.last, .slice A p.L.length c, .int .i64 p.com]) 21 44 rfl ?_ (fun w' hw' => by go_simp; first | done | rfl | omega | exact wrap_in (by omega) (by omega) | exact Int.tmod_eq_emod_of_nonneg (by omega) | exact Int.tdiv_eq_ediv_of_nonneg (by omega) | (simp; omega))
  refine Hs.call (f := 94) (args := #[.pointer (some ⟨w5.heap.size, 0, none⟩), .agg #[.int .i64 p.id, .int .i64 p.last, .slice A p.L.length c, .int .i64 p.com]]) 22 45 rfl ?_ (run_callf Tryz.func94 (by kernel_rfl) (by kernel_rfl) (by simp only [List.map_toArray, List.map_cons, List.map_nil]; rfl))
  refine (vadd_c w7 w5.heap.size [w5.heap.size] v p.n PVote.none7 (S7.out.sep.get (i := 3) rfl) HN7.out ⟨p.id, p.last, p.L, p.com⟩ A c O7.out).mono ?_
  rintro e w8 ⟨rfl, ⟨F8, V8, hF8⟩, T8⟩
  have S8 := Lib.hid (S7.out.set 3 rfl (pV_ok p.n { a with vg := w5.heap.size, FV := F8 } (some (v, PVote.add v p.n PVote.none7 ⟨p.id, p.last, p.L, p.com⟩))) T8 V8 hF8)
  clear V8 hF8
  refine Hs.back T8 ?_
  refine Hs.done ?_
-- END
  have B8 : Blk w8 x 79 (ncs d (prpG p v) { a with vg := w5.heap.size, FV := F8 }) := S8.out.sep.get (i := 0) rfl
  have K8 : Vs w8 w5.heap.size F8 v p.n (ownG p v) := S8.out.sep.get (i := 3) rfl
  have h7 : n ≤ 7 := by have := HR.out.n.2; have := HNN.out; omega
  go_wp2_with fail
  refine (canvass_c (p := prpG p v) (a := { a with vg := w5.heap.size, FV := F8 }) B8 n HNN.out h7 rfl K8).mono ?_
  rintro e w9 ⟨A9, c9, rfl, M9, b9⟩
  have M9' := Lib.hid M9
  have S9 := Lib.hid (show St okN w2 w9 F2 (parts x d (prpG p v) { a with vg := w5.heap.size, FV := F8 }) from S8.out.past b9)
  clear B8 K8 M9 b9
  go_wp2_with fail
  go_ret
  refine ⟨v, A9, c9, rfl, HV.out, ?_, ?_⟩
  · exact M9'.out.down (Nat.le_trans HT2.out.size (S8.out.touch.size))
  · exact NdW.then HF2.out HT2.out (S9.out.shut (HR.out.prpG g1 g2))

/-- What a proposal leaves. -/
def cPropG (p : Np) (n : Nat) (Q : List Mp) (p' : Np) : Prop := ∃ v, IsNext p.id p.n (max p.pro p.den + 1) v ∧ Q = propsP (PVote.tm (ownG p v)) p.id p.boot v n ∧ p' = prpG p v
theorem prop_postG {w : World} {x d : Nat} {F : List Nat} {p : Np} (h : Nd w x d F p) (n : Nat) (hn : p.n = n) (h1 : p.pro ≤ 1000000) (h2 : p.den ≤ 1000000) :
    Calls Tryz.prog 68 #[.pointer (some ⟨x, 0, none⟩)] w (TickPost w x d F (cPropG p n)) :=
  (proposeG h n hn h1 h2).mono fun _ _ ⟨v, A, c, e1, e2, e3, e4⟩ => ⟨_, _, A, c, ⟨v, e2, rfl, rfl⟩, e1, e3.row, e4⟩
section
variable {w : World} {x d : Nat} {F : List Nat} {p : Np}
set_option maxHeartbeats 4000000 in
theorem gather_lateG (h : Nd w x d F p) (n : Nat) (hn : p.n = n) {v : Int} {V : List (Option Vt)} (hv : p.vo = some (v, V)) (hm : PTeam.most (PVote.tm V) p.n = false) (hd : p.den = 0) (hl : late p = true) (h1 : p.pro ≤ 1000000) :
    Calls Tryz.prog 64 #[.pointer (some ⟨x, 0, none⟩)] w (TickPost w x d F (cPropG p n)) := by
  obtain ⟨a, s0, hr⟩ := h.open
  have HH := Lib.hid h
  have HR := Lib.hid hr
  have B0 : Blk w x 79 (ncs d p a) := s0.sep.get (i := 0) rfl
  have V0 : Vs w a.vg a.FV v p.n V := by have : (pV p.n a p.vo).P w := s0.sep.get (i := 3) rfl; rw [hv] at this; exact this
  have c11 : w.cell? ⟨x, 11, none⟩ = some (.pointer (some ⟨a.vg, 0, none⟩)) := by have : w.cell? ⟨x, 11, none⟩ = some (ptO p.vo a.vg) := B0.cell rfl; rw [hv] at this; exact this
  have c12 : w.cell? ⟨x, 12, none⟩ = some (.int .i64 0) := by have : w.cell? ⟨x, 12, none⟩ = some (.int .i64 p.den) := B0.cell rfl; rw [hd] at this; exact this
  have h2 : p.den ≤ 1000000 := by omega
  have H2 := Lib.hid h2
  have BB := Lib.hid B0
  have VV := Lib.hid V0
  have HN := Lib.hid hn
  have HT := Lib.hid hl
  have HM := Lib.hid hm
  clear h hr s0 B0 V0 hn hv hm hl hd h2
  go_enter Tryz.func64, Tryz.ntmps64
  go_wp2_with fail
  refine (venough_c w a.vg a.FV v p.n V VV.out).mono ?_
  rw [HM.out]
  rintro e w1 ⟨rfl, b1⟩
  have B1 := Lib.hid (BB.out.past b1)
  have c12' := past_cell BB.out b1 c12
  have V1 := Lib.hid (VV.out.past b1)
  have N1 := Lib.hid (HH.out.past b1)
  have b1' := Lib.hid b1
  clear c11 c12 b1
  go_wp2_with fail
  refine (isLate_c B1.out HR.out).mono ?_
  rw [HT.out]
  rintro e w2 ⟨rfl, b2⟩
  have N2 := Lib.hid (N1.out.past b2)
  have b2' := Lib.hid (b1'.out.trans (b2.mono b1'.out.size))
  clear b2 c12'
  go_wp2_with fail
  refine (prop_postG N2.out n HN.out h1 H2.out).mono ?_
  rintro e w3 h3
  have P2 := h3.behind b2'.out
  clear h3
  obtain ⟨Q, p', A, c, q1, rfl, q3, q4⟩ := P2
  have Q1 := Lib.hid q1
  have Q3 := Lib.hid q3
  have Q4 := Lib.hid q4
  clear q1 q3 q4
  go_wp2_with fail
  go_ret
  exact ⟨Q, p', A, c, Q1.out, rfl, Q3.out, Q4.out⟩

end
end Go.Proofs.YtacipjdaiglnjaaGreatDoor

/- A process that decides: what it tells its quorum of itself (ackOwn), whatever its log is; how it adds an entry (add). -/
namespace Go.Proofs.YtacipjdaiglnjaaGreatDoor
open Go.RowKit PNode

theorem upd_zero {m : Nat} {P : List Int} {u id : Int} (hm : m < 128) (h : PQuo.Ok m P u) (hid : PTeam.has m id = true) : PQuo.upd P id 0 = P := by
  obtain ⟨a, b, c, d⟩ := PQuo.pl_in hm hid
  exact PQuo.upd_same hm h hid (h.lo _ (by omega))

set_option maxHeartbeats 4000000 in
theorem ackOwnL_c {w : World} {x d : Nat} {p : Np} {a : Na} {qg : Nat} {t : Te} {A : Option Addr} {c : Nat} (B : Blk w x 79 (ncs d { p with te := some t } a)) (T : Blk w a.tg 173 (tecs qg t A c)) (Q : Qs w qg p.n p.id t.m t.H t.P t.ql) (K : Qk p.n p.id t.m t.H t.P t.ql) (L : Lg w a.lg a.FL p.L) :
    Calls Tryz.prog 161 #[.pointer (some ⟨x, 0, none⟩)] w fun e w' => e = .returned (.tuple #[]) ∧ Qs w' qg p.n p.id t.m (PQuo.upd t.H p.id p.L.length) t.P t.ql ∧ Touch [qg] w w' := by
  have hx : x ∉ [qg] := by rw [List.mem_singleton]; exact Q.ne B (by decide)
  have hx2 : a.tg ∉ [qg] := by rw [List.mem_singleton]; exact Q.ne T (by decide)
  have HX := Lib.hid hx
  have HX2 := Lib.hid hx2
  have HB := Lib.hid B
  have HT := Lib.hid T
  have HQ := Lib.hid Q
  have HK := Lib.hid K
  have HL := Lib.hid L
  have HZ := Lib.hid (show (if (0 : Int) ≤ t.ql then PQuo.upd t.P p.id 0 else t.P) = t.P by
    rw [if_pos K.l0]
    exact upd_zero K.n.2.2 K.p K.me)
  clear B T Q K L hx hx2
  go_enter Tryz.func161, Tryz.ntmps161
  go_wp2_with fail
-- REGION (*curfew/node.Node).ackOwn 0 ngackown 2
  refine Hs.begin ([qg]) ?_
  refine Hs.take (v := .pointer (some ⟨x, 0, none⟩)) 0 2 rfl ?_ (fun _ _ => rfl)
  refine Hs.take (v := .pointer (some ⟨x, 0, none⟩)) 1 3 rfl ?_ (fun w' hw' => by go_simp; first | done | rfl | (simp; omega))
  refine Hs.take (v := .pointer (some ⟨x, 13, none⟩)) 2 4 rfl ?_ (fun w' hw' => by go_simp; first | done | rfl | (simp; omega))
  refine Hs.take (v := .pointer (some ⟨a.tg, 0, none⟩)) 3 5 rfl ?_ (fun w' hw' => by exact ldTerm (Blk.cell (i := 13) (Blk.touch (show Blk w.drew x 79 (ncs d { p with te := some t } a) from HB.out) hw' HX.out) rfl) rfl)
  refine Hs.take (v := .pointer (some ⟨a.tg, 0, none⟩)) 4 6 rfl ?_ (fun w' hw' => by go_simp; first | done | rfl | (simp; omega))
  refine Hs.take (v := .pointer (some ⟨a.tg, 0, none⟩)) 5 7 rfl ?_ (fun w' hw' => by go_simp; first | done | rfl | (simp; omega))
  refine Hs.take (v := .pointer (some ⟨qg, 0, none⟩)) 6 8 rfl ?_ (fun w' hw' => by exact ldQuo (Blk.cell (i := 0) (Blk.touch (show Blk w.drew a.tg 173 (tecs qg t A c) from HT.out) hw' HX2.out) rfl) rfl)
  refine Hs.take (v := .pointer (some ⟨x, 0, none⟩)) 7 9 rfl ?_ (fun _ _ => rfl)
  refine Hs.take (v := .pointer (some ⟨x, 0, none⟩)) 8 10 rfl ?_ (fun w' hw' => by go_simp; first | done | rfl | (simp; omega))
  refine Hs.take (v := .pointer (some ⟨x, 0, none⟩)) 9 11 rfl ?_ (fun w' hw' => by go_simp; first | done | rfl | (simp; omega))
  refine Hs.take (v := .int .i64 p.id) 10 12 rfl ?_ (fun w' hw' => by exact ldInt (Blk.cell (i := 0) (Blk.touch (show Blk w.drew x 79 (ncs d { p with te := some t } a) from HB.out) hw' HX.out) rfl) rfl)
  refine Hs.take (v := .pointer (some ⟨x, 0, none⟩)) 11 13 rfl ?_ (fun _ _ => rfl)
  refine Hs.take (v := .pointer (some ⟨x, 0, none⟩)) 12 14 rfl ?_ (fun w' hw' => by go_simp; first | done | rfl | (simp; omega))
  refine Hs.take (v := .pointer (some ⟨x, 9, none⟩)) 13 15 rfl ?_ (fun w' hw' => by go_simp; first | done | rfl | (simp; omega))
  refine Hs.take (v := .pointer (some ⟨a.lg, 0, none⟩)) 14 16 rfl ?_ (fun w' hw' => by exact ldLog (Blk.cell (i := 9) (Blk.touch (show Blk w.drew x 79 (ncs d { p with te := some t } a) from HB.out) hw' HX.out) rfl) rfl)
  refine Hs.call (f := 144) (args := #[.pointer (some ⟨a.lg, 0, none⟩)]) 15 17 rfl ?_ (run_callf Tryz.func144 (by kernel_rfl) (by kernel_rfl) (by simp only [List.map_toArray, List.map_cons, List.map_nil]; rfl))
  refine (Len_c w.drew a.lg a.FL p.L HL.out.drew).mono ?_
  rintro e w2 ⟨rfl, rfl⟩
  refine Hs.back (Touch.refl _ _) ?_
  refine Hs.call (f := 152) (args := #[.pointer (some ⟨qg, 0, none⟩), .int .i64 p.id, .int .i64 p.L.length, .int .i64 0]) 16 18 rfl ?_ (run_callf Tryz.func152 (by kernel_rfl) (by kernel_rfl) (by simp only [List.map_toArray, List.map_cons, List.map_nil]; rfl))
  refine (qack_yes w.drew qg p.n p.id t.m t.H t.P t.ql HQ.out HK.out p.id p.L.length 0 HK.out.me (by omega) (by have := HL.out.le; omega)).mono ?_
  rw [HZ.out]
  rintro e w3 ⟨rfl, Q3, T3⟩
  have Q3' := Lib.hid Q3
  have T3' := Lib.hid T3
  clear Q3
  refine Hs.back T3 ?_
  refine Hs.done ?_
-- END
  go_end0
  exact ⟨rfl, Q3'.out, (Touch.refl _ _).drew.trans T3'.out⟩

theorem ackOwn_c {w : World} {x d : Nat} {F : List Nat} {p : Np} {t : Te} (h : Nd w x d F { p with te := some t }) (K : Qk p.n p.id t.m t.H t.P t.ql) :
    Calls Tryz.prog 161 #[.pointer (some ⟨x, 0, none⟩)] w fun e w' => e = .returned (.tuple #[]) ∧ NdW w w' x d F { p with te := some { t with H := PQuo.upd t.H p.id p.L.length } } := by
  obtain ⟨a, s0, hr⟩ := h.open
  have hT : Tm w a.tg a.FT p.n p.id t := s0.sep.get (i := 4) rfl
  obtain ⟨qg, A, c, hB, hQ, hO, hF⟩ := hT
  refine (ackOwnL_c (p := p) (a := a) (s0.sep.get (i := 0) rfl) hB hQ K (s0.sep.get (i := 2) rfl)).mono ?_
  rintro e w' ⟨rfl, Q', T'⟩
  have hb : a.tg ∉ [qg] := by rw [List.mem_singleton]; exact hQ.ne hB (by decide)
  have ho : ∀ g ∈ [qg], bk A ≠ some g := fun g hg => by rw [List.mem_singleton.1 hg]; exact hO.ne hQ (by decide)
  have hS : St okN w w' F (parts x d { p with te := some { t with H := PQuo.upd t.H p.id p.L.length } } a) :=
    s0.set (q := pT p.n p.id a (some { t with H := PQuo.upd t.H p.id p.L.length })) 4 rfl (pT_ok p.n p.id a _) (T'.wide fun k hk => by rw [List.mem_singleton.1 hk]; show qg ∈ a.FT; rw [hF]; simp) ⟨qg, A, c, hB.touch T' hb, Q', hO.touch T' ho, hF⟩ (fun k hk => .inl hk)
  exact ⟨rfl, hS.shut ⟨hr.n, hr.id, hr.boot, hr.pro, hr.clock, hr.heard, hr.last, hr.mem, hr.com, hr.vo, hr.den, hr.pf, hr.seq⟩⟩

namespace PNode
/-- The last entry's stamp. -/
def stampL (L : List Ent) : Int := match L.getLast? with
  | none => 0
  | some e => e.stamp
/-- An entry as it is added. -/
def addE (p : Np) (e : Ent) : Ent := { e with stamp := max p.clock (stampL p.L) }
/-- Behind it. -/
def addP (p : Np) (t : Te) (e : Ent) : Np := { p with L := PLog.add p.L (addE p e), te := some { t with H := PQuo.upd t.H p.id (PLog.add p.L (addE p e)).length } }
end PNode
theorem At_last {w : World} {g : Nat} {F : List Nat} {L : List Ent} (h : Lg w g F L) :
    Calls Tryz.prog 162 #[.pointer (some ⟨g, 0, none⟩), .int .i64 L.length] w fun x w' => ∃ z b, x = .returned (.tuple #[ev z, .bool b]) ∧ z.stamp = stampL L ∧ Below w.heap.size w w' := by
  rcases List.eq_nil_or_concat L with rfl | ⟨l, e, rfl⟩
  · exact (At_out w g F [] h 0 (.inl (by omega))).mono fun r w' ⟨h1, h2⟩ => ⟨zeroE, false, h1, rfl, h2⟩
  · have hl : ((l.concat e).length : Int) = (l.length : Int) + 1 := by simp
    have he : (l.concat e)[l.length]? = some e := by simp
    rw [hl]
    exact (At_in w g F (l.concat e) h l.length e he).mono fun r w' ⟨h1, h2⟩ => ⟨e, true, h1, by simp [stampL], h2⟩

set_option maxHeartbeats 8000000 in
set_option maxRecDepth 100000 in
theorem add_c {w : World} {x d : Nat} {F : List Nat} {p : Np} {t : Te} (h : Nd w x d F { p with te := some t }) (K : Qk p.n p.id t.m t.H t.P t.ql) (e : Ent) :
    Calls Tryz.prog 110 #[.pointer (some ⟨x, 0, none⟩), ev e] w fun r w' => r = .returned (.tuple #[]) ∧ NdW w w' x d F (addP p t e) := by
  obtain ⟨a, s0, hr⟩ := h.open
  have HR := Lib.hid hr
  have HK := Lib.hid K
  have b0 := Lib.hid ((Below.refl w.heap.size w).alloc (Nat.le_refl _) (.cells #[.int .i64 e.fr, .int .i64 e.boot, .int .i64 e.seq, .int .i64 e.ord, .int .i64 e.lev, .int .i64 e.stamp, .string e.data] 93))
  have K1 := Lib.hid (Blk.newEnt w 93 e)
  have S1 := Lib.hid (s0.alloc (.cells #[.int .i64 e.fr, .int .i64 e.boot, .int .i64 e.seq, .int .i64 e.ord, .int .i64 e.lev, .int .i64 e.stamp, .string e.data] 93))
  have s0' := Lib.hid s0
  have HSN := Lib.hid (show w.heap.size ∉ a.FL from fun hm => by
    have := (show Lg w a.lg a.FL p.L from s0.sep.get (i := 2) rfl).hi _ hm
    omega)
  have B1 : Hid (Blk (w.alloc (.cells #[.int .i64 e.fr, .int .i64 e.boot, .int .i64 e.seq, .int .i64 e.ord, .int .i64 e.lev, .int .i64 e.stamp, .string e.data] 93)) x 79 (ncs d { p with te := some t } a)) := Lib.hid (S1.out.sep.get (i := 0) rfl)
  have L1 : Hid (Lg (w.alloc (.cells #[.int .i64 e.fr, .int .i64 e.boot, .int .i64 e.seq, .int .i64 e.ord, .int .i64 e.lev, .int .i64 e.stamp, .string e.data] 93)) a.lg a.FL p.L) := Lib.hid (S1.out.sep.get (i := 2) rfl)
  show Calls _ _ #[_, .agg #[.int .i64 e.fr, .int .i64 e.boot, .int .i64 e.seq, .int .i64 e.ord, .int .i64 e.lev, .int .i64 e.stamp, .string e.data]] _ _
  clear h hr s0 K
  go_enter Tryz.func110, Tryz.ntmps110
  go_wp2_with fail
  obtain ⟨s, hs⟩ : ∃ s, w.heap.size = s := ⟨_, rfl⟩
  rw [hs] at K1
  rw [hs]
  have HS := Lib.hid hs
  clear hs
  generalize w.alloc (.cells #[.int .i64 e.fr, .int .i64 e.boot, .int .i64 e.seq, .int .i64 e.ord, .int .i64 e.lev, .int .i64 e.stamp, .string e.data] 93) = w1 at *
  have c9 : w1.cell? ⟨x, 9, none⟩ = some (.pointer (some ⟨a.lg, 0, none⟩)) := B1.out.cell rfl
  have D1 := Lib.hid (show Blk w1.drew x 79 (ncs d { p with te := some t } a) from B1.out.drew)
  have LD := Lib.hid L1.out.drew
  have hx1 := Lib.hid B1.out.lt
  clear c9
  go_upto_region 1 with fail
  go_cut [4] from 5 to 18 (fun s4 wx => ∃ (g4 : Nat) (z : Ent), s4 = .pointer (some ⟨g4, 0, none⟩) ∧ Hid (Blk wx g4 93 (ecs z) ∧ z.stamp = stampL p.L) ∧ Hid (w1.heap.size ≤ g4 ∧ Below w1.heap.size w1 wx))
  case first =>
    refine Hb.beginB (B := w1.heap.size) ?_
    refine Hb.take (v := .pointer (some ⟨x, 0, none⟩)) 0 7 rfl ?_ (fun _ _ => rfl)
    refine Hb.take (v := .pointer (some ⟨x, 0, none⟩)) 1 8 rfl ?_ (fun w' hw' => by go_simp)
    refine Hb.take (v := .pointer (some ⟨x, 9, none⟩)) 2 9 rfl ?_ (fun w' hw' => by go_simp)
    refine Hb.take (v := .pointer (some ⟨a.lg, 0, none⟩)) 3 10 rfl ?_ (fun w' hw' => ldLog (Blk.cell (i := 9) (Blk.below D1.out hw' hx1.out) rfl) rfl)
    refine Hb.take (v := .pointer (some ⟨x, 0, none⟩)) 4 11 rfl ?_ (fun _ _ => rfl)
    refine Hb.take (v := .pointer (some ⟨x, 0, none⟩)) 5 12 rfl ?_ (fun w' hw' => by go_simp)
    refine Hb.take (v := .pointer (some ⟨x, 9, none⟩)) 6 13 rfl ?_ (fun w' hw' => by go_simp)
    refine Hb.take (v := .pointer (some ⟨a.lg, 0, none⟩)) 7 14 rfl ?_ (fun w' hw' => ldLog (Blk.cell (i := 9) (Blk.below D1.out hw' hx1.out) rfl) rfl)
    refine Hb.two 8 13 ?_ ?_
    · refine Hb.pickCall (f := 144) (args := #[.pointer (some ⟨a.lg, 0, none⟩)]) 8 15 rfl ?_ (run_callf Tryz.func144 (by kernel_rfl) (by kernel_rfl) (by simp only [List.map_toArray, List.map_cons, List.map_nil]; rfl))
      refine (Len_c w1.drew a.lg a.FL p.L LD.out).mono ?_
      rintro r w2 ⟨rfl, rfl⟩
      refine Hb.back (B' := w1.heap.size) (Below.refl _ _) (Nat.le_refl _) ?_
      refine Hb.two 9 13 ?_ ?_
      · refine Hb.pickCall (f := 162) (args := #[.pointer (some ⟨a.lg, 0, none⟩), .int .i64 p.L.length]) 9 16 rfl ?_ (run_callf Tryz.func162 (by kernel_rfl) (by kernel_rfl) (by simp only [List.map_toArray, List.map_cons, List.map_nil]; rfl))
        refine (At_last LD.out).mono ?_
        rintro r w5 ⟨z, b, rfl, hz, b5⟩
        refine Hb.back (B' := w1.heap.size) b5 (Nat.le_refl _) ?_
        refine Hb.take (v := .tuple #[ev z, .bool b]) 10 6 rfl ?_ (fun _ _ => rfl)
        refine Hb.take (v := ev z) 11 17 rfl ?_ (fun _ _ => rfl)
        refine Hb.take (v := .bool b) 12 18 rfl ?_ (fun _ _ => rfl)
        refine Hb.only 13 (some 4) rfl ?_
        refine wpList_runTo' rfl (.pointer (some ⟨w5.heap.size, 0, none⟩)) _ run_allocE ?_
        refine Hb.next (B' := w1.heap.size) ((Below.refl w1.heap.size w5).alloc b5.size _) (Nat.le_refl _) ?_
        have KZ := Blk.newEnt w5 93 zeroE
        refine Hb.only 14 none rfl ?_
        refine wpList_store_row rfl 93 (.tmp 4) (.tmp 17) rfl w5.heap.size _ rfl rfl _ _ KZ (by kernel_rfl) (by rfl) (by kernel_rfl) ?_
        refine Hb.next (B' := w1.heap.size) (grown_below (grown_row _ w5.heap.size _) b5.size (by simp; exact Nat.le_succ_of_le b5.size)) (Nat.le_refl _) ?_
        refine Hb.take (v := .bool b) 15 5 rfl ?_ (fun _ _ => rfl)
        refine Hb.done ?_
        go_wp2_with fail
        go_meet
        refine ⟨w5.heap.size, z, rfl, Lib.hid ⟨KZ.row (ecs z).toArray, hz⟩, Lib.hid ⟨b5.size, ?_⟩⟩
        exact (((Below.refl w1.heap.size w1).drew.trans b5).alloc b5.size _).trans (grown_below (grown_row _ w5.heap.size _) b5.size (by simp; exact Nat.le_succ_of_le b5.size))
      · refine Hb.pick 13 (some 4) rfl ?_
        refine wpList_runTo' rfl (.pointer (some ⟨w1.heap.size, 0, none⟩)) (w1.drew.alloc (.cells #[.int .i64 0, .int .i64 0, .int .i64 0, .int .i64 0, .int .i64 0, .int .i64 0, .string ⟨#[]⟩] 93)) run_allocE ?_
        refine Hb.next (B' := w1.heap.size) ((Below.refl w1.heap.size w1.drew).alloc (Nat.le_refl _) _) (Nat.le_refl _) ?_
        have LX := Lib.hid (LD.out.alloc (.cells #[.int .i64 0, .int .i64 0, .int .i64 0, .int .i64 0, .int .i64 0, .int .i64 0, .string ⟨#[]⟩] 93))
        refine Hb.call (f := 162) (args := #[.pointer (some ⟨a.lg, 0, none⟩), .int .i64 p.L.length]) 9 16 rfl ?_ (run_callf Tryz.func162 (by kernel_rfl) (by kernel_rfl) (by simp only [List.map_toArray, List.map_cons, List.map_nil]; rfl))
        refine (At_last LX.out).mono ?_
        rintro r w5 ⟨z, b, rfl, hz, b5⟩
        have bz := Lib.hid (show Below w1.heap.size w1.drew w5 from ((Below.refl w1.heap.size w1.drew).alloc (Nat.le_refl _) (.cells #[.int .i64 0, .int .i64 0, .int .i64 0, .int .i64 0, .int .i64 0, .int .i64 0, .string ⟨#[]⟩] 93)).trans (b5.mono (by simp)))
        refine Hb.back (B' := w1.heap.size) (b5.mono (by simp)) (Nat.le_refl _) ?_
        refine Hb.take (v := .tuple #[ev z, .bool b]) 10 6 rfl ?_ (fun _ _ => rfl)
        refine Hb.take (v := ev z) 11 17 rfl ?_ (fun _ _ => rfl)
        refine Hb.take (v := .bool b) 12 18 rfl ?_ (fun _ _ => rfl)
        have KZ := (Blk.newEnt w1.drew 93 zeroE).past b5
        refine Hb.only 14 none rfl ?_
        refine wpList_store_row rfl 93 (.tmp 4) (.tmp 17) rfl w1.heap.size _ rfl rfl _ _ KZ (by kernel_rfl) (by rfl) (by kernel_rfl) ?_
        refine Hb.next (B' := w1.heap.size) (grown_below (grown_row w5 w1.heap.size _) (Nat.le_refl _) bz.out.size) (Nat.le_refl _) ?_
        refine Hb.take (v := .bool b) 15 5 rfl ?_ (fun _ _ => rfl)
        refine Hb.done ?_
        go_wp2_with fail
        go_meet
        refine ⟨w1.heap.size, z, rfl, Lib.hid ⟨KZ.row (ecs z).toArray, hz⟩, Lib.hid ⟨Nat.le_refl _, ?_⟩⟩
        exact (((Below.refl w1.heap.size w1).drew.trans bz.out)).trans (grown_below (grown_row w5 w1.heap.size _) (Nat.le_refl _) bz.out.size)
    · refine Hb.pick 13 (some 4) rfl ?_
      refine wpList_runTo' rfl (.pointer (some ⟨w1.heap.size, 0, none⟩)) (w1.drew.alloc (.cells #[.int .i64 0, .int .i64 0, .int .i64 0, .int .i64 0, .int .i64 0, .int .i64 0, .string ⟨#[]⟩] 93)) run_allocE ?_
      refine Hb.next (B' := w1.heap.size) ((Below.refl w1.heap.size w1.drew).alloc (Nat.le_refl _) _) (Nat.le_refl _) ?_
      have LX := Lib.hid (LD.out.alloc (.cells #[.int .i64 0, .int .i64 0, .int .i64 0, .int .i64 0, .int .i64 0, .int .i64 0, .string ⟨#[]⟩] 93))
      refine Hb.call (f := 144) (args := #[.pointer (some ⟨a.lg, 0, none⟩)]) 8 15 rfl ?_ (run_callf Tryz.func144 (by kernel_rfl) (by kernel_rfl) (by simp only [List.map_toArray, List.map_cons, List.map_nil]; rfl))
      refine (Len_c (w1.drew.alloc (.cells #[.int .i64 0, .int .i64 0, .int .i64 0, .int .i64 0, .int .i64 0, .int .i64 0, .string ⟨#[]⟩] 93)) a.lg a.FL p.L LX.out).mono ?_
      rintro r w2 ⟨rfl, rfl⟩
      refine Hb.back (B' := w1.heap.size) (Below.refl _ _) (Nat.le_refl _) ?_
      refine Hb.call (f := 162) (args := #[.pointer (some ⟨a.lg, 0, none⟩), .int .i64 p.L.length]) 9 16 rfl ?_ (run_callf Tryz.func162 (by kernel_rfl) (by kernel_rfl) (by simp only [List.map_toArray, List.map_cons, List.map_nil]; rfl))
      refine (At_last LX.out).mono ?_
      rintro r w5 ⟨z, b, rfl, hz, b5⟩
      have bz := Lib.hid (show Below w1.heap.size w1.drew w5 from ((Below.refl w1.heap.size w1.drew).alloc (Nat.le_refl _) (.cells #[.int .i64 0, .int .i64 0, .int .i64 0, .int .i64 0, .int .i64 0, .int .i64 0, .string ⟨#[]⟩] 93)).trans (b5.mono (by simp)))
      refine Hb.back (B' := w1.heap.size) (b5.mono (by simp)) (Nat.le_refl _) ?_
      refine Hb.take (v := .tuple #[ev z, .bool b]) 10 6 rfl ?_ (fun _ _ => rfl)
      refine Hb.take (v := ev z) 11 17 rfl ?_ (fun _ _ => rfl)
      refine Hb.take (v := .bool b) 12 18 rfl ?_ (fun _ _ => rfl)
      have KZ := (Blk.newEnt w1.drew 93 zeroE).past b5
      refine Hb.only 14 none rfl ?_
      refine wpList_store_row rfl 93 (.tmp 4) (.tmp 17) rfl w1.heap.size _ rfl rfl _ _ KZ (by kernel_rfl) (by rfl) (by kernel_rfl) ?_
      refine Hb.next (B' := w1.heap.size) (grown_below (grown_row w5 w1.heap.size _) (Nat.le_refl _) bz.out.size) (Nat.le_refl _) ?_
      refine Hb.take (v := .bool b) 15 5 rfl ?_ (fun _ _ => rfl)
      refine Hb.done ?_
      go_wp2_with fail
      go_meet
      refine ⟨w1.heap.size, z, rfl, Lib.hid ⟨KZ.row (ecs z).toArray, hz⟩, Lib.hid ⟨Nat.le_refl _, ?_⟩⟩
      exact (((Below.refl w1.heap.size w1).drew.trans bz.out)).trans (grown_below (grown_row w5 w1.heap.size _) (Nat.le_refl _) bz.out.size)
  case rest =>
    obtain ⟨g4, z, rfl, HZ, HB4⟩ := hcut
    have K1c := Lib.hid (K1.out.past HB4.out.2)
    have S1c := Lib.hid (S1.out.past HB4.out.2)
    have B1c : Hid (Blk wc x 79 (ncs d { p with te := some t } a)) := Lib.hid (S1c.out.sep.get (i := 0) rfl)
    have bc0 := Lib.hid (b0.out.trans (HB4.out.2.mono b0.out.size))
    obtain ⟨st, hst⟩ : ∃ st, stampL p.L = st := ⟨_, rfl⟩
    have c4 : wc.cell? ⟨x, 4, none⟩ = some (.int .i64 p.clock) := B1c.out.cell rfl
    have kz : wc.cell? ⟨g4, 5, none⟩ = some (.int .i64 st) := by
      have := HZ.out.1.cell (i := 5) (u := .int .i64 z.stamp) rfl
      rw [HZ.out.2, hst] at this
      exact this
    have k5 : wc.cell? ⟨s, 5, none⟩ = some (.int .i64 e.stamp) := K1c.out.cell rfl
    have f5 := K1c.out.free 5
    have hsx : s ≠ x := K1c.out.ne B1c.out (by decide)
    have hxs : x ≠ s := fun h => hsx h.symm
    have hs1 := K1.out.lt
    have hg4 := HB4.out.1
    have hsg : s ≠ g4 := by omega
    have hgs : g4 ≠ s := by omega
    have HST := Lib.hid hst
    clear hst hs1 hg4 D1 LD S1 B1 L1 K1
    go_wp2_with fail
    go_big_region
    have HE := Lib.hid (show ecs (addE p e) = (ecs e).set 5 (.int .i64 (max p.clock st)) by unfold addE; rw [HST.out]; rfl)
    have K2 := Lib.hid (show Blk (wc.setCell ⟨s, 5, none⟩ (.int .i64 (max p.clock st))).drew s 93 (ecs (addE p e)) by rw [HE.out]; exact (K1c.out.set 5 _).drew)
    have T2 := Lib.hid (show Touch [s] wc (wc.setCell ⟨s, 5, none⟩ (.int .i64 (max p.clock st))).drew from ((Touch.refl [s] wc).cell (g := s) (by simp) 5 _).drew)
    have S2 : Hid (St okN w (wc.setCell ⟨s, 5, none⟩ (.int .i64 (max p.clock st))).drew F (parts x d { p with te := some t } a)) := Lib.hid (by
      have hb : Below w.heap.size w (wc.setCell ⟨s, 5, none⟩ (.int .i64 (max p.clock st))).drew := T2.out.below (by intro k hk; rw [List.mem_singleton.1 hk, ← HS.out]; exact Nat.le_refl _) bc0.out.size |> bc0.out.trans
      exact s0'.out.past hb)
    clear c4 kz k5 f5 K1c S1c B1c T2
    generalize (wc.setCell ⟨s, 5, none⟩ (.int .i64 (max p.clock st))).drew = w2 at *
    have B2 : Hid (Blk w2 x 79 (ncs d { p with te := some t } a)) := Lib.hid (S2.out.sep.get (i := 0) rfl)
    have L2 : Hid (Lg w2.drew a.lg a.FL p.L) := Lib.hid (Lg.drew (show Lg w2 a.lg a.FL p.L from S2.out.sep.get (i := 2) rfl))
    have HX2 : Hid (x ∉ a.FL) := Lib.hid (S2.out.sep.two (i := 0) (j := 2) (by omega) rfl rfl x (by simp [pX]))
    have HS2 : Hid (s ∉ a.FL) := Lib.hid (fun hm => by
      exact HSN.out (by rw [HS.out]; exact hm))
    go_wp2_with fail
-- REGION (*curfew/node.Node).add 3 ngadd3 4
    refine Hs.begin (a.FL) ?_
    refine Hs.take (v := .pointer (some ⟨x, 0, none⟩)) 0 27 rfl ?_ (fun _ _ => rfl)
    refine Hs.take (v := .pointer (some ⟨x, 0, none⟩)) 1 28 rfl ?_ (fun w' hw' => by go_simp; first | done | rfl | (simp; omega))
    refine Hs.take (v := .pointer (some ⟨x, 9, none⟩)) 2 29 rfl ?_ (fun w' hw' => by go_simp; first | done | rfl | (simp; omega))
    refine Hs.take (v := .pointer (some ⟨a.lg, 0, none⟩)) 3 30 rfl ?_ (fun w' hw' => by exact ldLog (Blk.cell (i := 9) (Blk.touch (show Blk w2.drew x 79 (ncs d { p with te := some t } a) from B2.out.drew) hw' HX2.out) rfl) rfl)
    refine Hs.take (v := ev (addE p e)) 4 31 rfl ?_ (fun w' hw' => by exact run_loadE (e := addE p e) (Blk.range (Blk.touch (show Blk w2.drew s 93 (ecs (addE p e)) from K2.out.drew) hw' HS2.out)) rfl)
    refine Hs.call (f := 85) (args := #[.pointer (some ⟨a.lg, 0, none⟩), ev (addE p e)]) 5 32 rfl ?_ (run_callf Tryz.func85 (by kernel_rfl) (by kernel_rfl) (by simp only [List.map_toArray, List.map_cons, List.map_nil]; rfl))
    refine (Add_c w2.drew a.lg a.FL p.L L2.out (addE p e)).mono ?_
    rintro r w3 ⟨rfl, ⟨FL3, l3, hFL3⟩, T3⟩
    have S3 := Lib.hid (S2.out.drew.set (q := pL { p with L := PLog.add p.L (addE p e) } { a with FL := FL3 }) 2 rfl (pL_ok { p with L := PLog.add p.L (addE p e) } { a with FL := FL3 }) T3 l3 hFL3)
    clear l3 hFL3
    refine Hs.back T3 ?_
    refine Hs.done ?_
-- END
    have hr3 : Nr { p with L := PLog.add p.L (addE p e), te := some t } := ⟨HR.out.n, HR.out.id, HR.out.boot, HR.out.pro, HR.out.clock, HR.out.heard, HR.out.last, HR.out.mem, ⟨HR.out.com.1, Int.le_trans HR.out.com.2 (by show (p.L.length : Int) ≤ (PLog.add p.L (addE p e)).length; unfold PLog.add; split <;> simp <;> omega)⟩, HR.out.vo, HR.out.den, HR.out.pf, HR.out.seq⟩
    have W3 := Lib.hid ((show St okN w w3 F (parts x d { p with L := PLog.add p.L (addE p e), te := some t } { a with FL := FL3 }) from S3.out).shut hr3)
    clear hr3
    obtain ⟨⟨F3, n3, hF3⟩, t3⟩ := W3.out
    have HF3 := Lib.hid hF3
    have HT3 := Lib.hid t3
    have N3 := Lib.hid n3
    clear n3 hF3 t3 T3
    go_wp2_with fail
    refine (ackOwn_c (p := { p with L := PLog.add p.L (addE p e) }) N3.out HK.out).mono ?_
    rintro r w4 ⟨rfl, W4⟩
    have W5 := Lib.hid (NdW.then HF3.out HT3.out W4)
    clear W4
    go_wp2_with fail
    go_end0
    exact ⟨rfl, W5.out⟩
end Go.Proofs.YtacipjdaiglnjaaGreatDoor

/- What a process that decides says (installMsg, appendMsg), whatever its log is; whether someone is silent (isSomeSilent). -/
namespace Go.Proofs.YtacipjdaiglnjaaGreatDoor
open Go.RowKit PNode

namespace PNode
/-- The entries from a place on; none if the log is shorter. -/
def appEs (L : List Ent) (k : Int) : List Ent := if k ≤ L.length then L.drop k.toNat else []
def instMG (p : Np) : Msg := ⟨4, 0, 0, 0, p.last, 0, p.mem, 0, p.L, p.com, 0, 0, false⟩
def haveT (t : Te) (dst : Int) : Int := t.H.getD (PQuo.pl dst) 0
def appMA (p : Np) (k probe : Int) : Msg := ⟨5, 0, 0, 0, p.last, 0, 0, k, appEs p.L k, p.com, probe, p.clock, false⟩
def appM (p : Np) (t : Te) (dst probe : Int) : Msg := appMA p (haveT t dst) probe
/-- It was silent for fourteen ticks or more. -/
def silent1 (p : Np) (t : Te) (id : Int) : Bool := decide (14 ≤ p.clock - t.word.getD (id - 1).toNat 0)
def silent (p : Np) (t : Te) : Bool := (PTeam.lst (PTeam.wout p.mem p.id)).any (silent1 p t)
end PNode
theorem From_any {w : World} {g : Nat} {F : List Nat} {L : List Ent} (h : Lg w g F L) {k : Int} (h0 : 0 ≤ k) :
    Calls Tryz.prog 38 #[.pointer (some ⟨g, 0, none⟩), .int .i64 k] w fun x w' => ∃ A' c', x = .returned (.slice A' (appEs L k).length c') ∧ Ow w' w.heap.size 93 7 A' (appEs L k).length c' (els (appEs L k)) ∧ Below w.heap.size w w' := by
  unfold appEs
  by_cases hk : k ≤ L.length
  · rw [if_pos hk]
    obtain ⟨m, rfl⟩ : ∃ m : Nat, k = (m : Int) := ⟨k.toNat, by omega⟩
    have := From_in w g F L h m (by omega)
    rw [Int.toNat_natCast, List.length_drop]
    exact this.mono fun e w' ⟨A, c, h1, h2, h3⟩ => ⟨A, c, h1, Ow.of_own h2, h3⟩
  · rw [if_neg hk]
    exact (From_out w g F L h k (.inr (by omega))).mono fun e w' hh => (by obtain ⟨h1, rfl⟩ := hh; exact ⟨none, 0, h1, Ow.nil _ _ _ _, Below.refl _ _⟩)

set_option maxHeartbeats 4000000 in
set_option maxRecDepth 100000 in
theorem installMsgG {w : World} {x d : Nat} {p : Np} {a : Na} (B : Blk w x 79 (ncs d p a)) (L : Lg w a.lg a.FL p.L) (dst : Int) :
    Calls Tryz.prog 117 #[.pointer (some ⟨x, 0, none⟩), .int .i64 dst] w fun e w' => ∃ A c, e = .returned (mv (sends p dst (instMG p)) A c) ∧ Ow w' w.heap.size 93 7 A p.L.length c (els p.L) ∧ Below w.heap.size w w' := by
  have HLT := Lib.hid B.lt
  have HB : Hid (Blk (w.alloc (.cells #[.int .i64 0, .int .i64 0, .int .i64 0, .int .i64 0, .int .i64 0, .int .i64 0, .int .i64 0, .int .i64 0, .slice none 0 0, .int .i64 0, .int .i64 0, .int .i64 0, .bool false] 31)) x 79 (ncs d p a)) := Lib.hid (B.alloc _)
  have HL : Hid (Lg (w.alloc (.cells #[.int .i64 0, .int .i64 0, .int .i64 0, .int .i64 0, .int .i64 0, .int .i64 0, .int .i64 0, .int .i64 0, .slice none 0 0, .int .i64 0, .int .i64 0, .int .i64 0, .bool false] 31)) a.lg a.FL p.L) := Lib.hid (L.alloc _)
  have K0 : Hid (Blk (w.alloc (.cells #[.int .i64 0, .int .i64 0, .int .i64 0, .int .i64 0, .int .i64 0, .int .i64 0, .int .i64 0, .int .i64 0, .slice none 0 0, .int .i64 0, .int .i64 0, .int .i64 0, .bool false] 31)).drew w.heap.size 31 _) := Lib.hid (Blk.new w #[.int .i64 0, .int .i64 0, .int .i64 0, .int .i64 0, .int .i64 0, .int .i64 0, .int .i64 0, .int .i64 0, .slice none 0 0, .int .i64 0, .int .i64 0, .int .i64 0, .bool false] 31)
  have b0 := Lib.hid ((Below.refl w.heap.size w).alloc (Nat.le_refl _) (.cells #[.int .i64 0, .int .i64 0, .int .i64 0, .int .i64 0, .int .i64 0, .int .i64 0, .int .i64 0, .int .i64 0, .slice none 0 0, .int .i64 0, .int .i64 0, .int .i64 0, .bool false] 31))
  clear B L
  go_enter Tryz.func117, Tryz.ntmps117
  go_wp2_with fail
  generalize w.alloc (.cells #[.int .i64 0, .int .i64 0, .int .i64 0, .int .i64 0, .int .i64 0, .int .i64 0, .int .i64 0, .int .i64 0, .slice none 0 0, .int .i64 0, .int .i64 0, .int .i64 0, .bool false] 31) = W at *
-- REGION (*curfew/node.Node).installMsg 1 nginstmsg 2
  refine Hb.beginB (B := w.heap.size) ?_
  refine Hb.take (v := .pointer (some ⟨x, 0, none⟩)) 0 5 rfl ?_ (fun _ _ => rfl)
  refine Hb.take (v := .int .i64 dst) 1 6 rfl ?_ (fun _ _ => rfl)
  refine Hb.take (v := .pointer (some ⟨x, 0, none⟩)) 2 7 rfl ?_ (fun _ _ => rfl)
  refine Hb.take (v := .pointer (some ⟨x, 0, none⟩)) 3 8 rfl ?_ (fun w' hw' => by go_simp; first | done | rfl | (simp; omega))
  refine Hb.take (v := .pointer (some ⟨x, 7, none⟩)) 4 9 rfl ?_ (fun w' hw' => by go_simp; first | done | rfl | (simp; omega))
  refine Hb.take (v := .int .i64 p.last) 5 10 rfl ?_ (fun w' hw' => by exact ldI64 (Blk.cell (i := 7) (Blk.below (show Blk W.drew x 79 (ncs d p a) from HB.out) hw' HLT.out) rfl) rfl)
  refine Hb.take (v := .pointer (some ⟨x, 0, none⟩)) 6 11 rfl ?_ (fun _ _ => rfl)
  refine Hb.take (v := .pointer (some ⟨x, 0, none⟩)) 7 12 rfl ?_ (fun w' hw' => by go_simp; first | done | rfl | (simp; omega))
  refine Hb.take (v := .pointer (some ⟨x, 8, none⟩)) 8 13 rfl ?_ (fun w' hw' => by go_simp; first | done | rfl | (simp; omega))
  refine Hb.take (v := .int .i64 p.mem) 9 14 rfl ?_ (fun w' hw' => by exact ldTeam (Blk.cell (i := 8) (Blk.below (show Blk W.drew x 79 (ncs d p a) from HB.out) hw' HLT.out) rfl) rfl)
  refine Hb.take (v := .pointer (some ⟨x, 0, none⟩)) 10 15 rfl ?_ (fun _ _ => rfl)
  refine Hb.take (v := .pointer (some ⟨x, 0, none⟩)) 11 16 rfl ?_ (fun w' hw' => by go_simp; first | done | rfl | (simp; omega))
  refine Hb.take (v := .pointer (some ⟨x, 9, none⟩)) 12 17 rfl ?_ (fun w' hw' => by go_simp; first | done | rfl | (simp; omega))
  refine Hb.take (v := .pointer (some ⟨a.lg, 0, none⟩)) 13 18 rfl ?_ (fun w' hw' => by exact ldLog (Blk.cell (i := 9) (Blk.below (show Blk W.drew x 79 (ncs d p a) from HB.out) hw' HLT.out) rfl) rfl)
  refine Hb.take (v := .pointer (some ⟨x, 0, none⟩)) 15 20 rfl ?_ (fun _ _ => rfl)
  refine Hb.take (v := .pointer (some ⟨x, 0, none⟩)) 16 21 rfl ?_ (fun w' hw' => by go_simp; first | done | rfl | (simp; omega))
  refine Hb.take (v := .pointer (some ⟨x, 10, none⟩)) 17 22 rfl ?_ (fun w' hw' => by go_simp; first | done | rfl | (simp; omega))
  refine Hb.take (v := .int .i64 p.com) 18 23 rfl ?_ (fun w' hw' => by exact ldInt (Blk.cell (i := 10) (Blk.below (show Blk W.drew x 79 (ncs d p a) from HB.out) hw' HLT.out) rfl) rfl)
  refine Hb.call (f := 38) (args := #[.pointer (some ⟨a.lg, 0, none⟩), .int .i64 0]) 14 19 rfl ?_ (run_callf Tryz.func38 (by kernel_rfl) (by kernel_rfl) (by simp only [List.map_toArray, List.map_cons, List.map_nil]; rfl))
  refine (From_all (show Lg W.drew a.lg a.FL p.L from HL.out.drew)).mono ?_
  rintro e w7 ⟨A7, c7, rfl, o7, b7⟩
  have B7 := Lib.hid (Blk.past (show Blk W.drew x 79 (ncs d p a) from HB.out) b7)
  have K7 := Lib.hid (K0.out.past b7)
  have b7' := Lib.hid (b0.out.drew.trans (b7.mono b0.out.size))
  have O7 := Lib.hid (o7.down b0.out.size)
  clear o7
  refine Hb.back (B' := w.heap.size) (b7.mono b0.out.size) (Nat.le_refl _) ?_
  refine Hb.take (v := .agg #[.int .i64 4, .int .i64 0, .int .i64 0, .int .i64 0, .int .i64 p.last, .int .i64 0, .int .i64 p.mem, .int .i64 0, .slice A7 p.L.length c7, .int .i64 p.com, .int .i64 0, .int .i64 0, .bool false]) 19 24 rfl ?_ (fun w' hw' => by go_simp; first | done | rfl | omega | exact wrap_in (by omega) (by omega) | exact Int.tmod_eq_emod_of_nonneg (by omega) | exact Int.tdiv_eq_ediv_of_nonneg (by omega) | (simp; omega))
  refine Hb.call (f := 122) (args := #[.pointer (some ⟨x, 0, none⟩), .int .i64 dst, .agg #[.int .i64 4, .int .i64 0, .int .i64 0, .int .i64 0, .int .i64 p.last, .int .i64 0, .int .i64 p.mem, .int .i64 0, .slice A7 p.L.length c7, .int .i64 p.com, .int .i64 0, .int .i64 0, .bool false]]) 20 25 rfl ?_ (run_callf Tryz.func122 (by kernel_rfl) (by kernel_rfl) (by simp only [List.map_toArray, List.map_cons, List.map_nil]; rfl))
  refine (to_c B7.out dst (instMG p) A7 c7).mono ?_
  rintro e w8 ⟨rfl, b8⟩
  have K8 := Lib.hid (K7.out.past b8)
  have O8 := Lib.hid (O7.out.past b8)
  have b8' := Lib.hid (b7'.out.trans (b8.mono b7'.out.size))
  refine Hb.back (B' := w.heap.size) (b8.mono b7'.out.size) (Nat.le_refl _) ?_
  refine Hb.only 21 none rfl ?_
  refine wpList_store_row rfl 31 (.tmp 4) (.tmp 25) rfl w.heap.size _ rfl rfl _ _ K8.out (by kernel_rfl) (by rfl) (by kernel_rfl) ?_
  refine Hb.next (B' := w.heap.size) (grown_below (grown_row w8 w.heap.size _) (Nat.le_refl _) (b8'.out.size)) (Nat.le_refl _) ?_
  refine Hb.done ?_
-- END
  go_wp2_with fail
  have K9 := K8.out.row (mcs (sends p dst (instMG p)) A7 c7).toArray
  have O9 := O8.out.touch (Touch.of_grown (grown_row w8 w.heap.size (mcs (sends p dst (instMG p)) A7 c7).toArray)) (fun g hg => by rw [List.mem_singleton.1 hg]; exact O8.out.ne K8.out (by decide))
  refine bodyPost_ret (v := mv (sends p dst (instMG p)) A7 c7) (results_cell_row rfl _ _ w.heap.size _ _ _ _ rfl K9 Tryz.underlying31 rfl (by kernel_rfl)) rfl ⟨A7, c7, rfl, O9, ?_⟩
  exact b8'.out.trans (grown_below (grown_row w8 w.heap.size _) (Nat.le_refl _) b8'.out.size)

set_option maxHeartbeats 4000000 in
set_option maxRecDepth 100000 in
theorem appendMsgA {w : World} {x d : Nat} {p : Np} {a : Na} {qg : Nat} {t : Te} {A : Option Addr} {c : Nat} (B : Blk w x 79 (ncs d { p with te := some t } a)) (T : Blk w a.tg 173 (tecs qg t A c)) (Q : Qs w qg p.n p.id t.m t.H t.P t.ql) (K : Qk p.n p.id t.m t.H t.P t.ql) (L : Lg w a.lg a.FL p.L) (dst probe : Int) (hd : PTeam.has t.m dst = true) (at_ : Int) (hat : t.H.getD (PQuo.pl dst) 0 = at_) :
    Calls Tryz.prog 116 #[.pointer (some ⟨x, 0, none⟩), .int .i64 dst, .int .i64 probe] w fun e w' => ∃ A c, e = .returned (mv (sends p dst (appMA p at_ probe)) A c) ∧ Ow w' w.heap.size 93 7 A (appEs p.L at_).length c (els (appEs p.L at_)) ∧ Below w.heap.size w w' := by
  have HLT := Lib.hid B.lt
  have HB : Hid (Blk (w.alloc (.cells #[.int .i64 0, .int .i64 0, .int .i64 0, .int .i64 0, .int .i64 0, .int .i64 0, .int .i64 0, .int .i64 0, .slice none 0 0, .int .i64 0, .int .i64 0, .int .i64 0, .bool false] 31)) x 79 (ncs d { p with te := some t } a)) := Lib.hid (B.alloc _)
  have HT : Hid (Blk (w.alloc (.cells #[.int .i64 0, .int .i64 0, .int .i64 0, .int .i64 0, .int .i64 0, .int .i64 0, .int .i64 0, .int .i64 0, .slice none 0 0, .int .i64 0, .int .i64 0, .int .i64 0, .bool false] 31)) a.tg 173 (tecs qg t A c)) := Lib.hid (T.alloc _)
  have HQ : Hid (Qs (w.alloc (.cells #[.int .i64 0, .int .i64 0, .int .i64 0, .int .i64 0, .int .i64 0, .int .i64 0, .int .i64 0, .int .i64 0, .slice none 0 0, .int .i64 0, .int .i64 0, .int .i64 0, .bool false] 31)) qg p.n p.id t.m t.H t.P t.ql) := Lib.hid (Q.past ((Below.refl _ _).alloc (Nat.le_refl _) _))
  have HL : Hid (Lg (w.alloc (.cells #[.int .i64 0, .int .i64 0, .int .i64 0, .int .i64 0, .int .i64 0, .int .i64 0, .int .i64 0, .int .i64 0, .slice none 0 0, .int .i64 0, .int .i64 0, .int .i64 0, .bool false] 31)) a.lg a.FL p.L) := Lib.hid (L.alloc _)
  have K0 : Hid (Blk (w.alloc (.cells #[.int .i64 0, .int .i64 0, .int .i64 0, .int .i64 0, .int .i64 0, .int .i64 0, .int .i64 0, .int .i64 0, .slice none 0 0, .int .i64 0, .int .i64 0, .int .i64 0, .bool false] 31)).drew w.heap.size 31 _) := Lib.hid (Blk.new w #[.int .i64 0, .int .i64 0, .int .i64 0, .int .i64 0, .int .i64 0, .int .i64 0, .int .i64 0, .int .i64 0, .slice none 0 0, .int .i64 0, .int .i64 0, .int .i64 0, .bool false] 31)
  have b0 := Lib.hid ((Below.refl w.heap.size w).alloc (Nat.le_refl _) (.cells #[.int .i64 0, .int .i64 0, .int .i64 0, .int .i64 0, .int .i64 0, .int .i64 0, .int .i64 0, .int .i64 0, .slice none 0 0, .int .i64 0, .int .i64 0, .int .i64 0, .bool false] 31))
  have HK := Lib.hid K
  have HD := Lib.hid hd
  have h0 : 0 ≤ at_ := by
    rw [← hat]
    obtain ⟨_, _, c1, _⟩ := PQuo.pl_in K.n.2.2 hd
    exact K.h.lo _ (by omega)
  have H0 := Lib.hid h0
  have HAT := Lib.hid hat
  clear B T Q L K hd h0 hat
  go_enter Tryz.func116, Tryz.ntmps116
  have c13 : (w.alloc (.cells #[.int .i64 0, .int .i64 0, .int .i64 0, .int .i64 0, .int .i64 0, .int .i64 0, .int .i64 0, .int .i64 0, .slice none 0 0, .int .i64 0, .int .i64 0, .int .i64 0, .bool false] 31)).cell? ⟨x, 13, none⟩ = some (.pointer (some ⟨a.tg, 0, none⟩)) := HB.out.cell rfl
  have c0 : (w.alloc (.cells #[.int .i64 0, .int .i64 0, .int .i64 0, .int .i64 0, .int .i64 0, .int .i64 0, .int .i64 0, .int .i64 0, .slice none 0 0, .int .i64 0, .int .i64 0, .int .i64 0, .bool false] 31)).cell? ⟨a.tg, 0, none⟩ = some (.pointer (some ⟨qg, 0, none⟩)) := HT.out.cell rfl
  go_wp2_with fail
  generalize w.alloc (.cells #[.int .i64 0, .int .i64 0, .int .i64 0, .int .i64 0, .int .i64 0, .int .i64 0, .int .i64 0, .int .i64 0, .slice none 0 0, .int .i64 0, .int .i64 0, .int .i64 0, .bool false] 31) = W at *
  refine (qhave_in W qg p.n p.id t.m t.H t.P t.ql HQ.out HK.out dst HD.out).mono ?_
  rw [HAT.out]
  rintro e w1 ⟨rfl, rfl⟩
  clear c13 c0
  go_wp2_with fail
-- REGION (*curfew/node.Node).appendMsg 2 ngappmsg 2
  refine Hb.beginB (B := w.heap.size) ?_
  refine Hb.take (v := .pointer (some ⟨x, 0, none⟩)) 0 17 rfl ?_ (fun _ _ => rfl)
  refine Hb.take (v := .int .i64 dst) 1 18 rfl ?_ (fun _ _ => rfl)
  refine Hb.take (v := .pointer (some ⟨x, 0, none⟩)) 2 19 rfl ?_ (fun _ _ => rfl)
  refine Hb.take (v := .pointer (some ⟨x, 0, none⟩)) 3 20 rfl ?_ (fun w' hw' => by go_simp; first | done | rfl | (simp; omega))
  refine Hb.take (v := .pointer (some ⟨x, 7, none⟩)) 4 21 rfl ?_ (fun w' hw' => by go_simp; first | done | rfl | (simp; omega))
  refine Hb.take (v := .int .i64 p.last) 5 22 rfl ?_ (fun w' hw' => by exact ldI64 (Blk.cell (i := 7) (Blk.below (show Blk W.drew x 79 (ncs d { p with te := some t } a) from HB.out) hw' HLT.out) rfl) rfl)
  refine Hb.take (v := .int .i64 at_) 6 23 rfl ?_ (fun _ _ => rfl)
  refine Hb.take (v := .pointer (some ⟨x, 0, none⟩)) 7 24 rfl ?_ (fun _ _ => rfl)
  refine Hb.take (v := .pointer (some ⟨x, 0, none⟩)) 8 25 rfl ?_ (fun w' hw' => by go_simp; first | done | rfl | (simp; omega))
  refine Hb.take (v := .pointer (some ⟨x, 9, none⟩)) 9 26 rfl ?_ (fun w' hw' => by go_simp; first | done | rfl | (simp; omega))
  refine Hb.take (v := .pointer (some ⟨a.lg, 0, none⟩)) 10 27 rfl ?_ (fun w' hw' => by exact ldLog (Blk.cell (i := 9) (Blk.below (show Blk W.drew x 79 (ncs d { p with te := some t } a) from HB.out) hw' HLT.out) rfl) rfl)
  refine Hb.take (v := .int .i64 at_) 11 28 rfl ?_ (fun _ _ => rfl)
  refine Hb.take (v := .pointer (some ⟨x, 0, none⟩)) 13 30 rfl ?_ (fun _ _ => rfl)
  refine Hb.take (v := .pointer (some ⟨x, 0, none⟩)) 14 31 rfl ?_ (fun w' hw' => by go_simp; first | done | rfl | (simp; omega))
  refine Hb.take (v := .pointer (some ⟨x, 10, none⟩)) 15 32 rfl ?_ (fun w' hw' => by go_simp; first | done | rfl | (simp; omega))
  refine Hb.take (v := .int .i64 p.com) 16 33 rfl ?_ (fun w' hw' => by exact ldInt (Blk.cell (i := 10) (Blk.below (show Blk W.drew x 79 (ncs d { p with te := some t } a) from HB.out) hw' HLT.out) rfl) rfl)
  refine Hb.take (v := .int .i64 probe) 17 34 rfl ?_ (fun _ _ => rfl)
  refine Hb.take (v := .pointer (some ⟨x, 0, none⟩)) 18 35 rfl ?_ (fun _ _ => rfl)
  refine Hb.take (v := .pointer (some ⟨x, 0, none⟩)) 19 36 rfl ?_ (fun w' hw' => by go_simp; first | done | rfl | (simp; omega))
  refine Hb.take (v := .pointer (some ⟨x, 4, none⟩)) 20 37 rfl ?_ (fun w' hw' => by go_simp; first | done | rfl | (simp; omega))
  refine Hb.take (v := .int .i64 p.clock) 21 38 rfl ?_ (fun w' hw' => by exact ldI64 (Blk.cell (i := 4) (Blk.below (show Blk W.drew x 79 (ncs d { p with te := some t } a) from HB.out) hw' HLT.out) rfl) rfl)
  refine Hb.call (f := 38) (args := #[.pointer (some ⟨a.lg, 0, none⟩), .int .i64 at_]) 12 29 rfl ?_ (run_callf Tryz.func38 (by kernel_rfl) (by kernel_rfl) (by simp only [List.map_toArray, List.map_cons, List.map_nil]; rfl))
  refine (From_any (show Lg W.drew a.lg a.FL p.L from HL.out.drew) (k := at_) H0.out).mono ?_
  rintro e w7 ⟨A7, c7, rfl, o7, b7⟩
  have B7 := Lib.hid (Blk.past (show Blk W.drew x 79 (ncs d { p with te := some t } a) from HB.out) b7)
  have K7 := Lib.hid (K0.out.past b7)
  have b7' := Lib.hid (b0.out.drew.trans (b7.mono b0.out.size))
  have O7 := Lib.hid (o7.down b0.out.size)
  clear o7
  refine Hb.back (B' := w.heap.size) (b7.mono b0.out.size) (Nat.le_refl _) ?_
  refine Hb.take (v := .agg #[.int .i64 5, .int .i64 0, .int .i64 0, .int .i64 0, .int .i64 p.last, .int .i64 0, .int .i64 0, .int .i64 at_, .slice A7 (appEs p.L at_).length c7, .int .i64 p.com, .int .i64 probe, .int .i64 p.clock, .bool false]) 22 39 rfl ?_ (fun w' hw' => by go_simp; first | done | rfl | omega | exact wrap_in (by omega) (by omega) | exact Int.tmod_eq_emod_of_nonneg (by omega) | exact Int.tdiv_eq_ediv_of_nonneg (by omega) | (simp; omega))
  refine Hb.call (f := 122) (args := #[.pointer (some ⟨x, 0, none⟩), .int .i64 dst, .agg #[.int .i64 5, .int .i64 0, .int .i64 0, .int .i64 0, .int .i64 p.last, .int .i64 0, .int .i64 0, .int .i64 at_, .slice A7 (appEs p.L at_).length c7, .int .i64 p.com, .int .i64 probe, .int .i64 p.clock, .bool false]]) 23 40 rfl ?_ (run_callf Tryz.func122 (by kernel_rfl) (by kernel_rfl) (by simp only [List.map_toArray, List.map_cons, List.map_nil]; rfl))
  refine (show Calls Tryz.prog 122 #[.pointer (some ⟨x, 0, none⟩), .int .i64 dst, mv (appMA p at_ probe) A7 c7] w7 (fun e w' => e = .returned (mv (sends p dst (appMA p at_ probe)) A7 c7) ∧ Below w7.heap.size w7 w') from to_c B7.out dst (appMA p at_ probe) A7 c7).mono ?_
  rintro e w8 ⟨rfl, b8⟩
  have K8 := Lib.hid (K7.out.past b8)
  have O8 := Lib.hid (O7.out.past b8)
  have b8' := Lib.hid (b7'.out.trans (b8.mono b7'.out.size))
  refine Hb.back (B' := w.heap.size) (b8.mono b7'.out.size) (Nat.le_refl _) ?_
  refine Hb.only 24 none rfl ?_
  refine wpList_store_row rfl 31 (.tmp 6) (.tmp 40) rfl w.heap.size _ rfl rfl _ _ K8.out (by kernel_rfl) (by rfl) (by kernel_rfl) ?_
  refine Hb.next (B' := w.heap.size) (grown_below (grown_row w8 w.heap.size _) (Nat.le_refl _) (b8'.out.size)) (Nat.le_refl _) ?_
  refine Hb.done ?_
-- END
  go_wp2_with fail
  have K9 := K8.out.row (mcs (sends p dst (appMA p at_ probe)) A7 c7).toArray
  have O9 := O8.out.touch (Touch.of_grown (grown_row w8 w.heap.size (mcs (sends p dst (appMA p at_ probe)) A7 c7).toArray)) (fun g hg => by rw [List.mem_singleton.1 hg]; exact O8.out.ne K8.out (by decide))
  refine bodyPost_ret (v := mv (sends p dst (appMA p at_ probe)) A7 c7) (results_cell_row rfl _ _ w.heap.size _ _ _ _ rfl K9 Tryz.underlying31 rfl (by kernel_rfl)) rfl ⟨A7, c7, rfl, O9, ?_⟩
  exact b8'.out.trans (grown_below (grown_row w8 w.heap.size _) (Nat.le_refl _) b8'.out.size)
theorem appendMsg_c {w : World} {x d : Nat} {p : Np} {a : Na} {qg : Nat} {t : Te} {A : Option Addr} {c : Nat} (B : Blk w x 79 (ncs d { p with te := some t } a)) (T : Blk w a.tg 173 (tecs qg t A c)) (Q : Qs w qg p.n p.id t.m t.H t.P t.ql) (K : Qk p.n p.id t.m t.H t.P t.ql) (L : Lg w a.lg a.FL p.L) (dst probe : Int) (hd : PTeam.has t.m dst = true) :
    Calls Tryz.prog 116 #[.pointer (some ⟨x, 0, none⟩), .int .i64 dst, .int .i64 probe] w fun e w' => ∃ A c, e = .returned (mv (sends p dst (appM p t dst probe)) A c) ∧ Ow w' w.heap.size 93 7 A (appM p t dst probe).es.length c (els (appM p t dst probe).es) ∧ Below w.heap.size w w' :=
  appendMsgA B T Q K L dst probe hd _ rfl
end Go.Proofs.YtacipjdaiglnjaaGreatDoor

/- Whether someone is silent (isSomeSilent). -/
namespace Go.Proofs.YtacipjdaiglnjaaGreatDoor
open Go.RowKit PNode

theorem lst_in {t : Nat} (ht : t < 128) {x : Int} (h : x ∈ PTeam.lst t) : 1 ≤ x ∧ x ≤ 7 := by
  obtain ⟨a, b, -, -⟩ := PQuo.pl_in ht ((PTeam.lst_mem t ht x).1 h)
  exact ⟨a, b⟩
theorem tecs_word {qg : Nat} {t : Te} {A : Option Addr} {c k : Nat} (hw : t.word.length = 7) (hk : k < 7) : (tecs qg t A c)[2 + k]? = some (.int .i64 (t.word.getD k 0)) := by
  unfold tecs is
  rw [List.append_assoc, List.getElem?_append_right (by simp), List.getElem?_append_left (by simp [hw]; omega)]
  simp [List.getD_eq_getElem?_getD, List.getElem?_eq_getElem (show k < t.word.length by omega)]
theorem silent_at {p : Np} {t : Te} {l : List Int} {k : Nat} {d : Int} (h : l[k]? = some d) (h0 : (l.take k).any (silent1 p t) = false) : (l.take (k + 1)).any (silent1 p t) = silent1 p t d := by
  rw [List.take_add_one, h, Option.toList_some, List.any_append, h0]
  simp

set_option maxHeartbeats 8000000 in
set_option maxRecDepth 100000 in
theorem silent_c {w : World} {x d : Nat} {p : Np} {a : Na} {qg : Nat} {t : Te} {A : Option Addr} {c : Nat} (B : Blk w x 79 (ncs d { p with te := some t } a)) (T : Blk w a.tg 173 (tecs qg t A c)) (hm : p.mem < 128) (hw : t.word.length = 7) (hb : ∀ k : Nat, k < 7 → 0 ≤ t.word.getD k 0 ∧ t.word.getD k 0 ≤ 1099511627776) (hc : 0 ≤ p.clock ∧ p.clock ≤ 1099511627776) :
    Calls Tryz.prog 111 #[.pointer (some ⟨x, 0, none⟩)] w fun e w' => e = .returned (.bool (silent p t)) ∧ Below w.heap.size w w' := by
  have HB := Lib.hid B
  have HT := Lib.hid T
  have HW := Lib.hid hw
  have HWB := Lib.hid hb
  have HM := Lib.hid (show PTeam.wout p.mem p.id < 128 from PTeam.wout_lt hm _)
  obtain ⟨c1, c2⟩ := hc
  have hm0 := Lib.hid hm
  clear B T hw hb hm
  go_enter Tryz.func111, Tryz.ntmps111
  go_wp2_with fail
  refine (others_c (p := { p with te := some t }) HB.out hm0.out).mono ?_
  rintro e w2 ⟨Ao, co, rfl, o2, b2⟩
  have RO := Lib.hid (Rd.of_own o2)
  have B2 := Lib.hid (HB.out.past b2)
  have T2 := Lib.hid (HT.out.past b2)
  have BB := Lib.hid b2
  obtain ⟨L, hL⟩ : ∃ L, PTeam.lst (PTeam.wout p.mem p.id) = L := ⟨_, rfl⟩
  obtain ⟨n, hn⟩ : ∃ n, PTeam.cnt (PTeam.wout p.mem p.id) = n := ⟨_, rfl⟩
  have hLn : L.length = n := by rw [← hL, ← hn]; exact PTeam.lst_length _
  have hn7 : n ≤ 7 := by rw [← hn]; exact cnt_le7 _
  have HLI := Lib.hid (show ∀ y ∈ L, 1 ≤ y ∧ y ≤ 7 from fun y hy => lst_in HM.out (by rw [hL]; exact hy))
  have HSL := Lib.hid (show silent p t = L.any (silent1 p t) by unfold silent; rw [hL])
  have RO2 := Lib.hid (show Rd w2 w2.heap.size Ao co 1 n (is L) by rw [← hL, ← hn]; exact RO.out)
  have e2 : PTeam.cnt (PTeam.wout ({ p with te := some t } : Np).mem ({ p with te := some t } : Np).id) = n := hn
  rw [e2]
  clear o2 b2 RO hL hn e2 HB HT
  go_wp2_with fail
  go_loopw [8] (fun s8 wr => ∃ k : Nat, s8 = .int .i64 (k : Int) ∧ k ≤ n ∧ Hid ((L.take k).any (silent1 p t) = false) ∧ Hid (Below w2.heap.size w2 wr)) (fun s8 _ => n - (intOf s8).toNat)
  case atStart => exact ⟨0, rfl, Nat.zero_le _, Lib.hid (by simp), Lib.hid (Below.refl _ _)⟩
  case round =>
    obtain ⟨k, rfl, hk, HS, BT⟩ := hrel
    by_cases hlt : k < n
    · obtain ⟨b, o, dst, rfl, hcell, hdr, -⟩ := (RO2.out.past BT.out).int hlt
      have hLk : L[k]? = some dst := by
        have := congrArg (fun l => l[0]?) hdr
        simpa using this
      have HLK := Lib.hid hLk
      obtain ⟨d1, d2⟩ := HLI.out dst (List.mem_of_getElem? hLk)
      have B3 := Lib.hid (B2.out.past BT.out)
      have T3 := Lib.hid (T2.out.past BT.out)
      obtain ⟨j, hj⟩ : ∃ j : Nat, dst = (j : Int) + 1 := ⟨(dst - 1).toNat, by omega⟩
      have hj7 : j < 7 := by omega
      subst hj
      obtain ⟨wv, hwv⟩ : ∃ wv, t.word.getD j 0 = wv := ⟨_, rfl⟩
      obtain ⟨v1, v2⟩ := HWB.out j hj7
      rw [hwv] at v1 v2
      have k4 : wr.cell? ⟨x, 4, none⟩ = some (.int .i64 p.clock) := B3.out.cell rfl
      have k13 : wr.cell? ⟨x, 13, none⟩ = some (.pointer (some ⟨a.tg, 0, none⟩)) := B3.out.cell rfl
      have kw : wr.cell? ⟨a.tg, 2 + j, none⟩ = some (.int .i64 wv) := by
        have := T3.out.cell (tecs_word (k := j) HW.out hj7)
        rw [hwv] at this
        exact this
      have HNX := Lib.hid (silent_at HLK.out HS.out)
      have hs1 : silent1 p t ((j : Int) + 1) = decide (14 ≤ p.clock - wv) := by
        unfold silent1
        rw [show ((j : Int) + 1 - 1).toNat = j by omega, hwv]
      have HS1 := Lib.hid hs1
      clear hdr hLk hwv hs1 B3 T3
      by_cases hsil : 14 ≤ p.clock - wv
      · have hdec : decide (14 ≤ p.clock - wv) = true := decide_eq_true hsil
        go_wp2_with fail
        go_quiet (fail)
        go_wp2_with fail
        go_ret
        refine ⟨?_, ?_⟩
        · rw [HSL.out]
          have h1 : (L.take (k + 1)).any (silent1 p t) = true := by rw [HNX.out, HS1.out]; exact hdec
          have h2 : L.any (silent1 p t) = true := by
            rw [List.any_eq_true] at h1 ⊢
            obtain ⟨y, hy, hy2⟩ := h1
            exact ⟨y, List.mem_of_mem_take hy, hy2⟩
          rw [h2]
          rfl
        · exact BB.out.trans ((BT.out.trans ((drewN_below wr nq).mono BT.out.size)).mono BB.out.size)
      · have hdec : decide (14 ≤ p.clock - wv) = false := decide_eq_false hsil
        go_wp2_with fail
        go_quiet (fail)
        go_wp2_with fail
        go_roundw
        case rel => exact ⟨k + 1, by go_num, by omega, Lib.hid (by rw [HNX.out, HS1.out]; exact hdec), Lib.hid (BT.out.trans ((drewN_below wr nq).mono BT.out.size))⟩
        case measure => simp [intOf]; omega
    · obtain rfl : k = n := by omega
      have HF := Lib.hid (show silent p t = false by rw [HSL.out, ← List.take_length (l := L), hLn]; exact HS.out)
      go_wp2_with fail
      go_ret
      exact ⟨by rw [HF.out]; rfl, BB.out.trans (BT.out.mono BB.out.size)⟩
end Go.Proofs.YtacipjdaiglnjaaGreatDoor

/- A process leads (lead): what waits is added; then it proposes, if someone is silent, or a probe, a question, a message to each other member. -/
namespace Go.Proofs.YtacipjdaiglnjaaGreatDoor
open Go.RowKit PNode

namespace PNode
/-- One entry more: the log, and what each has. -/
def addStep (p : Np) (s : List Ent × List Int) (e : Ent) : List Ent × List Int :=
  (PLog.add s.1 (addE { p with L := s.1 } e), PQuo.upd s.2 p.id (PLog.add s.1 (addE { p with L := s.1 } e)).length)
def addsLH (p : Np) (t : Te) (es : List Ent) : List Ent × List Int := es.foldl (addStep p) (p.L, t.H)
def addsP (p : Np) (t : Te) (es : List Ent) : Np := { p with L := (addsLH p t es).1, te := some { t with H := (addsLH p t es).2 } }
/-- The term behind a lead. -/
def ledT (p : Np) (t : Te) : Te := { t with H := (addsLH p t p.pend).2, P := t.P.set (PQuo.pl p.id) (t.ql + 1), ql := t.ql + 1, qs := t.qs ++ [⟨p.id, p.pl + 1, t.ql + 1⟩] }
def ledP (p : Np) (t : Te) : Np := { p with L := (addsLH p t p.pend).1, te := some (ledT p t), pl := p.pl + 1, pA := PProof.askA p.pA p.pl p.clock }
def ledM (p : Np) (t : Te) (dst : Int) : Msg := if PTeam.has t.ans dst = true then appM (ledP p t) (ledT p t) dst (t.ql + 1) else instMG (ledP p t)
/-- What holds of the term of one that decides. -/
structure Lt (p : Np) (t : Te) : Prop where
  k : Qk p.n p.id t.m t.H t.P t.ql
  m : t.m = p.mem
  w7 : t.word.length = 7
  wb : ∀ k : Nat, k < 7 → 0 ≤ t.word.getD k 0 ∧ t.word.getD k 0 ≤ 1099511627776
  ans : t.ans < 128
  ql : t.ql < 1000000
  qs : t.qs.length < 1000000
  pl : p.pl < 2199023255552
end PNode
theorem Qk.nextG {n me : Int} {m : Nat} {H P : List Int} {last : Int} (h : Qk n me m H P last) (hb : last < 1000000) : Qk n me m H (P.set (PQuo.pl me) (last + 1)) (last + 1) := by
  have := h.l0
  exact ⟨h.most, h.me, h.h, PQuo.ok_set h.n.2.2 h.p h.me (by omega) (Int.le_refl _) (by omega), by omega, by omega⟩
theorem tecs_ans {qg : Nat} {t : Te} {A : Option Addr} {c : Nat} (hw : t.word.length = 7) : (tecs qg t A c)[9]? = some (.int .i64 (t.ans : Nat)) := by
  unfold tecs is
  rw [List.getElem?_append_right (by simp [hw])]
  simp [hw]
theorem addsP_next {p : Np} {t : Te} {l : List Ent} {k : Nat} {e : Ent} (h : l[k]? = some e) :
    addsP p t (l.take (k + 1)) = addP { p with L := (addsLH p t (l.take k)).1 } { t with H := (addsLH p t (l.take k)).2 } e := by
  unfold addsP addP addsLH
  rw [List.take_add_one, h, Option.toList_some, List.foldl_append]
  rfl
theorem adds_ok {p : Np} {t : Te} (hL : p.L.length ≤ 60) (K : Qk p.n p.id t.m t.H t.P t.ql) (l : List Ent) : (addsLH p t l).1.length ≤ 60 ∧ Qk p.n p.id t.m (addsLH p t l).2 t.P t.ql := by
  unfold addsLH
  suffices H : ∀ (s : List Ent × List Int), s.1.length ≤ 60 → Qk p.n p.id t.m s.2 t.P t.ql → (l.foldl (addStep p) s).1.length ≤ 60 ∧ Qk p.n p.id t.m (l.foldl (addStep p) s).2 t.P t.ql from H _ hL K
  induction l with
  | nil => intro s h1 h2; exact ⟨h1, h2⟩
  | cons e r ih =>
    intro s h1 h2
    have h3 := PLog.add_len h1 (addE { p with L := s.1 } e)
    exact ih _ h3 ⟨h2.most, h2.me, PQuo.ok_upd h2.n.2.2 h2.h h2.me (by show ((PLog.add s.1 _).length : Int) ≤ 60; omega), h2.p, h2.l0, h2.l1⟩
theorem adds_grow {p : Np} {t : Te} (l : List Ent) : p.L.length ≤ (addsLH p t l).1.length := by
  unfold addsLH
  suffices H : ∀ (s : List Ent × List Int), p.L.length ≤ s.1.length → p.L.length ≤ (l.foldl (addStep p) s).1.length from H _ (Nat.le_refl _)
  induction l with
  | nil => intro s h; exact h
  | cons e r ih =>
    intro s h
    refine ih _ (Nat.le_trans h ?_)
    show s.1.length ≤ (PLog.add s.1 _).length
    unfold PLog.add
    split <;> simp

set_option maxHeartbeats 16000000 in
set_option maxRecDepth 100000 in
theorem lead_c {w : World} {x d : Nat} {F : List Nat} {p : Np} {t : Te} (h : Nd w x d F { p with te := some t }) (K : Lt p t) (n : Nat) (hn : p.n = n) (hp1 : p.pro ≤ 1000000) (hp2 : p.den ≤ 1000000) (C : List Mp → Np → Prop)
    (hC1 : silent p t = true → ∀ Q p', cPropG (addsP p t p.pend) n Q p' → C Q p')
    (hC2 : silent p t = false → ∀ Q, Q.map Mp.m = (PTeam.lst (PTeam.wout p.mem p.id)).map (fun dst => sends p dst (ledM p t dst)) → C Q (ledP p t)) :
    Calls Tryz.prog 66 #[.pointer (some ⟨x, 0, none⟩)] w (TickPost w x d F C) := by
  obtain ⟨a, s0, hr⟩ := h.open
  have HR := Lib.hid hr
  have HK := Lib.hid K
  have HNN := Lib.hid hn
  have HC1 := Lib.hid hC1
  have HC2 := Lib.hid hC2
  have B0 : Blk w x 79 (ncs d { p with te := some t } a) := s0.sep.get (i := 0) rfl
  have N0 : Hid (Pn w a.ng p.id p.boot p.seq p.pend) := Lib.hid (s0.sep.get (i := 8) rfl)
  have L60 := Lib.hid (show Lg w a.lg a.FL p.L from s0.sep.get (i := 2) rfl).le
  have c17 : w.cell? ⟨x, 17, none⟩ = some (.pointer (some ⟨a.ng, 0, none⟩)) := B0.cell rfl
  have HI := Lib.hid h.hi
  have HN := Lib.hid h
  clear h hr s0 K hn hC1 hC2 B0
  go_enter Tryz.func66, Tryz.ntmps66
  go_wp2_with fail
  refine (plist_c w a.ng p.id p.boot p.seq p.pend N0.out).mono ?_
  rintro e w2 ⟨A, c, rfl, o2, b2⟩
  have O2 := Lib.hid (Ow.of_own o2)
  have N2 := Lib.hid (HN.out.past b2)
  have B2 := Lib.hid b2
  obtain ⟨m, hm⟩ : ∃ m, p.pend.length = m := ⟨_, rfl⟩
  rw [hm] at O2
  rw [hm]
  have HM := Lib.hid hm
  have hm4 : m ≤ 4 := by rw [← hm]; exact N0.out.few
  clear o2 b2 c17 HN N0 hm
  go_wp2_with fail
  go_loopw [15] (fun s15 wr => ∃ k : Nat, s15 = .int .i64 (k : Int) ∧ k ≤ m ∧ Hid (NdW w2 wr x d F (addsP p t (p.pend.take k))) ∧ Hid (Ow wr w.heap.size 93 7 A m c (els p.pend))) (fun s15 _ => m - (intOf s15).toNat)
  case atStart => exact ⟨0, rfl, Nat.zero_le _, Lib.hid ⟨⟨F, N2.out, fun _ hk => .inl hk⟩, .refl _ _⟩, O2⟩
  case round =>
    obtain ⟨k, rfl, hk, WR, OR⟩ := hrel
    by_cases hlt : k < m
    · have hl : k < p.pend.length := by have := HM.out; omega
      obtain ⟨b3, o3, hA3, hb3, hc3⟩ := OR.out.rd.2.2.2.2 (by omega)
      obtain ⟨e, he⟩ : ∃ e, p.pend[k]? = some e := ⟨_, List.getElem?_eq_getElem hl⟩
      obtain ⟨fr, bt, sq, od, lv, sp, dt⟩ := e
      subst hA3
      have HRG := Lib.hid (show wr.rangeAt b3 (o3 + k * 7) [.int .i64 fr, .int .i64 bt, .int .i64 sq, .int .i64 od, .int .i64 lv, .int .i64 sp, .string dt] from fun j v hv => by
        have hj : j < 7 := (List.getElem?_eq_some_iff.1 hv).1
        have := hc3 (k * 7 + j) v (by rw [els_at he hj]; exact hv)
        rw [Nat.add_assoc]; exact this)
      have HNX := Lib.hid (addsP_next (p := p) (t := t) he)
      have KZ := Lib.hid (Blk.new wr #[.int .i64 0, .int .i64 0, .int .i64 0, .int .i64 0, .int .i64 0, .int .i64 0, .string ⟨#[]⟩] 93)
      have K4 := Lib.hid (show Blk ((wr.alloc (.cells #[.int .i64 0, .int .i64 0, .int .i64 0, .int .i64 0, .int .i64 0, .int .i64 0, .string ⟨#[]⟩] 93)).setRow wr.heap.size #[.int .i64 fr, .int .i64 bt, .int .i64 sq, .int .i64 od, .int .i64 lv, .int .i64 sp, .string dt]) wr.heap.size 93 (ecs ⟨fr, bt, sq, od, lv, sp, dt⟩) from Blk.row KZ.out #[.int .i64 fr, .int .i64 bt, .int .i64 sq, .int .i64 od, .int .i64 lv, .int .i64 sp, .string dt])
      have b4 := Lib.hid (((Below.refl wr.heap.size wr).alloc (Nat.le_refl _) (.cells #[.int .i64 0, .int .i64 0, .int .i64 0, .int .i64 0, .int .i64 0, .int .i64 0, .string ⟨#[]⟩] 93)).trans (grown_below (grown_row (wr.alloc (.cells #[.int .i64 0, .int .i64 0, .int .i64 0, .int .i64 0, .int .i64 0, .int .i64 0, .string ⟨#[]⟩] 93)) wr.heap.size #[.int .i64 fr, .int .i64 bt, .int .i64 sq, .int .i64 od, .int .i64 lv, .int .i64 sp, .string dt]) (Nat.le_refl _) (by simp)))
      have W4' := Lib.hid (WR.out.ahead b4.out)
      have O4 := Lib.hid (OR.out.past b4.out)
      clear hb3 hc3 he b4 WR OR
      go_wp2_with (first | ((with_reducible show wpList _ _ _ ((⟨none, Op.store 93 (.tmp 4) _, _, _, _, _⟩ : Oper) :: _) _ _); go_must (refine wpList_store_row rfl 93 (.tmp 4) (.tmp 18) rfl wr.heap.size _ rfl rfl _ _ KZ.out (by kernel_rfl) (by rfl) (by kernel_rfl) ?_)) | ((with_reducible show wpList _ _ _ ((⟨some 18, Op.load _ _, _, _, _, _⟩ : Oper) :: _) _ _); go_must (refine wpList_load_mid rfl 93 (.tmp 17) rfl b3 (o3 + k * 7) rfl [.int .i64 fr, .int .i64 bt, .int .i64 sq, .int .i64 od, .int .i64 lv, .int .i64 sp, .string dt] _ HRG.out Tryz.underlying93 rfl (by kernel_rfl) ?_)) | ((with_reducible show wpList _ _ _ ((⟨some 20, Op.load _ _, _, _, _, _⟩ : Oper) :: _) _ _); go_must (refine wpList_load_row rfl 93 (.tmp 4) rfl wr.heap.size rfl 93 #[.int .i64 fr, .int .i64 bt, .int .i64 sq, .int .i64 od, .int .i64 lv, .int .i64 sp, .string dt] (0, 0) _ K4.out Tryz.underlying93 rfl (by kernel_rfl) ?_)))
      clear KZ HRG K4
      generalize ((wr.alloc (.cells #[.int .i64 0, .int .i64 0, .int .i64 0, .int .i64 0, .int .i64 0, .int .i64 0, .string ⟨#[]⟩] 93)).setRow wr.heap.size #[.int .i64 fr, .int .i64 bt, .int .i64 sq, .int .i64 od, .int .i64 lv, .int .i64 sp, .string dt]) = w4 at *
      obtain ⟨⟨Fk, nk, hFk⟩, tk⟩ := W4'.out
      have HFK := Lib.hid hFk
      have HTK := Lib.hid tk
      have HOF := Lib.hid (show ∀ g ∈ Fk, bk (some ⟨b3, o3, none⟩) ≠ some g from fun g hg hA => by
        have h1 := O4.out.low g hA
        have h2 : g < w2.heap.size := O2.out.hi g hA
        rcases hFk g hg with h3 | h3
        · have := HI.out g h3; omega
        · omega)
      have hcall := add_c (p := { p with L := (addsLH p t (p.pend.take k)).1 }) (t := { t with H := (addsLH p t (p.pend.take k)).2 }) nk (adds_ok L60.out HK.out.k (p.pend.take k)).2 ⟨fr, bt, sq, od, lv, sp, dt⟩
      refine hcall.mono ?_
      clear hcall nk hFk tk
      rintro r w5 ⟨rfl, W5⟩
      have WN := Lib.hid (NdW.then HFK.out HTK.out W5)
      have ON := Lib.hid (O4.out.touch W5.touch HOF.out)
      clear W5 W4' O4
      go_wp2_with fail
      go_roundw
      case rel => exact ⟨k + 1, by go_num, by omega, Lib.hid (by rw [HNX.out]; exact WN.out), ON⟩
      case measure => simp [intOf]; omega
    · obtain rfl : k = m := by omega
      have HTK := Lib.hid (show p.pend.take k = p.pend by rw [List.take_of_length_le (by rw [HM.out]; exact Nat.le_refl _)])
      have W1 := Lib.hid (show NdW w2 wr x d F (addsP p t p.pend) by have := WR.out; rw [HTK.out] at this; exact this)
      clear WR OR O2 HTK
      obtain ⟨⟨F1, n1, hF1⟩, t1⟩ := W1.out
      have HF1 := Lib.hid hF1
      have HT1 := Lib.hid t1
      have HN1 := Lib.hid n1
      obtain ⟨a1, s1, hr1⟩ := n1.open
      have S1 := Lib.hid s1
      have HR1 := Lib.hid hr1
      have K1 := Lib.hid (adds_ok L60.out HK.out.k p.pend).2
      have B1 : Hid (Blk wr x 79 (ncs d (addsP p t p.pend) a1)) := Lib.hid (s1.sep.get (i := 0) rfl)
      have hT : Tm wr a1.tg a1.FT p.n p.id { t with H := (addsLH p t p.pend).2 } := s1.sep.get (i := 4) rfl
      obtain ⟨qg, Aq, cq, hBT, hQ, hO, hF⟩ := hT
      have T1 := Lib.hid hBT
      have Q1 := Lib.hid hQ
      have OQ1 := Lib.hid hO
      have HFT := Lib.hid hF
      clear n1 hF1 t1 s1 hr1 hBT hQ hO hF
      go_wp2_with fail
      have hcall := silent_c (p := { p with L := (addsLH p t p.pend).1 }) (t := { t with H := (addsLH p t p.pend).2 }) (a := a1) B1.out T1.out HR.out.mem HK.out.w7 HK.out.wb HR.out.clock
      refine hcall.mono ?_
      clear hcall
      have HSE : silent { p with L := (addsLH p t p.pend).1 } { t with H := (addsLH p t p.pend).2 } = silent p t := rfl
      rw [HSE]
      obtain ⟨sl, hsl⟩ : ∃ sl, silent p t = sl := ⟨_, rfl⟩
      rw [hsl]
      have HSL := Lib.hid hsl
      clear HSE hsl
      rintro e w3 ⟨rfl, b3⟩
      have N3 := Lib.hid (HN1.out.past b3)
      have S3 := Lib.hid (S1.out.past b3)
      have B3 := Lib.hid (B1.out.past b3)
      have T3 := Lib.hid (T1.out.past b3)
      have Q3 := Lib.hid (Q1.out.past b3)
      have OQ3 := Lib.hid (OQ1.out.past b3)
      have BB3 := Lib.hid b3
      clear b3 HN1 S1 B1 T1 Q1 OQ1 W1
      cases sl
      · have HFT2 := Lib.hid (show a1.FT = a1.tg :: qg :: bl Aq from HFT.out)
        have c13 : w3.cell? ⟨x, 13, none⟩ = some (.pointer (some ⟨a1.tg, 0, none⟩)) := B3.out.cell rfl
        have c0 : w3.cell? ⟨a1.tg, 0, none⟩ = some (.pointer (some ⟨qg, 0, none⟩)) := T3.out.cell rfl
        go_wp2_with fail
        refine (qnext_c w3 qg p.n p.id t.m _ t.P t.ql Q3.out K1.out HK.out.ql).mono ?_
        rintro e w4 ⟨rfl, q4, t4⟩
        have hxq : x ≠ qg := Q3.out.ne B3.out (by decide)
        have htq : a1.tg ≠ qg := Q3.out.ne T3.out (by decide)
        have hoq : bk Aq ≠ some qg := OQ3.out.ne Q3.out (by decide)
        have B4 := Lib.hid (B3.out.touch t4 (by rw [List.mem_singleton]; exact hxq))
        have T4 := Lib.hid (T3.out.touch t4 (by rw [List.mem_singleton]; exact htq))
        have O4 := Lib.hid (OQ3.out.touch t4 (by intro g hg; rw [List.mem_singleton.1 hg]; exact hoq))
        have Q4 := Lib.hid q4
        have S4 := Lib.hid (S3.out.set 4 rfl (pT_ok p.n p.id a1 (some { t with H := (addsLH p t p.pend).2, P := t.P.set (PQuo.pl p.id) (t.ql + 1), ql := t.ql + 1 })) (t4.wide (by intro k hk; rw [List.mem_singleton.1 hk]; show qg ∈ a1.FT; rw [HFT2.out]; simp)) (show Tm w4 a1.tg a1.FT p.n p.id { t with H := (addsLH p t p.pend).2, P := t.P.set (PQuo.pl p.id) (t.ql + 1), ql := t.ql + 1 } from ⟨qg, Aq, cq, T4.out, q4, O4.out, HFT2.out⟩) (fun k hk => .inl hk))
        have P4 : Hid (Pf w4.drew a1.pg p.pl p.pc p.pA p.pp p.pk p.pm) := Lib.hid (Pf.past (show Pf w4 a1.pg p.pl p.pc p.pA p.pp p.pk p.pm from S4.out.sep.get (i := 7) rfl) (Below.refl _ _).drew)
        have hxp : x ≠ a1.pg := B4.out.drew.ne P4.out (by decide)
        have htp : a1.tg ≠ a1.pg := T4.out.drew.ne P4.out (by decide)
        have hxt : x ≠ a1.tg := B4.out.ne T4.out (by decide)
        have hxo : bk Aq ≠ some x := O4.out.ne B4.out (by decide)
        have hop : bk Aq ≠ some a1.pg := (O4.out.past (Below.refl _ _).drew).ne P4.out (by decide)
        have hqp : qg ≠ a1.pg := Ne.symm (Qs.ne (Qs.past Q4.out (Below.refl _ _).drew) P4.out (by decide))
        have HX := Lib.hid (show x ∉ a1.pg :: a1.tg :: bl Aq from fun hm => by
          rcases List.mem_cons.1 hm with h | hm
          · exact hxp h
          · rcases List.mem_cons.1 hm with h | hm
            · exact hxt h
            · exact hxo (mem_bl.1 hm))
        have HTP := Lib.hid (show a1.tg ∉ [a1.pg] by rw [List.mem_singleton]; exact htp)
        have HQP := Lib.hid (show qg ∉ [a1.pg] by rw [List.mem_singleton]; exact hqp)
        have HQT := Lib.hid (show qg ∉ a1.tg :: bl Aq from fun hm => by
          rcases List.mem_cons.1 hm with h | hm
          · exact htq h.symm
          · exact hoq (mem_bl.1 hm))
        have HOP := Lib.hid hop
        have KN := Lib.hid (Qk.nextG K1.out HK.out.ql)
        clear c13 c0 hxq htq hoq q4 t4 hxp htp hxt hxo hop hqp B3 T3 Q3 OQ3 S3 N3
        go_wp2_with fail
-- REGION (*curfew/node.Node).lead 9 nlead9 8
        refine Hs.begin (a1.pg :: a1.tg :: bl Aq) ?_
        refine Hs.take (v := .pointer (some ⟨x, 0, none⟩)) 0 35 rfl ?_ (fun _ _ => rfl)
        refine Hs.take (v := .pointer (some ⟨x, 0, none⟩)) 1 36 rfl ?_ (fun w' hw' => by go_simp; first | done | rfl | (simp; omega))
        refine Hs.take (v := .pointer (some ⟨x, 13, none⟩)) 2 37 rfl ?_ (fun w' hw' => by go_simp; first | done | rfl | (simp; omega))
        refine Hs.take (v := .pointer (some ⟨a1.tg, 0, none⟩)) 3 38 rfl ?_ (fun w' hw' => by exact ldTerm (Blk.cell (i := 13) (Blk.touch (show Blk w4.drew x 79 (ncs d (addsP p t p.pend) a1) from B4.out.drew) hw' HX.out) rfl) rfl)
        refine Hs.take (v := .pointer (some ⟨x, 0, none⟩)) 4 39 rfl ?_ (fun _ _ => rfl)
        refine Hs.take (v := .pointer (some ⟨x, 0, none⟩)) 5 40 rfl ?_ (fun w' hw' => by go_simp; first | done | rfl | (simp; omega))
        refine Hs.take (v := .pointer (some ⟨x, 0, none⟩)) 6 41 rfl ?_ (fun w' hw' => by go_simp; first | done | rfl | (simp; omega))
        refine Hs.take (v := .int .i64 p.id) 7 42 rfl ?_ (fun w' hw' => by exact ldInt (Blk.cell (i := 0) (Blk.touch (show Blk w4.drew x 79 (ncs d (addsP p t p.pend) a1) from B4.out.drew) hw' HX.out) rfl) rfl)
        refine Hs.take (v := .pointer (some ⟨x, 0, none⟩)) 8 43 rfl ?_ (fun _ _ => rfl)
        refine Hs.take (v := .pointer (some ⟨x, 0, none⟩)) 9 44 rfl ?_ (fun w' hw' => by go_simp; first | done | rfl | (simp; omega))
        refine Hs.take (v := .pointer (some ⟨x, 16, none⟩)) 10 45 rfl ?_ (fun w' hw' => by go_simp; first | done | rfl | (simp; omega))
        refine Hs.take (v := .pointer (some ⟨a1.pg, 0, none⟩)) 11 46 rfl ?_ (fun w' hw' => by exact ldProof (Blk.cell (i := 16) (Blk.touch (show Blk w4.drew x 79 (ncs d (addsP p t p.pend) a1) from B4.out.drew) hw' HX.out) rfl) rfl)
        refine Hs.take (v := .pointer (some ⟨x, 0, none⟩)) 12 47 rfl ?_ (fun _ _ => rfl)
        refine Hs.take (v := .pointer (some ⟨x, 0, none⟩)) 13 48 rfl ?_ (fun w' hw' => by go_simp; first | done | rfl | (simp; omega))
        refine Hs.take (v := .pointer (some ⟨x, 4, none⟩)) 14 49 rfl ?_ (fun w' hw' => by go_simp; first | done | rfl | (simp; omega))
        refine Hs.take (v := .int .i64 p.clock) 15 50 rfl ?_ (fun w' hw' => by exact ldI64 (Blk.cell (i := 4) (Blk.touch (show Blk w4.drew x 79 (ncs d (addsP p t p.pend) a1) from B4.out.drew) hw' HX.out) rfl) rfl)
        refine Hs.take (v := .int .i64 (t.ql + 1)) 17 52 rfl ?_ (fun _ _ => rfl)
        refine Hs.call (f := 114) (args := #[.pointer (some ⟨a1.pg, 0, none⟩), .int .i64 p.clock]) 16 51 rfl ?_ (run_callf Tryz.func114 (by kernel_rfl) (by kernel_rfl) (by simp only [List.map_toArray, List.map_cons, List.map_nil]; rfl))
        refine (pask_c w4.drew a1.pg p.pl p.pc p.pA p.pp p.pk p.pm P4.out HR.out.pf p.clock ⟨HR.out.clock.1, Int.le_trans HR.out.clock.2 (by decide)⟩ HK.out.pl).mono ?_
        rintro e w5 ⟨rfl, P5, K5, t5⟩
        have S5 := Lib.hid (S4.out.drew.set 7 rfl (pP_ok { p with pl := p.pl + 1, pA := PProof.askA p.pA p.pl p.clock } a1) t5 P5 (fun k hk => .inl hk))
        have T5 := Lib.hid (T4.out.drew.touch t5 HTP.out)
        have O5 := Lib.hid ((O4.out.past (Below.refl _ _).drew).touch t5 (by intro g hg; rw [List.mem_singleton.1 hg]; exact HOP.out))
        have Q5 := Lib.hid (Qs.touch (Qs.past Q4.out (Below.refl _ _).drew) t5 HQP.out)
        have HKP := Lib.hid K5
        refine Hs.back (t5.wide (by intro k hk; rw [List.mem_singleton.1 hk]; simp)) ?_
        refine Hs.take (v := .agg #[.int .i64 p.id, .int .i64 (p.pl + 1), .int .i64 (t.ql + 1)]) 18 53 rfl ?_ (fun w' hw' => by go_simp; first | done | rfl | omega | exact wrap_in (by omega) (by omega) | exact Int.tmod_eq_emod_of_nonneg (by omega) | exact Int.tdiv_eq_ediv_of_nonneg (by omega) | (simp; omega))
        refine Hs.call (f := 113) (args := #[.pointer (some ⟨a1.tg, 0, none⟩), .agg #[.int .i64 p.id, .int .i64 (p.pl + 1), .int .i64 (t.ql + 1)]]) 19 54 rfl ?_ (run_callf Tryz.func113 (by kernel_rfl) (by kernel_rfl) (by simp only [List.map_toArray, List.map_cons, List.map_nil]; rfl))
        refine (ask_c (t := { t with H := (addsLH p t p.pend).2, P := t.P.set (PQuo.pl p.id) (t.ql + 1), ql := t.ql + 1 }) T5.out O5.out (Nat.le_of_lt HK.out.qs) HK.out.w7 ⟨p.id, p.pl + 1, t.ql + 1⟩).mono ?_
        rintro e w6 ⟨A6, c6, rfl, T6, O6, t6, hA6⟩
        have T6' := Lib.hid T6
        have O6' := Lib.hid O6
        have t6' := Lib.hid t6
        have HB6 := Lib.hid hA6
        clear P5 K5 t5 T6 O6 hA6
        refine Hs.back (t6.wide (fun k hk => List.mem_cons_of_mem _ hk)) ?_
        clear t6
        refine Hs.done ?_
-- END
        have S6 := Lib.hid (S5.out.set 4 rfl (pT_ok p.n p.id { a1 with FT := a1.tg :: qg :: bl A6 } (some (ledT p t))) (t6'.out.wide (by intro k hk; show k ∈ a1.FT; rw [HFT2.out]; rcases List.mem_cons.1 hk with h | h <;> simp [h])) (show Tm w6 a1.tg (a1.tg :: qg :: bl A6) p.n p.id (ledT p t) from ⟨qg, A6, c6, T6'.out, Qs.touch Q5.out t6'.out HQT.out, O6'.out, rfl⟩) (by
          intro k hk
          show k ∈ a1.FT ∨ _
          rw [HFT2.out]
          have hk' : k ∈ a1.tg :: qg :: bl A6 := hk
          rcases List.mem_cons.1 hk' with h | h
          · exact .inl (by simp [h])
          · rcases List.mem_cons.1 h with h | h
            · exact .inl (by simp [h])
            · rcases HB6.out k (mem_bl.1 h) with h | h
              · exact .inl (by simp [mem_bl.2 h])
              · exact .inr h))
        have hr6 : Nr (ledP p t) := ⟨HR.out.n, HR.out.id, HR.out.boot, HR.out.pro, HR.out.clock, HR.out.heard, HR.out.last, HR.out.mem, ⟨HR.out.com.1, Int.le_trans HR.out.com.2 (Int.ofNat_le.2 (adds_grow p.pend))⟩, HR.out.vo, HR.out.den, HKP.out, HR.out.seq⟩
        have W6 := Lib.hid ((show St okN wr w6 F1 (parts x d (ledP p t) { a1 with FT := a1.tg :: qg :: bl A6 }) from S6.out).shut hr6)
        clear S6 hr6 S5 S4 T6' O6' t6' Q5 HB6 B4 T4 O4 Q4 P4 HX HTP HQP HQT HOP HFT2 HFT HKP
        obtain ⟨⟨F6, n6, hF6⟩, t6⟩ := W6.out
        have HF6 := Lib.hid hF6
        have HT6 := Lib.hid t6
        have N6 := Lib.hid n6
        obtain ⟨a6, s6, -⟩ := n6.open
        have B6 : Hid (Blk w6 x 79 (ncs d (ledP p t) a6)) := Lib.hid (s6.sep.get (i := 0) rfl)
        have L6 : Hid (Lg w6 a6.lg a6.FL (ledP p t).L) := Lib.hid (s6.sep.get (i := 2) rfl)
        have hT6 : Tm w6 a6.tg a6.FT p.n p.id (ledT p t) := s6.sep.get (i := 4) rfl
        obtain ⟨qg, A6, c6, hBT, hQ, -, -⟩ := hT6
        have T6 := Lib.hid hBT
        have Q6 := Lib.hid hQ
        clear W6 n6 hF6 t6 s6 hBT hQ
        go_wp2_with fail
        refine (others_c B6.out HR.out.mem).mono ?_
        rintro e w7 ⟨Ao, co, rfl, o7, b7⟩
        obtain ⟨L, hL⟩ : ∃ L, PTeam.lst (PTeam.wout p.mem p.id) = L := ⟨_, rfl⟩
        obtain ⟨n7, hn7⟩ : ∃ n, PTeam.cnt (PTeam.wout p.mem p.id) = n := ⟨_, rfl⟩
        have hLn : L.length = n7 := by rw [← hL, ← hn7]; exact PTeam.lst_length _
        have h7c : n7 ≤ 7 := by rw [← hn7]; exact cnt_le7 _
        have HM7 := Lib.hid (show ∀ y ∈ L, PTeam.has (ledT p t).m y = true from fun y hy => by
          have h0 : PTeam.wout p.mem p.id < 128 := PTeam.wout_lt HR.out.mem _
          have h1 : y ∈ PTeam.lst (PTeam.wout p.mem p.id) := by rw [hL]; exact hy
          obtain ⟨y1, y7⟩ := lst_in h0 h1
          have h2 := (PTeam.lst_mem _ h0 y).1 h1
          rw [PTeam.has_wout _ HR.out.mem _ _ y1 y7, Bool.and_eq_true] at h2
          show PTeam.has t.m y = true
          rw [HK.out.m]; exact h2.1)
        have RO := Lib.hid (show Rd w7 w7.heap.size Ao co 1 n7 (is L) by rw [← hL, ← hn7]; exact Rd.of_own o7)
        have HC := Lib.hid (show ∀ Q : List Mp, Q.map Mp.m = L.map (fun dst => sends p dst (ledM p t dst)) → C Q (ledP p t) from fun Q hq => HC2.out HSL.out Q (by rw [hL]; exact hq))
        have e7 : PTeam.cnt (PTeam.wout (ledP p t).mem (ledP p t).id) = n7 := hn7
        rw [e7]
        have B7 := Lib.hid (B6.out.past b7)
        have L7 := Lib.hid (L6.out.past b7)
        have T7 := Lib.hid (T6.out.past b7)
        have Q7 := Lib.hid (Q6.out.past b7)
        have BB7 := Lib.hid b7
        have HZ7 := Lib.hid (show w.heap.size ≤ w7.heap.size from Nat.le_trans (Nat.le_trans B2.out.size HT1.out.size) (Nat.le_trans HT6.out.size b7.size))
        have HW7 := Lib.hid (show (ledT p t).word.length = 7 from HK.out.w7)
        have HAN := Lib.hid (show t.ans < 128 from HK.out.ans)
        have NW := Lib.hid (show ∀ wz, Below w7.heap.size w7 wz → NdW w wz x d F (ledP p t) from fun wz hz => (NdW.then HF1.out HT1.out (NdW.then HF6.out HT6.out (NdW.same N6.out (b7.trans (hz.mono b7.size))))).behind B2.out)
        have HLN := Lib.hid hLn
        clear o7 b7 hL hn7 e7 B6 L6 T6 Q6 hLn BB3 HF1 HT1 HF6 HT6 N6 BB7 HR1
        go_wp2_with fail
        go_loopw [6, 58] (fun s6 s58 wq => ∃ (k : Nat) (A : Option Addr) (c : Nat) (Q : List Mp), s58 = .int .i64 (k : Int) ∧ k ≤ n7 ∧ Q.length ≤ 7 ∧ s6 = .slice A Q.length c ∧ Hid (Q.length = k ∧ Q.map Mp.m = (L.take k).map (fun dst => sends p dst (ledM p t dst))) ∧ Hid (Ow wq w7.heap.size 31 13 A Q.length c (mgs Q)) ∧ Hid (Below w7.heap.size w7 wq)) (fun _ s58 _ => 8 - (intOf s58).toNat)
        case atStart => exact ⟨0, none, 0, [], rfl, by omega, by simp, rfl, Lib.hid ⟨rfl, rfl⟩, Lib.hid (Ow.nil _ _ _ _), Lib.hid (Below.refl _ _)⟩
        case round =>
          obtain ⟨k, A5, c5, Q, rfl, hk, hq7, rfl, HQ, MM, BT⟩ := hrel
          by_cases hkc : k < n7
          · have hq6 : Q.length ≤ 6 := by have := HQ.out.1; omega
            have R2 := (RO.out.past BT.out)
            obtain ⟨b, o, dst, hA, hcell, -, hdst⟩ := R2.int hkc
            subst hA
            have hDL : L[k]? = some dst := by
              have h1 : k < L.length := by rw [HLN.out]; exact hkc
              have e0 : dst = L.getD k 0 := hdst
              rw [e0, List.getD_eq_getElem?_getD, List.getElem?_eq_getElem h1]; rfl
            have HD := Lib.hid hDL
            have HME := Lib.hid (HM7.out dst (List.mem_of_getElem? hDL))
            have B8 := Lib.hid (B7.out.past BT.out)
            have L8 := Lib.hid (L7.out.past BT.out)
            have T8 := Lib.hid (T7.out.past BT.out)
            have Q8 := Lib.hid (Q7.out.past BT.out)
            have k13 : wr.cell? ⟨x, 13, none⟩ = some (.pointer (some ⟨a6.tg, 0, none⟩)) := B8.out.cell rfl
            have k9 : wr.cell? ⟨a6.tg, 9, none⟩ = some (.int .i64 (t.ans : Nat)) := T8.out.cell (tecs_ans HW7.out)
            clear hdst R2 hDL
            go_wp2_with fail
            refine (tHas_c _ t.ans dst HAN.out).mono ?_
            rintro e w8 ⟨rfl, rfl⟩
            obtain ⟨hb, hhb⟩ : ∃ hb, PTeam.has t.ans dst = hb := ⟨_, rfl⟩
            rw [hhb]
            have HH := Lib.hid hhb
            clear hhb k13 k9 hcell
            cases hb
            · have HLM := Lib.hid (show ledM p t dst = instMG (ledP p t) by unfold ledM; rw [if_neg (by rw [HH.out]; decide)])
              go_wp2_with fail
              refine (installMsgG (p := ledP p t) B8.out L8.out dst).mono ?_
              rintro e w15 ⟨A6, c6, rfl, -, b15⟩
              have MA := Lib.hid (MM.out.past (b15.trans ((Below.refl w15.heap.size w15).alloc (Nat.le_refl _) (.cells (mcs (sends p dst (instMG (ledP p t))) A6 c6).toArray 31) |>.mono b15.size)))
              have RN := Lib.hid (Rd.new w15 (mcs (sends p dst (instMG (ledP p t))) A6 c6).toArray 31 13 1 rfl (by unfold maxLen; omega))
              have HSZ := Lib.hid (show w7.heap.size ≤ (w15.alloc (.cells (mcs (sends p dst (instMG (ledP p t))) A6 c6).toArray 31)).heap.size from Nat.le_trans BT.out.size (Nat.le_trans b15.size (by simp)))
              have B1 := Lib.hid ((BT.out.trans (b15.mono BT.out.size)).alloc (Nat.le_trans BT.out.size b15.size) (.cells (mcs (sends p dst (instMG (ledP p t))) A6 c6).toArray 31))
              have HQ2 := Lib.hid (show (Q ++ [⟨(sends p dst (instMG (ledP p t))), A6, c6⟩] : List Mp).length = k + 1 ∧ (Q ++ [⟨(sends p dst (instMG (ledP p t))), A6, c6⟩] : List Mp).map Mp.m = (L.take (k + 1)).map (fun dst => sends p dst (ledM p t dst)) by
                constructor
                · rw [List.length_append, List.length_singleton, HQ.out.1]
                · rw [List.map_append, HQ.out.2, List.take_add_one, List.map_append, HD.out]
                  simp only [Option.toList_some, List.map_cons, List.map_nil, HLM.out])
              clear b15 B8 L8 T8 Q8
              go_wp2_with (first | ((with_reducible show wpList _ _ _ ((⟨some 82, Op.buildSlice _ _ _, _, _, _, _⟩ : Oper) :: _) _ _); go_must (refine wpList_buildMs rfl (.tmp 81) rfl (sends p dst (instMG (ledP p t))) A6 c6 rfl ?_)) | ((with_reducible show wpList _ _ _ ((⟨some 83, _, _, _, _, _⟩ : Oper) :: _) _ _); go_must (refine wpList_app2 rfl (.tmp 78) (.tmp 82) 34 rfl w7.heap.size 31 _ 13 120 Tryz.underlying34 nMsg_info rfl (by omega) A5 Q.length c5 (mgs Q) rfl MA.out _ _ 1 1 (mgc ⟨(sends p dst (instMG (ledP p t))), A6, c6⟩) rfl RN.out (mgc_oneCell _) (by unfold maxLen; omega) (by omega) HSZ.out ?_; intro A7 c7 w16 O3 g3 h3; have M3 := Lib.hid (show Ow w16 w7.heap.size 31 13 A7 (Q.length + 1) c7 (mgs (Q ++ [⟨(sends p dst (instMG (ledP p t))), A6, c6⟩])) by rw [mgs_append, mgs_one]; exact O3); have T9 := Lib.hid (B1.out.trans ((Touch.of_bk g3).below (B := w7.heap.size) (fun s hs => MA.out.low s (mem_bl.1 hs)) HSZ.out)); clear O3 g3 h3)))
              go_roundw
              case rel => exact ⟨k + 1, A7, c7, Q ++ [⟨(sends p dst (instMG (ledP p t))), A6, c6⟩], by go_num, by omega, by rw [HQ2.out.1]; omega, by simp, HQ2, by rw [List.length_append, List.length_singleton]; exact M3, T9⟩
              case measure => simp [intOf]; omega
            · have HLM := Lib.hid (show ledM p t dst = appM (ledP p t) (ledT p t) dst (t.ql + 1) by unfold ledM; rw [if_pos HH.out])
              go_wp2_with fail
              refine (appendMsg_c (p := ledP p t) (t := ledT p t) B8.out T8.out Q8.out KN.out L8.out dst (t.ql + 1) HME.out).mono ?_
              rintro e w15 ⟨A6, c6, rfl, -, b15⟩
              have MA := Lib.hid (MM.out.past (b15.trans ((Below.refl w15.heap.size w15).alloc (Nat.le_refl _) (.cells (mcs (sends p dst (appM (ledP p t) (ledT p t) dst (t.ql + 1))) A6 c6).toArray 31) |>.mono b15.size)))
              have RN := Lib.hid (Rd.new w15 (mcs (sends p dst (appM (ledP p t) (ledT p t) dst (t.ql + 1))) A6 c6).toArray 31 13 1 rfl (by unfold maxLen; omega))
              have HSZ := Lib.hid (show w7.heap.size ≤ (w15.alloc (.cells (mcs (sends p dst (appM (ledP p t) (ledT p t) dst (t.ql + 1))) A6 c6).toArray 31)).heap.size from Nat.le_trans BT.out.size (Nat.le_trans b15.size (by simp)))
              have B1 := Lib.hid ((BT.out.trans (b15.mono BT.out.size)).alloc (Nat.le_trans BT.out.size b15.size) (.cells (mcs (sends p dst (appM (ledP p t) (ledT p t) dst (t.ql + 1))) A6 c6).toArray 31))
              have HQ2 := Lib.hid (show (Q ++ [⟨(sends p dst (appM (ledP p t) (ledT p t) dst (t.ql + 1))), A6, c6⟩] : List Mp).length = k + 1 ∧ (Q ++ [⟨(sends p dst (appM (ledP p t) (ledT p t) dst (t.ql + 1))), A6, c6⟩] : List Mp).map Mp.m = (L.take (k + 1)).map (fun dst => sends p dst (ledM p t dst)) by
                constructor
                · rw [List.length_append, List.length_singleton, HQ.out.1]
                · rw [List.map_append, HQ.out.2, List.take_add_one, List.map_append, HD.out]
                  simp only [Option.toList_some, List.map_cons, List.map_nil, HLM.out])
              clear b15 B8 L8 T8 Q8
              go_wp2_with (first | ((with_reducible show wpList _ _ _ ((⟨some 76, Op.buildSlice _ _ _, _, _, _, _⟩ : Oper) :: _) _ _); go_must (refine wpList_buildMs rfl (.tmp 75) rfl (sends p dst (appM (ledP p t) (ledT p t) dst (t.ql + 1))) A6 c6 rfl ?_)) | ((with_reducible show wpList _ _ _ ((⟨some 77, _, _, _, _, _⟩ : Oper) :: _) _ _); go_must (refine wpList_app2 rfl (.tmp 71) (.tmp 76) 34 rfl w7.heap.size 31 _ 13 120 Tryz.underlying34 nMsg_info rfl (by omega) A5 Q.length c5 (mgs Q) rfl MA.out _ _ 1 1 (mgc ⟨(sends p dst (appM (ledP p t) (ledT p t) dst (t.ql + 1))), A6, c6⟩) rfl RN.out (mgc_oneCell _) (by unfold maxLen; omega) (by omega) HSZ.out ?_; intro A7 c7 w16 O3 g3 h3; have M3 := Lib.hid (show Ow w16 w7.heap.size 31 13 A7 (Q.length + 1) c7 (mgs (Q ++ [⟨(sends p dst (appM (ledP p t) (ledT p t) dst (t.ql + 1))), A6, c6⟩])) by rw [mgs_append, mgs_one]; exact O3); have T9 := Lib.hid (B1.out.trans ((Touch.of_bk g3).below (B := w7.heap.size) (fun s hs => MA.out.low s (mem_bl.1 hs)) HSZ.out)); clear O3 g3 h3)))
              go_roundw
              case rel => exact ⟨k + 1, A7, c7, Q ++ [⟨(sends p dst (appM (ledP p t) (ledT p t) dst (t.ql + 1))), A6, c6⟩], by go_num, by omega, by rw [HQ2.out.1]; omega, by simp, HQ2, by rw [List.length_append, List.length_singleton]; exact M3, T9⟩
              case measure => simp [intOf]; omega
          · obtain rfl : k = n7 := by omega
            go_wp2_with fail
            go_ret
            refine ⟨Q, ledP p t, A5, c5, HC.out Q ?_, rfl, MM.out.down HZ7.out, NW.out _ BT.out⟩
            rw [HQ.out.2, List.take_of_length_le (by rw [HLN.out]; exact Nat.le_refl _)]
      · go_wp2_with fail
        refine (prop_postG N3.out n HNN.out hp1 hp2).mono ?_
        rintro e w4 h4
        have P4 := h4.behind BB3.out
        clear h4
        obtain ⟨Q, p', A5, c5, q1, rfl, q3, q4⟩ := P4
        have Q1' := Lib.hid (HC1.out HSL.out Q p' q1)
        have O4 := Lib.hid (q3.down (Nat.le_trans B2.out.size HT1.out.size))
        have W4' := Lib.hid ((NdW.then HF1.out HT1.out q4).behind B2.out)
        clear q1 q3 q4
        go_wp2_with fail
        go_ret
        exact ⟨Q, p', A5, c5, Q1'.out, rfl, O4.out, W4'.out⟩
end Go.Proofs.YtacipjdaiglnjaaGreatDoor

/- The questions whose probe most answered are taken out (term.reached). -/
namespace Go.Proofs.YtacipjdaiglnjaaGreatDoor
open Go.RowKit

theorem qc_length (q : Qn) : (qc q).length = 3 := rfl
theorem Rd.qn {w : World} {B c n : Nat} {A : Option Addr} {l : List Qn} (h : Rd w B A c 3 n (qns l)) {i : Nat} (hi : i < n) : ∃ b o q, A = some ⟨b, o, none⟩ ∧ b < B ∧ l[i]? = some q ∧ q ∈ l ∧ w.rangeAt b (o + i * 3) (qc q) := by
  have hl : l.length = n := by have := h.len; rw [show (qns l).length = l.length * 3 from rows_len qc_length l] at this; omega
  obtain ⟨b, o, hA, hb, hc⟩ := h.2.2.2.2 (by omega)
  have he : l[i]? = some l[i] := List.getElem?_eq_getElem (by omega)
  refine ⟨b, o, l[i], hA, hb, he, List.getElem_mem _, fun j v hv => ?_⟩
  have hj : j < 3 := by have := (List.getElem?_eq_some_iff.1 hv).1; rw [qc_length] at this; exact this
  have h2 : (qns l)[i * 3 + j]? = some v := by
    rw [show (qns l)[i * 3 + j]? = (qc l[i])[j]? from rows_at qc_length he hj]; exact hv
  have := hc _ _ h2
  rw [show o + i * 3 + j = o + (i * 3 + j) by omega]
  exact this
namespace PNode
/-- How many of the first ones have their probe reached. -/
def nR (l : List Qn) (r : Int) : Nat := (l.takeWhile (fun q => decide (q.probe ≤ r))).length
end PNode
open PNode
theorem nR_le (l : List Qn) (r : Int) : nR l r ≤ l.length := by
  unfold nR
  have := List.takeWhile_append_dropWhile (p := fun q : Qn => decide (q.probe ≤ r)) (l := l)
  have h2 := congrArg List.length this
  rw [List.length_append] at h2
  omega
theorem nR_lt : ∀ {l : List Qn} {r : Int} {k : Nat}, k < nR l r → ∃ q, l[k]? = some q ∧ q.probe ≤ r
  | [], _, _, h => by simp [nR] at h
  | a :: l, r, k, h => by
    unfold nR at h
    rw [List.takeWhile_cons] at h
    split at h
    · rename_i ha
      cases k with
      | zero => exact ⟨a, rfl, of_decide_eq_true ha⟩
      | succ k => exact nR_lt (l := l) (by simpa [nR] using h)
    · simp at h
theorem nR_eq : ∀ {l : List Qn} {r : Int} {q : Qn}, l[nR l r]? = some q → r < q.probe
  | [], _, _, h => by simp at h
  | a :: l, r, q, h => by
    unfold nR at h
    rw [List.takeWhile_cons] at h
    split at h
    · rw [List.length_cons, List.getElem?_cons_succ] at h
      exact nR_eq (l := l) h
    · rename_i ha
      simp only [List.length_nil, List.getElem?_cons_zero, Option.some.injEq] at h
      subst h
      simpa using ha
theorem qns_take (l : List Qn) (i : Nat) : (qns l).take (i * 3) = qns (l.take i) := rows_take qc_length l i
theorem qns_drop (l : List Qn) (i : Nat) : (qns l).drop (i * 3) = qns (l.drop i) := rows_drop qc_length l i
theorem tecs_drop {qg : Nat} {t : Te} {A A2 : Option Addr} {c c2 n : Nat} (hw : t.word.length = 7) : (tecs qg t A c).set 10 (.slice A2 (t.qs.length - n) c2) = tecs qg { t with qs := t.qs.drop n } A2 c2 := by
  unfold tecs is
  rw [List.set_append_right _ _ (by simp [hw])]
  simp [hw]

/-- What it leaves. -/
def ReachPost (w : World) (tg qg : Nat) (t : Te) (A : Option Addr) (c : Nat) (n : Int) (e : Ending) (w' : World) : Prop :=
  ∃ r A2 c2, PQuo.IsR t.P n r ∧ e = .returned (.slice A (nR t.qs r) c) ∧ Rd w' w'.heap.size A c 3 (nR t.qs r) (qns (t.qs.take (nR t.qs r))) ∧ Blk w' tg 173 (tecs qg { t with qs := t.qs.drop (nR t.qs r) } A2 c2) ∧ Og w' 0 176 3 A2 (t.qs.drop (nR t.qs r)).length c2 (qns (t.qs.drop (nR t.qs r))) ∧ bk A2 = bk A ∧ Touch [tg] w w'
set_option maxHeartbeats 8000000 in
set_option maxRecDepth 100000 in
theorem reached_c {w : World} {tg qg : Nat} {t : Te} {A : Option Addr} {c : Nat} {n id : Int} (T : Blk w tg 173 (tecs qg t A c)) (Q : Qs w qg n id t.m t.H t.P t.ql) (K : Qk n id t.m t.H t.P t.ql) (O : Og w 0 176 3 A t.qs.length c (qns t.qs)) (hw : t.word.length = 7) (hn : t.qs.length ≤ 1000000) :
    Calls Tryz.prog 195 #[.pointer (some ⟨tg, 0, none⟩)] w (ReachPost w tg qg t A c n) := by
  have HT := Lib.hid T
  have HQ := Lib.hid Q
  have HK := Lib.hid K
  have HO := Lib.hid O
  have HW := Lib.hid hw
  have HN := Lib.hid hn
  have c0 : w.cell? ⟨tg, 0, none⟩ = some (.pointer (some ⟨qg, 0, none⟩)) := T.cell rfl
  clear T Q K O hw
  go_enter Tryz.func195, Tryz.ntmps195
  go_wp2_with fail
  refine (qprobe_c w qg n id t.m t.H t.P t.ql HQ.out HK.out).mono ?_
  rintro e w1 ⟨r, rfl, hr, b1⟩
  have HR := Lib.hid hr
  have B1 := Lib.hid b1
  have T1 := Lib.hid (HT.out.past b1)
  have O1 := Lib.hid (HO.out.past b1)
  have c10 : w1.cell? ⟨tg, 10, none⟩ = some (.slice A t.qs.length c) := T1.out.cell (tecs_ten HW.out)
  have f10 := T1.out.free 10
  obtain ⟨m, hm⟩ : ∃ m, nR t.qs r = m := ⟨_, rfl⟩
  have hml : m ≤ t.qs.length := by rw [← hm]; exact nR_le _ _
  have HM := Lib.hid hm
  clear hr b1 c0 HT HO HQ HK hm
  go_wp2_with fail
  go_loopw [4] (fun s4 wr => ∃ k : Nat, s4 = .int .i64 (k : Int) ∧ k ≤ m ∧ wr = w1) (fun s4 _ => m - (intOf s4).toNat)
  case atStart => exact ⟨0, rfl, Nat.zero_le _, rfl⟩
  case round =>
    obtain ⟨k, rfl, hk, rfl⟩ := hrel
    by_cases hlt : k < m
    · obtain ⟨q0, hq0, hp⟩ := nR_lt (l := t.qs) (r := r) (k := k) (by rw [HM.out]; exact hlt)
      obtain ⟨b, o, q, rfl, -, hq, -, hrg⟩ := O1.out.rd.qn (i := k) (by omega)
      obtain rfl : q0 = q := Option.some.inj (hq0.symm.trans hq)
      obtain ⟨fr, num, pb⟩ := q0
      have kp : wr.cell? ⟨b, o + k * 3 + 2, none⟩ = some (.int .i64 pb) := hrg 2 _ rfl
      have hp' : pb ≤ r := hp
      clear hq0 hq hrg hp
      go_wp2_with fail
      go_roundw
      case rel => exact ⟨k + 1, by go_num, by omega, trivial⟩
      case measure => simp [intOf]; omega
    · obtain rfl : k = m := by omega
      by_cases hl : k < t.qs.length
      · obtain ⟨b, o, q, rfl, -, hq, -, hrg⟩ := O1.out.rd.qn (i := k) (by omega)
        have hp := nR_eq (l := t.qs) (r := r) (q := q) (by rw [HM.out]; exact hq)
        obtain ⟨fr, num, pb⟩ := q
        have kp : wr.cell? ⟨b, o + k * 3 + 2, none⟩ = some (.int .i64 pb) := hrg 2 _ rfl
        have hp' : ¬ pb ≤ r := by have : r < pb := hp; omega
        clear hq hrg hp
        have hcap := O1.out.rd.le
        obtain ⟨X, hX⟩ : ∃ X, (if c = k then (some ⟨b, o, none⟩ : Option Addr) else (some ⟨b, o, none⟩ : Option Addr).map (·.add (k * 3))) = X := ⟨_, rfl⟩
        have HX := Lib.hid hX
        have OX := Lib.hid (show Og wr 0 176 3 X (t.qs.length - k) (c - k) (qns (t.qs.drop k)) by rw [← hX, ← qns_drop]; exact O1.out.cutTail hml)
        have HBK := Lib.hid (show bk X = bk (some ⟨b, o, none⟩) by rw [← hX]; exact bk_cutTail)
        clear hX
        go_wp2_with (first | ((with_reducible show wpList _ _ _ ((⟨some 37, Op.slice _ _ _ _ _, _, _, _, _⟩ : Oper) :: _) _ _); go_must (refine wpList_headS rfl 171 _ _ rfl 176 _ 3 _ Tryz.underlying171 nQn_info (some ⟨b, o, none⟩) c t.qs.length k rfl rfl (Nat.le_trans hml hcap) ?_)) | ((with_reducible show wpList _ _ _ ((⟨some 44, Op.slice _ _ _ _ _, _, _, _, _⟩ : Oper) :: _) _ _); go_must (refine wpList_cutX rfl 171 _ _ rfl 176 _ 3 _ Tryz.underlying171 nQn_info (some ⟨b, o, none⟩) X c t.qs.length k rfl rfl hml hcap HX.out ?_)))
        go_ret
        have T2 := T1.out.set 10 (.slice X (t.qs.length - k) (c - k))
        rw [tecs_drop HW.out] at T2
        have t2 := (Touch.refl [tg] wr).cell (g := tg) (by simp) 10 (.slice X (t.qs.length - k) (c - k))
        have hne : ∀ g ∈ [tg], bk X ≠ some g := fun g hg => by rw [List.mem_singleton.1 hg]; exact OX.out.ne T1.out (by decide)
        have hneA : ∀ g ∈ [tg], bk (some ⟨b, o, none⟩) ≠ some g := fun g hg => by rw [List.mem_singleton.1 hg]; exact O1.out.ne T1.out (by decide)
        refine ⟨r, X, c - k, HR.out, by rw [HM.out]; rfl, ?_, ?_, ?_, HBK.out, (show Touch [tg] w wr from .of_below B1.out).trans t2⟩
        · rw [HM.out, ← qns_take]; exact (O1.out.touch t2 hneA).rd.headN hml
        · rw [HM.out]; exact T2
        · rw [HM.out, List.length_drop]; exact OX.out.touch t2 hne
      · have hkl : k = t.qs.length := by omega
        subst hkl
        clear hl
        have hcap := O1.out.rd.le
        obtain ⟨X, hX⟩ : ∃ X, (if c = t.qs.length then A else A.map (·.add (t.qs.length * 3))) = X := ⟨_, rfl⟩
        have HX := Lib.hid hX
        have OX := Lib.hid (show Og wr 0 176 3 X (t.qs.length - t.qs.length) (c - t.qs.length) (qns (t.qs.drop t.qs.length)) by rw [← hX, ← qns_drop]; exact O1.out.cutTail hml)
        have HBK := Lib.hid (show bk X = bk A by rw [← hX]; exact bk_cutTail)
        clear hX
        go_wp2_with (first | ((with_reducible show wpList _ _ _ ((⟨some 37, Op.slice _ _ _ _ _, _, _, _, _⟩ : Oper) :: _) _ _); go_must (refine wpList_headS rfl 171 _ _ rfl 176 _ 3 _ Tryz.underlying171 nQn_info A c t.qs.length t.qs.length rfl rfl (Nat.le_trans hml hcap) ?_)) | ((with_reducible show wpList _ _ _ ((⟨some 44, Op.slice _ _ _ _ _, _, _, _, _⟩ : Oper) :: _) _ _); go_must (refine wpList_cutX rfl 171 _ _ rfl 176 _ 3 _ Tryz.underlying171 nQn_info A X c t.qs.length t.qs.length rfl rfl hml hcap HX.out ?_)))
        go_ret
        have T2 := T1.out.set 10 (.slice X (t.qs.length - t.qs.length) (c - t.qs.length))
        rw [tecs_drop HW.out] at T2
        have t2 := (Touch.refl [tg] wr).cell (g := tg) (by simp) 10 (.slice X (t.qs.length - t.qs.length) (c - t.qs.length))
        simp only [Nat.sub_self] at T2 t2
        have hne : ∀ g ∈ [tg], bk X ≠ some g := fun g hg => by rw [List.mem_singleton.1 hg]; exact OX.out.ne T1.out (by decide)
        have hneA : ∀ g ∈ [tg], bk A ≠ some g := fun g hg => by rw [List.mem_singleton.1 hg]; exact O1.out.ne T1.out (by decide)
        refine ⟨r, X, c - t.qs.length, HR.out, by rw [HM.out]; rfl, ?_, ?_, ?_, HBK.out, (show Touch [tg] w wr from .of_below B1.out).trans t2⟩
        · rw [HM.out, ← qns_take]; exact (O1.out.touch t2 hneA).rd.headN hml
        · rw [HM.out]; exact T2
        · rw [HM.out, List.length_drop]; exact OX.out.touch t2 hne
end Go.Proofs.YtacipjdaiglnjaaGreatDoor

/- The commit rises (raiseCommit); a process answers its own questions (answer). -/
namespace Go.Proofs.YtacipjdaiglnjaaGreatDoor
open Go.RowKit PNode

theorem Nr.raise {p : Np} (h : Nr p) (k : Int) : Nr { p with com := max p.com (min k p.L.length) } :=
  ⟨h.n, h.id, h.boot, h.pro, h.clock, h.heard, h.last, h.mem, ⟨by have := h.com.1; have := Int.le_max_left p.com (min k p.L.length); show 0 ≤ max p.com (min k p.L.length); omega, Int.max_le.2 ⟨h.com.2, Int.min_le_right _ _⟩⟩, h.vo, h.den, h.pf, h.seq⟩
set_option maxHeartbeats 4000000 in
set_option maxRecDepth 100000 in
theorem raise_c {w : World} {x d : Nat} {F : List Nat} {p : Np} (h : Nd w x d F p) (k : Int) :
    Calls Tryz.prog 149 #[.pointer (some ⟨x, 0, none⟩), .int .i64 k] w fun e w' => e = .returned (.tuple #[]) ∧ NdW w w' x d F { p with com := max p.com (min k p.L.length) } := by
  obtain ⟨a, s0, hr⟩ := h.open
  have HR := Lib.hid (hr.raise k)
  have S0 := Lib.hid s0
  have B0 : Blk w x 79 (ncs d p a) := s0.sep.get (i := 0) rfl
  have L0 : Hid (Lg w.drew a.lg a.FL p.L) := Lib.hid (Lg.drew (show Lg w a.lg a.FL p.L from s0.sep.get (i := 2) rfl))
  have c9 : w.cell? ⟨x, 9, none⟩ = some (.pointer (some ⟨a.lg, 0, none⟩)) := B0.cell rfl
  have c10 : w.cell? ⟨x, 10, none⟩ = some (.int .i64 p.com) := B0.cell rfl
  have f10 := B0.free 10
  have BB := Lib.hid B0
  clear h hr s0 B0
  go_enter Tryz.func149, Tryz.ntmps149
  go_wp2_with fail
  go_region_with (go_at_call 144; refine (Len_c w.drew a.lg a.FL p.L L0.out).mono ?_; rintro e w3 ⟨rfl, rfl⟩)
  all_goals
    go_end0
    have B3 : Blk (w.setCell ⟨x, 10, none⟩ (.int .i64 (max p.com (min k p.L.length)))) x 79 (ncs d { p with com := max p.com (min k p.L.length) } a) := BB.out.set 10 _
    have T3 : Touch [x] w (w.setCell ⟨x, 10, none⟩ (.int .i64 (max p.com (min k p.L.length)))) := (Touch.refl [x] w).cell (g := x) (by simp) 10 _
    have S3 := S0.out.set 0 rfl (pX_ok x d { p with com := max p.com (min k p.L.length) } a) T3 B3 (fun k hk => .inl hk)
    exact ⟨rfl, (show St okN w _ F (parts x d { p with com := max p.com (min k p.L.length) } a) from S3.drew).shut HR.out⟩

namespace PNode
/-- A question of its own is answered. -/
def gotQ (p : Np) (num : Int) : Np := if PProof.opn p.pl p.pc num = true then { p with pc := num, pp := true, pk := PProof.tm p.pA num, pm := p.com } else p
def gotQs (p : Np) (l : List Qn) : Np := l.foldl (fun p q => gotQ p q.num) p
end PNode
theorem gotQs_next {p : Np} {l : List Qn} {k : Nat} {q : Qn} (h : l[k]? = some q) : gotQs p (l.take (k + 1)) = gotQ (gotQs p (l.take k)) q.num := by
  unfold gotQs
  rw [List.take_add_one, h, Option.toList_some, List.foldl_append]
  rfl
theorem gotQ_same (p : Np) (num : Int) : (gotQ p num).id = p.id ∧ (gotQ p num).com = p.com ∧ (gotQ p num).L = p.L ∧ (gotQ p num).te = p.te ∧ (gotQ p num).n = p.n := by
  unfold gotQ
  split <;> exact ⟨rfl, rfl, rfl, rfl, rfl⟩
theorem gotQs_same (p : Np) : ∀ (l : List Qn), (gotQs p l).id = p.id ∧ (gotQs p l).com = p.com ∧ (gotQs p l).L = p.L ∧ (gotQs p l).te = p.te ∧ (gotQs p l).n = p.n := by
  intro l
  induction l generalizing p with
  | nil => exact ⟨rfl, rfl, rfl, rfl, rfl⟩
  | cons q r ih =>
    have h1 := ih (gotQ p q.num)
    have h2 := gotQ_same p q.num
    exact ⟨h1.1.trans h2.1, h1.2.1.trans h2.2.1, h1.2.2.1.trans h2.2.2.1, h1.2.2.2.1.trans h2.2.2.2.1, h1.2.2.2.2.trans h2.2.2.2.2⟩

set_option maxHeartbeats 4000000 in
set_option maxRecDepth 100000 in
/-- proof.Get of a process's own proof. -/
theorem getQ_c {w w1 : World} {x d : Nat} {F : List Nat} {p : Np} {a : Na} (S : St okN w w1 F (parts x d p a)) (hr : Nr p) (num : Int) :
    Calls Tryz.prog 97 #[.pointer (some ⟨a.pg, 0, none⟩), .int .i64 num, .int .i64 p.com] w1 fun e w' => ∃ b, e = .returned (.bool b) ∧ St okN w w' F (parts x d (gotQ p num) a) ∧ Nr (gotQ p num) ∧ Touch [a.pg] w1 w' := by
  have P1 : Pf w1 a.pg p.pl p.pc p.pA p.pp p.pk p.pm := S.sep.get (i := 7) rfl
  unfold gotQ
  cases ho : PProof.opn p.pl p.pc num
  · refine (pget_no w1 a.pg p.pl p.pc p.pA p.pp p.pk p.pm P1 hr.pf num p.com ho).mono ?_
    rintro e w' ⟨rfl, rfl⟩
    exact ⟨false, rfl, S, hr, .refl _ _⟩
  · refine (pget_yes w1 a.pg p.pl p.pc p.pA p.pp p.pk p.pm P1 hr.pf num p.com ho).mono ?_
    rintro e w' ⟨rfl, P2, K2, T2⟩
    exact ⟨true, rfl, S.set 7 rfl (pP_ok { p with pc := num, pp := true, pk := PProof.tm p.pA num, pm := p.com } a) T2 P2 (fun k hk => .inl hk), ⟨hr.n, hr.id, hr.boot, hr.pro, hr.clock, hr.heard, hr.last, hr.mem, hr.com, hr.vo, hr.den, K2, hr.seq⟩, T2⟩
end Go.Proofs.YtacipjdaiglnjaaGreatDoor

/- A process answers its own questions (answer). -/
namespace Go.Proofs.YtacipjdaiglnjaaGreatDoor
open Go.RowKit PNode

namespace PNode
/-- What it is behind its answer: the questions whose probe r is reached are gone. -/
def ansP (p : Np) (t : Te) (r : Int) : Np := gotQs { p with te := some { t with qs := t.qs.drop (nR t.qs r) } } (t.qs.take (nR t.qs r))
end PNode
theorem belN (w : World) (n : Nat) : Below w.heap.size w (w.drewN n) := have h := Below.refl w.heap.size w; ⟨h.os, h.tape, h.output, h.size, h.block⟩
theorem Rd.touchA {w w' : World} {B c k n : Nat} {A : Option Addr} {xs : List Value} {S : List Nat} (h : Rd w B A c k n xs) (hB : B ≤ w.heap.size) (ht : Touch S w w') (hA : ∀ g ∈ S, bk A ≠ some g) : Rd w' B A c k n xs :=
  ⟨h.1, h.2.1, h.2.2.1, h.2.2.2.1, fun hn => by
    obtain ⟨b, o, e, hb, hc⟩ := h.2.2.2.2 hn
    refine ⟨b, o, e, hb, fun j u hu => ?_⟩
    have h1 := ht.block b (by omega) (fun hm => hA b hm (by rw [e]; rfl))
    have h2 := hc j u hu
    unfold World.cell? at h2 ⊢
    rw [h1]
    exact h2⟩

set_option maxHeartbeats 16000000 in
set_option maxRecDepth 100000 in
theorem answer_c {w : World} {x d : Nat} {F : List Nat} {p : Np} {t : Te} (h : Nd w x d F { p with te := some t }) (K : Qk p.n p.id t.m t.H t.P t.ql) (hw : t.word.length = 7) (hq : t.qs.length ≤ 1000000) (own : ∀ q ∈ t.qs, q.fr = p.id) (C : List Mp → Np → Prop)
    (hC1 : p.com < t.start → C [] { p with te := some t }) (hC2 : t.start ≤ p.com → ∀ r, PQuo.IsR t.P p.n r → C [] (ansP p t r)) :
    Calls Tryz.prog 154 #[.pointer (some ⟨x, 0, none⟩)] w (TickPost w x d F C) := by
  obtain ⟨a, s0, hr⟩ := h.open
  have HR := Lib.hid hr
  have HK := Lib.hid K
  have HC1 := Lib.hid hC1
  have HC2 := Lib.hid hC2
  have HW := Lib.hid hw
  have HQ := Lib.hid hq
  have HOWN := Lib.hid own
  have HN := Lib.hid h
  have S0 := Lib.hid s0
  have B0 : Blk w x 79 (ncs d { p with te := some t } a) := s0.sep.get (i := 0) rfl
  have hT : Tm w a.tg a.FT p.n p.id t := s0.sep.get (i := 4) rfl
  obtain ⟨qg, Aq, cq, hBT, hQ, hO, hF⟩ := hT
  have c10 : w.cell? ⟨x, 10, none⟩ = some (.int .i64 p.com) := B0.cell rfl
  have c13 : w.cell? ⟨x, 13, none⟩ = some (.pointer (some ⟨a.tg, 0, none⟩)) := B0.cell rfl
  have c1 : w.cell? ⟨a.tg, 1, none⟩ = some (.int .i64 t.start) := hBT.cell rfl
  have BB := Lib.hid B0
  have T0 := Lib.hid hBT
  have Q0 := Lib.hid hQ
  have O0 := Lib.hid hO
  have HFT := Lib.hid hF
  clear h hr s0 K hw hq own hC1 hC2 B0 hBT hQ hO hF
  by_cases hlt : p.com < t.start
  · have hdec : decide (p.com < t.start) = true := decide_eq_true hlt
    go_enter Tryz.func154, Tryz.ntmps154
    go_wp2_with fail
    go_quiet (fail)
    go_wp2_with fail
    go_ret
    exact ⟨[], { p with te := some t }, none, 0, HC1.out hlt, rfl, Ow.nil _ _ _ _, NdW.same HN.out (belN w _)⟩
  · have hdec : decide (p.com < t.start) = false := decide_eq_false hlt
    have hle : t.start ≤ p.com := by omega
    go_enter Tryz.func154, Tryz.ntmps154
    go_wp2_with fail
    go_quiet (fail)
    go_wp2_with fail
    have bN := Lib.hid (belN w nq)
    refine (reached_c (T0.out.past bN.out) (Qs.past Q0.out bN.out) HK.out (O0.out.past bN.out) HW.out HQ.out).mono ?_
    rintro e w2 ⟨r, A2, c2, hr2, rfl, R2, T2, O2, hbk, t2⟩
    have HRS := Lib.hid hr2
    have hpo : bk Aq ≠ some a.pg := O0.out.ne (show Pf w a.pg p.pl p.pc p.pA p.pp p.pk p.pm from S0.out.sep.get (i := 7) rfl) (by decide)
    have S2 := Lib.hid ((S0.out.past bN.out).set 4 rfl (pT_ok p.n p.id a (some { t with qs := t.qs.drop (nR t.qs r) })) (t2.wide (by intro k hk; rw [List.mem_singleton.1 hk]; show a.tg ∈ a.FT; rw [HFT.out]; simp)) (show Tm w2 a.tg a.FT p.n p.id { t with qs := t.qs.drop (nR t.qs r) } from ⟨qg, A2, c2, T2, Qs.touch (Qs.past Q0.out bN.out) t2 (by rw [List.mem_singleton]; exact fun h => Q0.out.ne T0.out (by decide) h.symm), O2, by rw [HFT.out]; unfold bl; rw [hbk]⟩) (fun k hk => .inl hk))
    obtain ⟨l, hl⟩ : ∃ l, t.qs.take (nR t.qs r) = l := ⟨_, rfl⟩
    obtain ⟨m, hm⟩ : ∃ m, nR t.qs r = m := ⟨_, rfl⟩
    obtain ⟨p2, hp2⟩ : ∃ p2 : Np, { p with te := some { t with qs := t.qs.drop (nR t.qs r) } } = p2 := ⟨_, rfl⟩
    have hlm : l.length = m := by rw [← hl, ← hm, List.length_take]; have := nR_le t.qs r; omega
    have hm6 : m ≤ 1000000 := by rw [← hm]; exact Nat.le_trans (nR_le _ _) HQ.out
    have HOL := Lib.hid (show ∀ q ∈ l, q.fr = p2.id from fun q hq => by rw [← hp2]; exact HOWN.out q (by rw [← hl] at hq; exact List.mem_of_mem_take hq))
    have HAP := Lib.hid (show ansP p t r = gotQs p2 l by unfold ansP; rw [hp2, hl])
    have RQ := Lib.hid (show Rd w2 w2.heap.size Aq cq 3 m (qns l) by rw [← hl, ← hm]; exact R2)
    have SP := Lib.hid (show St okN w w2 F (parts x d p2 a) by rw [← hp2]; exact S2.out)
    have HR2 := Lib.hid (show Nr p2 by rw [← hp2]; exact ⟨HR.out.n, HR.out.id, HR.out.boot, HR.out.pro, HR.out.clock, HR.out.heard, HR.out.last, HR.out.mem, HR.out.com, HR.out.vo, HR.out.den, HR.out.pf, HR.out.seq⟩)
    have HLM := Lib.hid hlm
    have HPO := Lib.hid hpo
    rw [hm]
    have HZ := Lib.hid (show w.heap.size ≤ w2.heap.size from t2.size)
    clear bN hr2 R2 T2 O2 hbk t2 S2 hl hm hp2 hlm hpo c10 c13 c1 BB T0 Q0 O0 S0 HN HR HOWN HK HW HQ HFT
    go_wp2_with fail
    go_loopw [3, 24] (fun s3 s24 wq => ∃ k : Nat, s24 = .int .i64 (k : Int) ∧ k ≤ m ∧ s3 = .slice none 0 0 ∧ Hid (St okN w wq F (parts x d (gotQs p2 (l.take k)) a)) ∧ Hid (Nr (gotQs p2 (l.take k))) ∧ Hid (Touch [a.pg] w2 wq)) (fun _ s24 _ => m - (intOf s24).toNat)
    case atStart => exact ⟨0, rfl, Nat.zero_le _, rfl, SP, HR2, Lib.hid (Touch.refl _ _)⟩
    case round =>
      obtain ⟨k, rfl, hk, rfl, SK, RK, TK⟩ := hrel
      by_cases hkm : k < m
      · have RW := RQ.out.touchA (Nat.le_refl _) TK.out (by intro g hg; rw [List.mem_singleton.1 hg]; exact HPO.out)
        obtain ⟨b, o, q, rfl, hb, hlk, hmem, hrg⟩ := RW.qn hkm
        have hfr : q.fr = p2.id := HOL.out q hmem
        have HNX := Lib.hid (gotQs_next (p := p2) hlk)
        obtain ⟨fr, num, pb⟩ := q
        obtain rfl : fr = p2.id := hfr
        have HRG := Lib.hid (show wr.rangeAt b (o + k * 3) [.int .i64 p2.id, .int .i64 num, .int .i64 pb] from hrg)
        obtain ⟨i1, i2, -, -, -⟩ := gotQs_same p2 (l.take k)
        obtain ⟨pk, hpk⟩ : ∃ pk, gotQs p2 (l.take k) = pk := ⟨_, rfl⟩
        rw [hpk] at SK RK HNX i1 i2
        have KZ := Lib.hid (Blk.new wr #[.int .i64 0, .int .i64 0, .int .i64 0] 176)
        have K5 := Lib.hid (show Blk ((wr.alloc (.cells #[.int .i64 0, .int .i64 0, .int .i64 0] 176)).setRow wr.heap.size #[.int .i64 p2.id, .int .i64 num, .int .i64 pb]) wr.heap.size 176 (qc ⟨p2.id, num, pb⟩) from Blk.row KZ.out #[.int .i64 p2.id, .int .i64 num, .int .i64 pb])
        have b5 := Lib.hid (((Below.refl wr.heap.size wr).alloc (Nat.le_refl _) (.cells #[.int .i64 0, .int .i64 0, .int .i64 0] 176)).trans (grown_below (grown_row (wr.alloc (.cells #[.int .i64 0, .int .i64 0, .int .i64 0] 176)) wr.heap.size #[.int .i64 p2.id, .int .i64 num, .int .i64 pb]) (Nat.le_refl _) (by simp)))
        have S5 := Lib.hid (SK.out.past b5.out)
        have T5 := Lib.hid (show Touch [a.pg] w2 ((wr.alloc (.cells #[.int .i64 0, .int .i64 0, .int .i64 0] 176)).setRow wr.heap.size #[.int .i64 p2.id, .int .i64 num, .int .i64 pb]) from TK.out.trans (.of_below b5.out))
        clear hb hlk hmem hrg RW hpk SK TK b5
        go_wp2_with (first | ((with_reducible show wpList _ _ _ ((⟨none, Op.store 176 (.tmp 5) _, _, _, _, _⟩ : Oper) :: _) _ _); go_must (refine wpList_store_row rfl 176 (.tmp 5) (.tmp 27) rfl wr.heap.size _ rfl rfl _ _ KZ.out (by kernel_rfl) (by rfl) (by kernel_rfl) ?_)) | ((with_reducible show wpList _ _ _ ((⟨some 27, Op.load _ _, _, _, _, _⟩ : Oper) :: _) _ _); go_must (refine wpList_load_mid rfl 176 (.tmp 26) rfl b (o + k * 3) rfl [.int .i64 p2.id, .int .i64 num, .int .i64 pb] _ HRG.out Tryz.underlying176 rfl (by kernel_rfl) ?_)))
        clear KZ HRG
        generalize ((wr.alloc (.cells #[.int .i64 0, .int .i64 0, .int .i64 0] 176)).setRow wr.heap.size #[.int .i64 p2.id, .int .i64 num, .int .i64 pb]) = w5 at *
        have k0 : w5.cell? ⟨wr.heap.size, 0, none⟩ = some (.int .i64 p2.id) := K5.out.cell rfl
        have k1 : w5.cell? ⟨wr.heap.size, 1, none⟩ = some (.int .i64 num) := K5.out.cell rfl
        have B5 : Hid (Blk w5 x 79 (ncs d pk a)) := Lib.hid (S5.out.sep.get (i := 0) rfl)
        have e0' : w5.cell? ⟨x, 0, none⟩ = some (.int .i64 pk.id) := B5.out.cell rfl
        have e0 : w5.cell? ⟨x, 0, none⟩ = some (.int .i64 p2.id) := by rw [i1] at e0'; exact e0'
        have e10 : w5.cell? ⟨x, 10, none⟩ = some (.int .i64 pk.com) := B5.out.cell rfl
        have e16 : w5.cell? ⟨x, 16, none⟩ = some (.pointer (some ⟨a.pg, 0, none⟩)) := B5.out.cell rfl
        clear e0' i1 i2
        clear K5 B5
        have heq : (p2.id == p2.id) = true := by simp
        go_quiet (fail)
        have S6 := Lib.hid (S5.out.past (belN w5 nq))
        have T6 := Lib.hid (show Touch [a.pg] w2 (w5.drewN nq) from T5.out.trans (.of_below (belN w5 nq)))
        have k1' : (w5.drewN nq).cell? ⟨wr.heap.size, 1, none⟩ = some (.int .i64 num) := k1
        have e10' : (w5.drewN nq).cell? ⟨x, 10, none⟩ = some (.int .i64 pk.com) := e10
        have e16' : (w5.drewN nq).cell? ⟨x, 16, none⟩ = some (.pointer (some ⟨a.pg, 0, none⟩)) := e16
        clear k0 k1 e0 e10 e16 S5 T5 heq
        generalize w5.drewN nq = w6 at *
        go_wp2_with fail
        go_region_with (go_at_call 97; refine (getQ_c S6.out.drew RK.out num).mono ?_; rintro e w7 ⟨bv, rfl, S7, R7, t7⟩)
        all_goals
          have S8 := Lib.hid (show St okN w w7 F (parts x d (gotQs p2 (l.take (k + 1))) a) by rw [HNX.out]; exact S7)
          have R8 := Lib.hid (show Nr (gotQs p2 (l.take (k + 1))) by rw [HNX.out]; exact R7)
          have T8 := Lib.hid (T6.out.drew.trans t7)
          clear S7 R7 t7 S6 T6 k1' e10' e16'
          go_wp2_with fail
          go_roundw
          case rel => exact ⟨k + 1, by go_num, by omega, rfl, S8, R8, T8⟩
          case measure => simp [intOf]; omega
      · obtain rfl : k = m := by omega
        have HTL := Lib.hid (show l.take k = l by rw [List.take_of_length_le (by rw [HLM.out]; exact Nat.le_refl _)])
        go_wp2_with fail
        go_ret
        have W := SK.out.shut RK.out
        rw [HTL.out, ← HAP.out] at W
        exact ⟨[], ansP p t r, none, 0, HC2.out hle r HRS.out, rfl, Ow.nil _ _ _ _, W⟩
end Go.Proofs.YtacipjdaiglnjaaGreatDoor

/- MAck heard by one that decides (hearAck). -/
namespace Go.Proofs.YtacipjdaiglnjaaGreatDoor
open Go.RowKit PNode

namespace PNode
def ackH (t : Te) (m : Msg) : Te := { t with H := PQuo.upd t.H m.fr m.pos, P := if m.num ≤ t.ql then PQuo.upd t.P m.fr m.num else t.P }
/-- The term behind an MAck. -/
def ackT (p : Np) (t : Te) (m : Msg) : Te := { ackH t m with word := t.word.set (m.fr - 1).toNat p.clock, ans := PTeam.wth t.ans m.fr }
def comP (p : Np) (r : Int) : Np := { p with com := max p.com (min r p.L.length) }
end PNode
theorem tecs_setW {qg : Nat} {t : Te} {A : Option Addr} {c j : Nat} {v : Int} (hj : j < 7) (hw : t.word.length = 7) : (tecs qg t A c).set (2 + j) (.int .i64 v) = tecs qg { t with word := t.word.set j v } A c := by
  unfold tecs
  rw [List.set_append_left _ _ (by simp [is_length]; omega), List.set_append_right _ _ (by simp)]
  rw [show 2 + j - [Value.pointer (some ⟨qg, 0, none⟩), .int .i64 t.start].length = j by simp]
  unfold is
  rw [List.map_set]
theorem tecs_setA {qg : Nat} {t : Te} {A : Option Addr} {c u : Nat} (hw : t.word.length = 7) : (tecs qg t A c).set 9 (.int .i64 (u : Nat)) = tecs qg { t with ans := u } A c := by
  unfold tecs is
  rw [List.set_append_right _ _ (by simp [hw])]
  simp [hw]

section
variable {w : World} {dst : Option Tmp} {ty : TypeId} {pos : String} {after : Array Edge} {guard : Option (Nat × Bool)} {ρ : Operand → Value}
theorem stTeamN {y z : Operand} {g i : Nat} {u v : Int} (h : w.cell? ⟨g, i, none⟩ = some (.int .i64 v)) (hf : w.frozen? ⟨g, i, none⟩ = false) (hy : ρ y = .pointer (some ⟨g, i, none⟩)) (hz : ρ z = .int .i64 u) :
    (execOp ρ { dst := none, op := .store 43 y z, type := ty, pos, after, guard }).run Tryz.prog w = .ok .skip (w.setCell ⟨g, i, none⟩ (.int .i64 u)) := by
  go_simp
end

set_option maxHeartbeats 16000000 in
set_option maxRecDepth 100000 in
theorem hearAck_c {w : World} {x d : Nat} {F : List Nat} {p : Np} {t : Te} (h : Nd w x d F { p with te := some t }) (K : Lt p t) (own : ∀ q ∈ t.qs, q.fr = p.id) (m : Msg) (A : Option Addr) (c : Nat)
    (hfr : PTeam.has t.m m.fr = true) (hpos : 0 ≤ m.pos ∧ m.pos ≤ 60) (C : List Mp → Np → Prop)
    (hC1 : ∀ r, PQuo.IsR (ackH t m).H p.n r → (comP p r).com < t.start → C [] { comP p r with te := some (ackT p t m) })
    (hC2 : ∀ r, PQuo.IsR (ackH t m).H p.n r → t.start ≤ (comP p r).com → ∀ s, PQuo.IsR (ackH t m).P p.n s → C [] (ansP (comP p r) (ackT p t m) s)) :
    Calls Tryz.prog 98 #[.pointer (some ⟨x, 0, none⟩), mv m A c] w (TickPost w x d F C) := by
  obtain ⟨a, s0, hr⟩ := h.open
  have HR := Lib.hid hr
  have HK := Lib.hid K
  have HOWN := Lib.hid own
  have HC1 := Lib.hid hC1
  have HC2 := Lib.hid hC2
  have HFR := Lib.hid hfr
  have HPOS := Lib.hid hpos
  have b0 := Lib.hid ((Below.refl w.heap.size w).alloc (Nat.le_refl _) (.cells (mcs m A c).toArray 31))
  have K1 := Lib.hid (show Blk (w.alloc (.cells (mcs m A c).toArray 31)) w.heap.size 31 (mcs m A c) from Blk.new w (mcs m A c).toArray 31)
  have S1 := Lib.hid (s0.past b0.out)
  obtain ⟨f1, f7⟩ : 1 ≤ m.fr ∧ m.fr ≤ 7 := by
    refine Decidable.by_contra fun hn => ?_
    rw [PTeam.has_out t.m (id := m.fr) (by omega)] at hfr
    cases hfr
  clear h s0 hr K own hC1 hC2 hfr hpos
  show Calls _ _ #[_, .agg (mcs m A c).toArray] _ _
  go_enter Tryz.func98, Tryz.ntmps98
  go_wp2_with fail
  generalize (w.alloc (.cells (mcs m A c).toArray 31)) = w1 at *
  have B1 : Hid (Blk w1 x 79 (ncs d { p with te := some t } a)) := Lib.hid (S1.out.sep.get (i := 0) rfl)
  have hT : Tm w1 a.tg a.FT p.n p.id t := S1.out.sep.get (i := 4) rfl
  obtain ⟨qg, Aq, cq, hBT, hQ, hO, hF⟩ := hT
  have T1 := Lib.hid hBT
  have Q1 := Lib.hid hQ
  have O1 := Lib.hid hO
  have HFT := Lib.hid hF
  have hxq : x ≠ qg := hQ.ne B1.out (by decide)
  have htq : a.tg ≠ qg := hQ.ne hBT (by decide)
  have hkq : w.heap.size ≠ qg := hQ.ne K1.out (by decide)
  have HX := Lib.hid (show x ∉ [qg] by rw [List.mem_singleton]; exact hxq)
  have HT := Lib.hid (show a.tg ∉ [qg] by rw [List.mem_singleton]; exact htq)
  have HKQ := Lib.hid (show w.heap.size ∉ [qg] by rw [List.mem_singleton]; exact hkq)
  have HOQ := Lib.hid (show ∀ g ∈ [qg], bk Aq ≠ some g from fun g hg => by rw [List.mem_singleton.1 hg]; exact hO.ne hQ (by decide))
  clear hBT hQ hO hF hxq htq hkq
-- REGION (*curfew/node.Node).hearAck 1 nhack1 2
  refine Hs.begin ([qg]) ?_
  refine Hs.take (v := .pointer (some ⟨x, 0, none⟩)) 0 5 rfl ?_ (fun _ _ => rfl)
  refine Hs.take (v := .pointer (some ⟨x, 0, none⟩)) 1 6 rfl ?_ (fun w' hw' => by go_simp; first | done | rfl | (simp; omega))
  refine Hs.take (v := .pointer (some ⟨x, 13, none⟩)) 2 7 rfl ?_ (fun w' hw' => by go_simp; first | done | rfl | (simp; omega))
  refine Hs.take (v := .pointer (some ⟨a.tg, 0, none⟩)) 3 8 rfl ?_ (fun w' hw' => by exact ldTerm (Blk.cell (i := 13) (Blk.touch (show Blk w1.drew x 79 (ncs d { p with te := some t } a) from B1.out) hw' HX.out) rfl) rfl)
  refine Hs.take (v := .pointer (some ⟨a.tg, 0, none⟩)) 4 9 rfl ?_ (fun w' hw' => by go_simp; first | done | rfl | (simp; omega))
  refine Hs.take (v := .pointer (some ⟨a.tg, 0, none⟩)) 5 10 rfl ?_ (fun w' hw' => by go_simp; first | done | rfl | (simp; omega))
  refine Hs.take (v := .pointer (some ⟨qg, 0, none⟩)) 6 11 rfl ?_ (fun w' hw' => by exact ldQuo (Blk.cell (i := 0) (Blk.touch (show Blk w1.drew a.tg 173 (tecs qg t Aq cq) from T1.out) hw' HT.out) rfl) rfl)
  refine Hs.take (v := .pointer (some ⟨w.heap.size, 1, none⟩)) 7 12 rfl ?_ (fun w' hw' => by go_simp; first | done | rfl | (simp; omega))
  refine Hs.take (v := .int .i64 m.fr) 8 13 rfl ?_ (fun w' hw' => by exact ldInt (Blk.cell (i := 1) (Blk.touch (show Blk w1.drew w.heap.size 31 (mcs m A c) from K1.out) hw' HKQ.out) rfl) rfl)
  refine Hs.take (v := .pointer (some ⟨w.heap.size, 7, none⟩)) 9 14 rfl ?_ (fun w' hw' => by go_simp; first | done | rfl | (simp; omega))
  refine Hs.take (v := .int .i64 m.pos) 10 15 rfl ?_ (fun w' hw' => by exact ldInt (Blk.cell (i := 7) (Blk.touch (show Blk w1.drew w.heap.size 31 (mcs m A c) from K1.out) hw' HKQ.out) rfl) rfl)
  refine Hs.take (v := .pointer (some ⟨w.heap.size, 10, none⟩)) 11 16 rfl ?_ (fun w' hw' => by go_simp; first | done | rfl | (simp; omega))
  refine Hs.take (v := .int .i64 m.num) 12 17 rfl ?_ (fun w' hw' => by exact ldI64 (Blk.cell (i := 10) (Blk.touch (show Blk w1.drew w.heap.size 31 (mcs m A c) from K1.out) hw' HKQ.out) rfl) rfl)
  refine Hs.call (f := 152) (args := #[.pointer (some ⟨qg, 0, none⟩), .int .i64 m.fr, .int .i64 m.pos, .int .i64 m.num]) 13 18 rfl ?_ (run_callf Tryz.func152 (by kernel_rfl) (by kernel_rfl) (by simp only [List.map_toArray, List.map_cons, List.map_nil]; rfl))
  refine (qack_yes w1.drew qg p.n p.id t.m t.H t.P t.ql (Qs.past Q1.out (Below.refl _ _).drew) HK.out.k m.fr m.pos m.num HFR.out HPOS.out.1 HPOS.out.2).mono ?_
  rintro e w2 ⟨rfl, Q2', t2⟩
  have Q2 := Lib.hid Q2'
  have t2' := Lib.hid t2
  clear Q2'
  refine Hs.back t2 ?_
  clear t2
  refine Hs.done ?_
-- END
  have S2 := Lib.hid (S1.out.drew.set 4 rfl (pT_ok p.n p.id a (some (ackH t m))) (t2'.out.wide (by intro k hk; rw [List.mem_singleton.1 hk]; show qg ∈ a.FT; rw [HFT.out]; simp)) (show Tm w2 a.tg a.FT p.n p.id (ackH t m) from ⟨qg, Aq, cq, T1.out.drew.touch t2'.out HT.out, Q2.out, (O1.out.past (Below.refl _ _).drew).touch t2'.out HOQ.out, HFT.out⟩) (fun k hk => .inl hk))
  have B2 := Lib.hid (B1.out.drew.touch t2'.out HX.out)
  have T2 : Hid (Blk w2 a.tg 173 (tecs qg t Aq cq)) := Lib.hid (T1.out.drew.touch t2'.out HT.out)
  have O2 := Lib.hid ((O1.out.past (Below.refl _ _).drew).touch t2'.out HOQ.out)
  have K2 := Lib.hid (K1.out.drew.touch t2'.out HKQ.out)
  clear S1 B1 T1 Q1 O1 K1 t2'
  obtain ⟨j, hj⟩ : ∃ j : Nat, m.fr = (j : Int) + 1 := ⟨(m.fr - 1).toNat, by omega⟩
  have hj7 : j < 7 := by omega
  have k4 : w2.cell? ⟨x, 4, none⟩ = some (.int .i64 p.clock) := B2.out.cell rfl
  have k13 : w2.cell? ⟨x, 13, none⟩ = some (.pointer (some ⟨a.tg, 0, none⟩)) := B2.out.cell rfl
  have kf : w2.cell? ⟨w.heap.size, 1, none⟩ = some (.int .i64 ((j : Int) + 1)) := by rw [← hj]; exact K2.out.cell rfl
  have kw : w2.cell? ⟨a.tg, 2 + j, none⟩ = some (.int .i64 (t.word.getD j 0)) := T2.out.cell (tecs_word (k := j) HK.out.w7 hj7)
  have fw := T2.out.free (2 + j)
  obtain ⟨wv, hwv⟩ : ∃ wv, t.word.getD j 0 = wv := ⟨_, rfl⟩
  rw [hwv] at kw
  clear hwv
  have hjm : (j : Int) + 1 - 1 = j := by omega
  go_wp2_with fail
  go_big_region
  have hxt : x ≠ a.tg := B2.out.ne T2.out (by decide)
  have hqt : qg ≠ a.tg := fun h => Q2.out.ne T2.out (by decide) h.symm
  have hgt : w.heap.size ≠ a.tg := K2.out.ne T2.out (by decide)
  have hot : bk Aq ≠ some a.tg := O2.out.ne T2.out (by decide)
  have HXT := Lib.hid (show x ∉ [a.tg] by rw [List.mem_singleton]; exact hxt)
  have HQT := Lib.hid (show qg ∉ [a.tg] by rw [List.mem_singleton]; exact hqt)
  have HGT := Lib.hid (show w.heap.size ∉ [a.tg] by rw [List.mem_singleton]; exact hgt)
  have HOT := Lib.hid (show ∀ g ∈ [a.tg], bk Aq ≠ some g from fun g hg => by rw [List.mem_singleton.1 hg]; exact hot)
  have HLW := Lib.hid (show (t.word.set j p.clock).length = 7 by rw [List.length_set]; exact HK.out.w7)
  have T3 : Hid (Blk (w2.setCell ⟨a.tg, 2 + j, none⟩ (.int .i64 p.clock)).drew a.tg 173 (tecs qg { t with word := t.word.set j p.clock } Aq cq)) := Lib.hid (by
    have := (T2.out.set (2 + j) (.int .i64 p.clock)).drew
    rw [tecs_setW hj7 HK.out.w7] at this
    exact this)
  have t3 := Lib.hid (show Touch [a.tg] w2 (w2.setCell ⟨a.tg, 2 + j, none⟩ (.int .i64 p.clock)).drew from ((Touch.refl [a.tg] w2).cell (g := a.tg) (by simp) _ _).drew)
  have B3 := Lib.hid (B2.out.touch t3.out HXT.out)
  have Q3 := Lib.hid (Qs.touch Q2.out t3.out HQT.out)
  have K3 := Lib.hid (K2.out.touch t3.out HGT.out)
  have O3 := Lib.hid (O2.out.touch t3.out HOT.out)
  have S3 := Lib.hid (S2.out.set 4 rfl (pT_ok p.n p.id a (some { ackH t m with word := t.word.set j p.clock })) (t3.out.wide (by intro k hk; rw [List.mem_singleton.1 hk]; show a.tg ∈ a.FT; rw [HFT.out]; simp)) (show Tm _ a.tg a.FT p.n p.id { ackH t m with word := t.word.set j p.clock } from ⟨qg, Aq, cq, T3.out, Q3.out, O3.out, HFT.out⟩) (fun k hk => .inl hk))
  clear k4 k13 kf kw fw hjm hxt hqt hgt hot t3 S2 B2 T2 Q2 K2 O2
  generalize (w2.setCell ⟨a.tg, 2 + j, none⟩ (.int .i64 p.clock)).drew = w3 at *
  have k9 : w3.cell? ⟨a.tg, 9, none⟩ = some (.int .i64 (t.ans : Nat)) := T3.out.cell (tecs_ans HLW.out)
  have f9 := T3.out.free 9
  go_wp2_with fail
-- REGION (*curfew/node.Node).hearAck 3 nhack3 2
  refine Hk.begin [] a.tg 9 ?_
  refine Hk.take (v := .pointer (some ⟨x, 0, none⟩)) 0 33 rfl ?_ (fun _ _ => rfl)
  refine Hk.take (v := .pointer (some ⟨x, 0, none⟩)) 1 34 rfl ?_ (fun w' hw' => by go_simp; first | done | rfl | (simp; omega))
  refine Hk.take (v := .pointer (some ⟨x, 13, none⟩)) 2 35 rfl ?_ (fun w' hw' => by go_simp; first | done | rfl | (simp; omega))
  refine Hk.take (v := .pointer (some ⟨a.tg, 0, none⟩)) 3 36 rfl ?_ (fun w' hw' => by exact ldTerm (Blk.cell (i := 13) (Blk.touch (show Blk w3.drew x 79 (ncs d { p with te := some t } a) from B3.out.drew) hw'.touch HXT.out) rfl) rfl)
  refine Hk.take (v := .pointer (some ⟨x, 0, none⟩)) 4 37 rfl ?_ (fun _ _ => rfl)
  refine Hk.take (v := .pointer (some ⟨x, 0, none⟩)) 5 38 rfl ?_ (fun w' hw' => by go_simp; first | done | rfl | (simp; omega))
  refine Hk.take (v := .pointer (some ⟨x, 13, none⟩)) 6 39 rfl ?_ (fun w' hw' => by go_simp; first | done | rfl | (simp; omega))
  refine Hk.take (v := .pointer (some ⟨a.tg, 0, none⟩)) 7 40 rfl ?_ (fun w' hw' => by exact ldTerm (Blk.cell (i := 13) (Blk.touch (show Blk w3.drew x 79 (ncs d { p with te := some t } a) from B3.out.drew) hw'.touch HXT.out) rfl) rfl)
  refine Hk.take (v := .pointer (some ⟨a.tg, 0, none⟩)) 8 41 rfl ?_ (fun w' hw' => by go_simp; first | done | rfl | (simp; omega))
  refine Hk.take (v := .pointer (some ⟨a.tg, 9, none⟩)) 9 42 rfl ?_ (fun w' hw' => by go_simp; first | done | rfl | (simp; omega))
  refine Hk.take (v := .pointer (some ⟨w.heap.size, 1, none⟩)) 11 44 rfl ?_ (fun w' hw' => by go_simp; first | done | rfl | (simp; omega))
  refine Hk.take (v := .int .i64 m.fr) 12 45 rfl ?_ (fun w' hw' => by exact ldInt (Blk.cell (i := 1) (Blk.touch (show Blk w3.drew w.heap.size 31 (mcs m A c) from K3.out.drew) hw'.touch HGT.out) rfl) rfl)
  refine Hk.only 10 (some 43) rfl ?_
  refine wpList_runTo' rfl (.int .i64 (t.ans : Nat)) w3.drew (ldTeam k9 rfl) ?_
  refine Hk.next (Kp.refl _ _ _ _) ?_
  refine Hk.call (f := 84) (args := #[.int .i64 (t.ans : Nat), .int .i64 m.fr]) 13 46 rfl ?_ (run_callf Tryz.func84 (by kernel_rfl) (by kernel_rfl) (by simp only [List.map_toArray, List.map_cons, List.map_nil]; rfl))
  refine (tWith_c w3.drew t.ans m.fr HK.out.ans).mono ?_
  rintro e w5 ⟨rfl, rfl⟩
  refine Hk.back (Kp.refl _ _ _ _) ?_
  refine Hk.take (v := .pointer (some ⟨a.tg, 0, none⟩)) 14 47 rfl ?_ (fun w' hw' => by go_simp; first | done | rfl | (simp; omega))
  refine Hk.take (v := .pointer (some ⟨a.tg, 9, none⟩)) 15 48 rfl ?_ (fun w' hw' => by go_simp; first | done | rfl | (simp; omega))
  refine Hk.only 16 none rfl ?_
  refine wpList_skipTo rfl rfl (w3.drew.setCell ⟨a.tg, 9, none⟩ (.int .i64 (PTeam.wth t.ans m.fr : Nat))) (stTeamN k9 f9 rfl rfl) ?_
  refine Hk.next (Kp.set _ _) ?_ (ha := rfl)
  refine Hk.done ?_
-- END
  have HAT := Lib.hid (show ackT p t m = { ackH t m with word := t.word.set j p.clock, ans := PTeam.wth t.ans m.fr } by
    unfold ackT
    rw [show (m.fr - 1).toNat = j by omega])
  have T4 : Hid (Blk (w3.drew.setCell ⟨a.tg, 9, none⟩ (.int .i64 (PTeam.wth t.ans m.fr : Nat))) a.tg 173 (tecs qg { t with word := t.word.set j p.clock, ans := PTeam.wth t.ans m.fr } Aq cq)) := Lib.hid (by
    have := T3.out.drew.set 9 (.int .i64 (PTeam.wth t.ans m.fr : Nat))
    rw [tecs_setA (t := { t with word := t.word.set j p.clock }) HLW.out] at this
    exact this)
  have t4 := Lib.hid (show Touch [a.tg] w3 (w3.drew.setCell ⟨a.tg, 9, none⟩ (.int .i64 (PTeam.wth t.ans m.fr : Nat))) from ((Touch.refl [a.tg] w3).drew).cell (g := a.tg) (by simp) _ _)
  have Q4 := Lib.hid (Qs.touch Q3.out t4.out HQT.out)
  have O4 := Lib.hid (O3.out.touch t4.out HOT.out)
  have S4 := Lib.hid (S3.out.set 4 rfl (pT_ok p.n p.id a (some (ackT p t m))) (t4.out.wide (by intro k hk; rw [List.mem_singleton.1 hk]; show a.tg ∈ a.FT; rw [HFT.out]; simp)) (show Tm _ a.tg a.FT p.n p.id (ackT p t m) by rw [HAT.out]; exact ⟨qg, Aq, cq, T4.out, Q4.out, O4.out, HFT.out⟩) (fun k hk => .inl hk))
  have K4 := Lib.hid (show Qk p.n p.id t.m (ackH t m).H (ackH t m).P t.ql from ⟨HK.out.k.most, HK.out.k.me, PQuo.ok_upd HK.out.k.n.2.2 HK.out.k.h HFR.out HPOS.out.2, (by
    show PQuo.Ok t.m (if m.num ≤ t.ql then PQuo.upd t.P m.fr m.num else t.P) t.ql
    split
    · exact PQuo.ok_upd HK.out.k.n.2.2 HK.out.k.p HFR.out (by assumption)
    · exact HK.out.k.p), HK.out.k.l0, HK.out.k.l1⟩)
  have W4 := Lib.hid ((show St okN w _ F (parts x d { p with te := some (ackT p t m) } a) from S4.out).shut ⟨HR.out.n, HR.out.id, HR.out.boot, HR.out.pro, HR.out.clock, HR.out.heard, HR.out.last, HR.out.mem, HR.out.com, HR.out.vo, HR.out.den, HR.out.pf, HR.out.seq⟩)
  have HW4 := Lib.hid (show (ackT p t m).word.length = 7 by rw [HAT.out]; exact HLW.out)
  have HQ4 := Lib.hid (show (ackT p t m).qs.length ≤ 1000000 from Nat.le_of_lt HK.out.qs)
  clear k9 f9 S3 T3 Q3 O3 B3 K3 S4 T4 t4 Q4 O4 HXT HQT HGT HOT HLW HX HT HKQ HOQ HFT HAT
  generalize w3.drew.setCell ⟨a.tg, 9, none⟩ (.int .i64 (PTeam.wth t.ans m.fr : Nat)) = w4 at *
  obtain ⟨⟨F4, n4, hF4⟩, t4⟩ := W4.out
  have HF4 := Lib.hid hF4
  have HT4 := Lib.hid t4
  have N4 := Lib.hid n4
  obtain ⟨a4, s4, -⟩ := n4.open
  have B4 : Blk w4 x 79 (ncs d { p with te := some (ackT p t m) } a4) := s4.sep.get (i := 0) rfl
  have hT4 : Tm w4 a4.tg a4.FT p.n p.id (ackT p t m) := s4.sep.get (i := 4) rfl
  obtain ⟨qg4, A4, c4, hB4, hQ4, -, -⟩ := hT4
  have Q4 := Lib.hid hQ4
  have k13 : w4.cell? ⟨x, 13, none⟩ = some (.pointer (some ⟨a4.tg, 0, none⟩)) := B4.cell rfl
  have k0 : w4.cell? ⟨a4.tg, 0, none⟩ = some (.pointer (some ⟨qg4, 0, none⟩)) := hB4.cell rfl
  clear n4 hF4 t4 s4 B4 hB4 hQ4 W4
  go_wp2_with fail
  refine (qcommit_c w4 qg4 p.n p.id t.m (ackH t m).H (ackH t m).P t.ql Q4.out K4.out).mono ?_
  rintro e w5 ⟨r, rfl, hr5, b5⟩
  have HR5 := Lib.hid hr5
  have B5 := Lib.hid b5
  have N5 := Lib.hid (N4.out.past b5)
  clear hr5 b5 k13 k0
  go_wp2_with fail
  refine (raise_c N5.out r).mono ?_
  rintro e w6 ⟨rfl, W6⟩
  have W46 := W6.behind B5.out
  clear W6
  obtain ⟨⟨F6, n6, hF6⟩, t6⟩ := W46
  have HF6 := Lib.hid hF6
  have HT6 := Lib.hid t6
  have N6 := Lib.hid (show Nd w6 x d F6 { comP p r with te := some (ackT p t m) } from n6)
  clear n6 hF6 t6 N5
  go_wp2_with fail
  refine (answer_c (p := comP p r) (t := ackT p t m) N6.out K4.out HW4.out HQ4.out HOWN.out C (HC1.out r HR5.out) (HC2.out r HR5.out)).mono ?_
  rintro e w7 ⟨Q, p', A7, c7, q1, rfl, q3, q4⟩
  have Q1' := Lib.hid q1
  have Q3' := Lib.hid (q3.down (Nat.le_trans HT4.out.size HT6.out.size))
  have Q4' := Lib.hid (NdW.then HF4.out HT4.out (NdW.then HF6.out HT6.out q4))
  clear q1 q3 q4
  go_wp2_with fail
  go_ret
  exact ⟨Q, p', A7, c7, Q1'.out, rfl, Q3'.out, Q4'.out⟩
end Go.Proofs.YtacipjdaiglnjaaGreatDoor

/- MAck is heeded and heard by one that decides; it acts (lead). -/
namespace Go.Proofs.YtacipjdaiglnjaaGreatDoor
open Go.RowKit PNode

set_option maxHeartbeats 4000000 in
set_option maxRecDepth 100000 in
theorem hd_ack {w : World} {x d : Nat} {F : List Nat} {p : Np} (h : Nd w x d F p) (m : Msg) (A : Option Addr) (c : Nat) (hk : m.kind = 6) (hf : dec p = true) {b : Bool} (hb : ((m.view == p.last) && PTeam.has p.mem m.fr) = b) :
    Calls Tryz.prog 56 #[.pointer (some ⟨x, 0, none⟩), mv m A c] w fun e w' => e = .returned (.bool b) ∧ Below w.heap.size w w' := by
  obtain ⟨a, s0, hr⟩ := h.open
  have HR := Lib.hid hr
  have b0 := Lib.hid ((Below.refl w.heap.size w).alloc (Nat.le_refl _) (.cells #[.int .i64 6, .int .i64 m.fr, .int .i64 m.dst, .int .i64 m.boot, .int .i64 m.view, .int .i64 m.last, .int .i64 m.mem, .int .i64 m.pos, .slice A m.es.length c, .int .i64 m.com, .int .i64 m.num, .int .i64 m.clk, .bool m.yes] 31))
  have K1 := Lib.hid (Blk.new w #[.int .i64 6, .int .i64 m.fr, .int .i64 m.dst, .int .i64 m.boot, .int .i64 m.view, .int .i64 m.last, .int .i64 m.mem, .int .i64 m.pos, .slice A m.es.length c, .int .i64 m.com, .int .i64 m.num, .int .i64 m.clk, .bool m.yes] 31)
  have S1 := Lib.hid (s0.alloc (.cells #[.int .i64 6, .int .i64 m.fr, .int .i64 m.dst, .int .i64 m.boot, .int .i64 m.view, .int .i64 m.last, .int .i64 m.mem, .int .i64 m.pos, .slice A m.es.length c, .int .i64 m.com, .int .i64 m.num, .int .i64 m.clk, .bool m.yes] 31))
  have B1 : Hid (Blk (w.alloc (.cells #[.int .i64 6, .int .i64 m.fr, .int .i64 m.dst, .int .i64 m.boot, .int .i64 m.view, .int .i64 m.last, .int .i64 m.mem, .int .i64 m.pos, .slice A m.es.length c, .int .i64 m.com, .int .i64 m.num, .int .i64 m.clk, .bool m.yes] 31)) x 79 (ncs d p a)) := Lib.hid (S1.out.sep.get (i := 0) rfl)
  show Calls _ _ #[_, .agg #[.int .i64 m.kind, .int .i64 m.fr, .int .i64 m.dst, .int .i64 m.boot, .int .i64 m.view, .int .i64 m.last, .int .i64 m.mem, .int .i64 m.pos, .slice A m.es.length c, .int .i64 m.com, .int .i64 m.num, .int .i64 m.clk, .bool m.yes]] _ _
  rw [hk]
  have HF := Lib.hid hf
  have HB := Lib.hid hb
  clear hf hb
  clear h hr s0 hk
  go_enter Tryz.func56, Tryz.ntmps56
  go_wp2_with fail
  obtain ⟨v, hv⟩ : ∃ v, m.view = v := ⟨_, rfl⟩
  have HV := Lib.hid hv
  by_cases he : v = p.last
  · have HE := Lib.hid he
    have HB2 : Hid (PTeam.has p.mem m.fr = b) := Lib.hid (by have := HB.out; rw [hv] at this; simpa [he] using this)
    clear he hv HB
-- REGION (*curfew/node.Node).heeds 17 nhdackt 4
    refine Hb.begin ?_
    refine Hb.take (v := .pointer (some ⟨x, 0, none⟩)) 0 87 rfl ?_ (fun _ _ => rfl)
    refine Hb.call (f := 65) (args := #[.pointer (some ⟨x, 0, none⟩)]) 1 88 rfl ?_ (run_callf Tryz.func65 (by kernel_rfl) (by kernel_rfl) (by simp only [List.map_toArray, List.map_cons, List.map_nil]; rfl))
    refine (decides_c (show Blk (w.alloc (.cells #[.int .i64 6, .int .i64 m.fr, .int .i64 m.dst, .int .i64 m.boot, .int .i64 m.view, .int .i64 m.last, .int .i64 m.mem, .int .i64 m.pos, .slice A m.es.length c, .int .i64 m.com, .int .i64 m.num, .int .i64 m.clk, .bool m.yes] 31)).drew x 79 (ncs d p a) from B1.out) (S1.out.drew.sep.get (i := 1) rfl) HR.out.mem).mono ?_
    rw [HF.out]
    rintro e w2 ⟨rfl, b2⟩
    have BE := Lib.hid (b0.out.drew.trans (b2.mono b0.out.size))
    have B2 := Lib.hid (Blk.past (show Blk (w.alloc (.cells #[.int .i64 6, .int .i64 m.fr, .int .i64 m.dst, .int .i64 m.boot, .int .i64 m.view, .int .i64 m.last, .int .i64 m.mem, .int .i64 m.pos, .slice A m.es.length c, .int .i64 m.com, .int .i64 m.num, .int .i64 m.clk, .bool m.yes] 31)).drew x 79 (ncs d p a) from B1.out) b2)
    have K2 := Lib.hid (show Blk w2 w.heap.size 31 (mcs { m with kind := 6, view := v } A c) by have := Blk.past (show Blk (w.alloc (.cells #[.int .i64 6, .int .i64 m.fr, .int .i64 m.dst, .int .i64 m.boot, .int .i64 m.view, .int .i64 m.last, .int .i64 m.mem, .int .i64 m.pos, .slice A m.es.length c, .int .i64 m.com, .int .i64 m.num, .int .i64 m.clk, .bool m.yes] 31)).drew w.heap.size 31 (mcs { m with kind := 6 } A c) from K1.out) b2; rw [← HV.out]; exact this)
    refine Hb.back b2 b2.size ?_
    refine Hb.take (v := .bool true) 2 89 rfl ?_ (fun _ _ => rfl)
    refine Hb.take (v := .pointer (some ⟨w.heap.size, 4, none⟩)) 3 90 rfl ?_ (fun w' hw' => by go_simp; first | done | rfl | (simp; omega))
    refine Hb.take (v := .int .i64 v) 4 91 rfl ?_ (fun w' hw' => by exact ldI64 (Blk.cell (i := 4) (Blk.past (show Blk w2 w.heap.size 31 (mcs { m with kind := 6, view := v } A c) from K2.out) hw') rfl) rfl)
    refine Hb.take (v := .pointer (some ⟨x, 0, none⟩)) 5 92 rfl ?_ (fun _ _ => rfl)
    refine Hb.take (v := .pointer (some ⟨x, 0, none⟩)) 6 93 rfl ?_ (fun w' hw' => by go_simp; first | done | rfl | (simp; omega))
    refine Hb.take (v := .pointer (some ⟨x, 7, none⟩)) 7 94 rfl ?_ (fun w' hw' => by go_simp; first | done | rfl | (simp; omega))
    refine Hb.take (v := .int .i64 p.last) 8 95 rfl ?_ (fun w' hw' => by exact ldI64 (Blk.cell (i := 7) (Blk.past (show Blk w2 x 79 (ncs d p a) from B2.out) hw') rfl) rfl)
    refine Hb.take (v := .bool true) 9 96 rfl ?_ (fun w' hw' => by go_simp; exact HE.out)
    refine Hb.take (v := .bool true) 10 97 rfl ?_ (fun _ _ => rfl)
    refine Hb.take (v := .bool true) 11 98 rfl ?_ (fun _ _ => rfl)
    refine Hb.take (v := .pointer (some ⟨x, 0, none⟩)) 12 99 rfl ?_ (fun _ _ => rfl)
    refine Hb.take (v := .pointer (some ⟨x, 0, none⟩)) 13 100 rfl ?_ (fun w' hw' => by go_simp; first | done | rfl | (simp; omega))
    refine Hb.take (v := .pointer (some ⟨x, 8, none⟩)) 14 101 rfl ?_ (fun w' hw' => by go_simp; first | done | rfl | (simp; omega))
    refine Hb.take (v := .int .i64 (p.mem : Nat)) 15 102 rfl ?_ (fun w' hw' => by exact ldTeam (Blk.cell (i := 8) (Blk.past (show Blk w2 x 79 (ncs d p a) from B2.out) hw') rfl) rfl)
    refine Hb.take (v := .pointer (some ⟨w.heap.size, 1, none⟩)) 16 103 rfl ?_ (fun w' hw' => by go_simp; first | done | rfl | (simp; omega))
    refine Hb.take (v := .int .i64 m.fr) 17 104 rfl ?_ (fun w' hw' => by exact ldInt (Blk.cell (i := 1) (Blk.past (show Blk w2 w.heap.size 31 (mcs { m with kind := 6, view := v } A c) from K2.out) hw') rfl) rfl)
    refine Hb.call (f := 76) (args := #[.int .i64 (p.mem : Nat), .int .i64 m.fr]) 18 105 rfl ?_ (run_callf Tryz.func76 (by kernel_rfl) (by kernel_rfl) (by simp only [List.map_toArray, List.map_cons, List.map_nil]; rfl))
    refine (tHas_c w2 p.mem m.fr HR.out.mem).mono ?_
    rintro e w3 ⟨rfl, rfl⟩
    refine Hb.back (Below.refl _ _) (Nat.le_refl _) ?_
    refine Hb.take (v := .bool (PTeam.has p.mem m.fr)) 19 106 rfl ?_ (fun _ _ => rfl)
    refine Hb.take (v := .bool (PTeam.has p.mem m.fr)) 20 4 rfl ?_ (fun _ _ => rfl)
    refine Hb.done ?_
-- END
    go_wp2_with fail
    go_ret
    obtain rfl := HB2.out
    exact ⟨rfl, BE.out⟩
  · have HE := Lib.hid he
    have HB2 : Hid (false = b) := Lib.hid (by have := HB.out; rw [hv, show (v == p.last) = false by simp [he]] at this; exact this)
    clear he hv HB
-- REGION (*curfew/node.Node).heeds 17 nhdackf 4
    refine Hb.begin ?_
    refine Hb.take (v := .pointer (some ⟨x, 0, none⟩)) 0 87 rfl ?_ (fun _ _ => rfl)
    refine Hb.call (f := 65) (args := #[.pointer (some ⟨x, 0, none⟩)]) 1 88 rfl ?_ (run_callf Tryz.func65 (by kernel_rfl) (by kernel_rfl) (by simp only [List.map_toArray, List.map_cons, List.map_nil]; rfl))
    refine (decides_c (show Blk (w.alloc (.cells #[.int .i64 6, .int .i64 m.fr, .int .i64 m.dst, .int .i64 m.boot, .int .i64 m.view, .int .i64 m.last, .int .i64 m.mem, .int .i64 m.pos, .slice A m.es.length c, .int .i64 m.com, .int .i64 m.num, .int .i64 m.clk, .bool m.yes] 31)).drew x 79 (ncs d p a) from B1.out) (S1.out.drew.sep.get (i := 1) rfl) HR.out.mem).mono ?_
    rw [HF.out]
    rintro e w2 ⟨rfl, b2⟩
    have BE := Lib.hid (b0.out.drew.trans (b2.mono b0.out.size))
    have B2 := Lib.hid (Blk.past (show Blk (w.alloc (.cells #[.int .i64 6, .int .i64 m.fr, .int .i64 m.dst, .int .i64 m.boot, .int .i64 m.view, .int .i64 m.last, .int .i64 m.mem, .int .i64 m.pos, .slice A m.es.length c, .int .i64 m.com, .int .i64 m.num, .int .i64 m.clk, .bool m.yes] 31)).drew x 79 (ncs d p a) from B1.out) b2)
    have K2 := Lib.hid (show Blk w2 w.heap.size 31 (mcs { m with kind := 6, view := v } A c) by have := Blk.past (show Blk (w.alloc (.cells #[.int .i64 6, .int .i64 m.fr, .int .i64 m.dst, .int .i64 m.boot, .int .i64 m.view, .int .i64 m.last, .int .i64 m.mem, .int .i64 m.pos, .slice A m.es.length c, .int .i64 m.com, .int .i64 m.num, .int .i64 m.clk, .bool m.yes] 31)).drew w.heap.size 31 (mcs { m with kind := 6 } A c) from K1.out) b2; rw [← HV.out]; exact this)
    refine Hb.back b2 b2.size ?_
    refine Hb.take (v := .bool true) 2 89 rfl ?_ (fun _ _ => rfl)
    refine Hb.take (v := .pointer (some ⟨w.heap.size, 4, none⟩)) 3 90 rfl ?_ (fun w' hw' => by go_simp; first | done | rfl | (simp; omega))
    refine Hb.take (v := .int .i64 v) 4 91 rfl ?_ (fun w' hw' => by exact ldI64 (Blk.cell (i := 4) (Blk.past (show Blk w2 w.heap.size 31 (mcs { m with kind := 6, view := v } A c) from K2.out) hw') rfl) rfl)
    refine Hb.take (v := .pointer (some ⟨x, 0, none⟩)) 5 92 rfl ?_ (fun _ _ => rfl)
    refine Hb.take (v := .pointer (some ⟨x, 0, none⟩)) 6 93 rfl ?_ (fun w' hw' => by go_simp; first | done | rfl | (simp; omega))
    refine Hb.take (v := .pointer (some ⟨x, 7, none⟩)) 7 94 rfl ?_ (fun w' hw' => by go_simp; first | done | rfl | (simp; omega))
    refine Hb.take (v := .int .i64 p.last) 8 95 rfl ?_ (fun w' hw' => by exact ldI64 (Blk.cell (i := 7) (Blk.past (show Blk w2 x 79 (ncs d p a) from B2.out) hw') rfl) rfl)
    refine Hb.take (v := .bool false) 9 96 rfl ?_ (fun w' hw' => by go_simp; exact HE.out)
    refine Hb.take (v := .bool false) 10 97 rfl ?_ (fun _ _ => rfl)
    refine Hb.take (v := .bool false) 11 98 rfl ?_ (fun _ _ => rfl)
    refine Hb.pass 12 99 rfl ?_
    refine Hb.pass 13 100 rfl ?_
    refine Hb.pass 14 101 rfl ?_
    refine Hb.pass 15 102 rfl ?_
    refine Hb.pass 16 103 rfl ?_
    refine Hb.pass 17 104 rfl ?_
    refine Hb.pass 18 105 rfl ?_
    refine Hb.take (v := .bool false) 19 106 rfl ?_ (fun _ _ => rfl)
    refine Hb.take (v := .bool false) 20 4 rfl ?_ (fun _ _ => rfl)
    refine Hb.done ?_
-- END
    go_wp2_with fail
    go_ret
    obtain rfl := HB2.out
    exact ⟨rfl, BE.out⟩

set_option maxHeartbeats 4000000 in
set_option maxRecDepth 100000 in
theorem heed_ack {w : World} {x d : Nat} {F : List Nat} {p : Np} (h : Nd w x d F p) (m : Msg) (A : Option Addr) (c : Nat) (hk : m.kind = 6) {C : List Mp → Np → Prop}
    (hC : ∀ w1, Below w.heap.size w w1 → Calls Tryz.prog 98 #[.pointer (some ⟨x, 0, none⟩), mv m A c] w1 (TickPost w1 x d F C)) :
    Calls Tryz.prog 57 #[.pointer (some ⟨x, 0, none⟩), mv m A c] w (TickPost w x d F C) := by
  have hlt : x < w.heap.size := by obtain ⟨a, s0, -⟩ := h.open; have : Blk w x _ _ := s0.sep.get (i := 0) (p := pX x d p a) rfl; exact this.lt
  have b0 := Lib.hid ((Below.refl w.heap.size w).alloc (Nat.le_refl _) (.cells #[.int .i64 6, .int .i64 m.fr, .int .i64 m.dst, .int .i64 m.boot, .int .i64 m.view, .int .i64 m.last, .int .i64 m.mem, .int .i64 m.pos, .slice A m.es.length c, .int .i64 m.com, .int .i64 m.num, .int .i64 m.clk, .bool m.yes] 31))
  have K1 := Lib.hid (Blk.new w #[.int .i64 6, .int .i64 m.fr, .int .i64 m.dst, .int .i64 m.boot, .int .i64 m.view, .int .i64 m.last, .int .i64 m.mem, .int .i64 m.pos, .slice A m.es.length c, .int .i64 m.com, .int .i64 m.num, .int .i64 m.clk, .bool m.yes] 31)
  have HC := Lib.hid hC
  show Calls _ _ #[_, .agg #[.int .i64 m.kind, .int .i64 m.fr, .int .i64 m.dst, .int .i64 m.boot, .int .i64 m.view, .int .i64 m.last, .int .i64 m.mem, .int .i64 m.pos, .slice A m.es.length c, .int .i64 m.com, .int .i64 m.num, .int .i64 m.clk, .bool m.yes]] _ _
  have HC1 : Hid (Calls Tryz.prog 98 #[.pointer (some ⟨x, 0, none⟩), .agg #[.int .i64 6, .int .i64 m.fr, .int .i64 m.dst, .int .i64 m.boot, .int .i64 m.view, .int .i64 m.last, .int .i64 m.mem, .int .i64 m.pos, .slice A m.es.length c, .int .i64 m.com, .int .i64 m.num, .int .i64 m.clk, .bool m.yes]] (w.alloc (.cells #[.int .i64 6, .int .i64 m.fr, .int .i64 m.dst, .int .i64 m.boot, .int .i64 m.view, .int .i64 m.last, .int .i64 m.mem, .int .i64 m.pos, .slice A m.es.length c, .int .i64 m.com, .int .i64 m.num, .int .i64 m.clk, .bool m.yes] 31)) (TickPost (w.alloc (.cells #[.int .i64 6, .int .i64 m.fr, .int .i64 m.dst, .int .i64 m.boot, .int .i64 m.view, .int .i64 m.last, .int .i64 m.mem, .int .i64 m.pos, .slice A m.es.length c, .int .i64 m.com, .int .i64 m.num, .int .i64 m.clk, .bool m.yes] 31)) x d F C)) := Lib.hid (by
    have := HC.out _ b0.out
    rw [show mv m A c = .agg #[.int .i64 m.kind, .int .i64 m.fr, .int .i64 m.dst, .int .i64 m.boot, .int .i64 m.view, .int .i64 m.last, .int .i64 m.mem, .int .i64 m.pos, .slice A m.es.length c, .int .i64 m.com, .int .i64 m.num, .int .i64 m.clk, .bool m.yes] from rfl, hk] at this
    exact this)
  rw [hk]
  clear h hk hC hlt
  go_enter Tryz.func57, Tryz.ntmps57
  go_wp2_with ((with_reducible show wpList _ _ _ ((⟨some 76, Op.load _ _, _, _, _, _⟩ : Oper) :: _) _ _); go_must (refine wpList_load_row rfl 31 (.tmp 3) rfl w.heap.size rfl 31 #[.int .i64 6, .int .i64 m.fr, .int .i64 m.dst, .int .i64 m.boot, .int .i64 m.view, .int .i64 m.last, .int .i64 m.mem, .int .i64 m.pos, .slice A m.es.length c, .int .i64 m.com, .int .i64 m.num, .int .i64 m.clk, .bool m.yes] (0, 0) _ K1.out Tryz.underlying31 rfl (by kernel_rfl) ?_))
  refine HC1.out.mono ?_
  rintro e w2 h2
  have P2 := h2.behind b0.out
  clear h2
  obtain ⟨Q, p', A2, c2, q1, rfl, q3, q4⟩ := P2
  have Q1 := Lib.hid q1
  have Q3 := Lib.hid q3
  have Q4 := Lib.hid q4
  clear q1 q3 q4
  go_wp2_with fail
  go_ret
  exact ⟨Q, p', A2, c2, Q1.out, rfl, Q3.out, Q4.out⟩

set_option maxHeartbeats 4000000 in
set_option maxRecDepth 100000 in
theorem act_lead {w : World} {x d : Nat} {F : List Nat} {p : Np} {t : Te} (h : Nd w x d F { p with te := some t }) (K : Lt p t) (n : Nat) (hn : p.n = n) (hk : p.knows = true) (hv : hasV p = false) (hd : inV p = true) (h1 : p.pro ≤ 1000000) (h2 : p.den ≤ 1000000) (C : List Mp → Np → Prop)
    (hC1 : silent p t = true → ∀ Q p', cPropG (addsP p t p.pend) n Q p' → C Q p')
    (hC2 : silent p t = false → ∀ Q, Q.map Mp.m = (PTeam.lst (PTeam.wout p.mem p.id)).map (fun dst => sends p dst (ledM p t dst)) → C Q (ledP p t)) :
    Calls Tryz.prog 30 #[.pointer (some ⟨x, 0, none⟩)] w (TickPost w x d F C) := by
  obtain ⟨a, s0, hr⟩ := h.open
  have HH := Lib.hid h
  have B0 : Blk w x 79 (ncs d { p with te := some t } a) := s0.sep.get (i := 0) rfl
  have c6 : w.cell? ⟨x, 6, none⟩ = some (.bool true) := by rw [← hk]; exact B0.cell rfl
  have S0 := Lib.hid s0
  have HR := Lib.hid hr
  have BB := Lib.hid B0
  have HV := Lib.hid (show hasV { p with te := some t } = false from hv)
  have HD := Lib.hid (show dec { p with te := some t } = true by unfold dec; rw [show inV { p with te := some t } = inV p from rfl, hd]; rfl)
  have HN := Lib.hid hn
  clear h hr s0 B0 hk hv hd hn
  go_enter Tryz.func30, Tryz.ntmps30
  go_wp2_with fail
  refine (hasVotes_c BB.out (S0.out.sep.get (i := 1) rfl) (S0.out.sep.get (i := 3) rfl)).mono ?_
  rw [HV.out]
  rintro e w1 ⟨rfl, b1⟩
  have S1 := Lib.hid (S0.out.past b1)
  have B1 := Lib.hid (BB.out.past b1)
  have b1' := Lib.hid b1
  clear b1 c6
  go_wp2_with fail
  refine (decides_c B1.out (S1.out.sep.get (i := 1) rfl) HR.out.mem).mono ?_
  rw [HD.out]
  rintro e w2 ⟨rfl, b2⟩
  have b2' := Lib.hid (b1'.out.trans (b2.mono b1'.out.size))
  clear b2
  go_wp2_with fail
  refine (lead_c (t := t) (HH.out.past b2'.out) K n HN.out h1 h2 C hC1 hC2).mono ?_
  rintro e w4 h4
  have P2 := h4.behind b2'.out
  clear h4
  obtain ⟨Q, p', A, c, q1, rfl, q3, q4⟩ := P2
  have Q1 := Lib.hid q1
  have Q3 := Lib.hid q3
  have Q4 := Lib.hid q4
  clear q1 q3 q4
  go_wp2_with fail
  go_ret
  exact ⟨Q, p', A, c, Q1.out, rfl, Q3.out, Q4.out⟩
end Go.Proofs.YtacipjdaiglnjaaGreatDoor

/- What holds of the term of one that decides stays. -/
namespace Go.Proofs.YtacipjdaiglnjaaGreatDoor
open Go.RowKit PNode

theorem Lt.same {p p' : Np} {t : Te} (h : Lt p t) (h1 : p'.n = p.n) (h2 : p'.id = p.id) (h3 : p'.mem = p.mem) (h4 : p'.pl < 2199023255552) : Lt p' t :=
  ⟨by rw [h1, h2]; exact h.k, by rw [h3]; exact h.m, h.w7, h.wb, h.ans, h.ql, h.qs, h4⟩
theorem Lt.led {p : Np} {t : Te} (h : Lt p t) (hL : p.L.length ≤ 60) (h1 : t.ql + 1 < 1000000) (h2 : t.qs.length + 1 < 1000000) (h3 : p.pl + 1 < 2199023255552) : Lt (ledP p t) (ledT p t) :=
  ⟨Qk.nextG (adds_ok hL h.k p.pend).2 h.ql, h.m, h.w7, h.wb, h.ans, h1, by show (t.qs ++ [_]).length < _; rw [List.length_append, List.length_singleton]; exact h2, h3⟩
theorem Lt.ack {p : Np} {t : Te} (h : Lt p t) (hr : Nr p) {m : Msg} (hfr : PTeam.has t.m m.fr = true) (hpos : 0 ≤ m.pos ∧ m.pos ≤ 60) (r : Int) : Lt (comP p r) (ackT p t m) :=
  ⟨⟨h.k.most, h.k.me, PQuo.ok_upd h.k.n.2.2 h.k.h hfr hpos.2, (by
      show PQuo.Ok t.m (if m.num ≤ t.ql then PQuo.upd t.P m.fr m.num else t.P) t.ql
      split
      · exact PQuo.ok_upd h.k.n.2.2 h.k.p hfr (by assumption)
      · exact h.k.p), h.k.l0, h.k.l1⟩,
    h.m, by show (t.word.set _ _).length = 7; rw [List.length_set]; exact h.w7, (by
      intro k hk
      show 0 ≤ (t.word.set (m.fr - 1).toNat p.clock).getD k 0 ∧ (t.word.set (m.fr - 1).toNat p.clock).getD k 0 ≤ 1099511627776
      have h7 := h.w7
      by_cases hj : (m.fr - 1).toNat = k
      · rw [List.getD_eq_getElem?_getD, List.getElem?_set, if_pos hj, if_pos (by omega)]
        exact hr.clock
      · rw [List.getD_eq_getElem?_getD, List.getElem?_set, if_neg hj, ← List.getD_eq_getElem?_getD]
        exact h.wb k hk), PTeam.wth_lt h.ans _, h.ql, h.qs, h.pl⟩
theorem gotQ_more (p : Np) (num : Int) : (gotQ p num).mem = p.mem ∧ (gotQ p num).pl = p.pl ∧ (gotQ p num).pend = p.pend ∧ (gotQ p num).clock = p.clock ∧ (gotQ p num).pro = p.pro ∧ (gotQ p num).last = p.last ∧ (gotQ p num).knows = p.knows ∧ (gotQ p num).vo = p.vo ∧ (gotQ p num).den = p.den := by
  unfold gotQ
  split <;> exact ⟨rfl, rfl, rfl, rfl, rfl, rfl, rfl, rfl, rfl⟩
theorem gotQs_more (p : Np) : ∀ (l : List Qn), (gotQs p l).mem = p.mem ∧ (gotQs p l).pl = p.pl ∧ (gotQs p l).pend = p.pend ∧ (gotQs p l).clock = p.clock ∧ (gotQs p l).pro = p.pro ∧ (gotQs p l).last = p.last ∧ (gotQs p l).knows = p.knows ∧ (gotQs p l).vo = p.vo ∧ (gotQs p l).den = p.den := by
  intro l
  induction l generalizing p with
  | nil => exact ⟨rfl, rfl, rfl, rfl, rfl, rfl, rfl, rfl, rfl⟩
  | cons q r ih =>
    obtain ⟨a1, a2, a3, a4, a5, a6, a7, a8, a9⟩ := ih (gotQ p q.num)
    obtain ⟨b1, b2, b3, b4, b5, b6, b7, b8, b9⟩ := gotQ_more p q.num
    exact ⟨a1.trans b1, a2.trans b2, a3.trans b3, a4.trans b4, a5.trans b5, a6.trans b6, a7.trans b7, a8.trans b8, a9.trans b9⟩
theorem Lt.ans' {p : Np} {t : Te} (h : Lt p t) (n : Nat) (l : List Qn) : Lt (gotQs { p with te := some { t with qs := t.qs.drop n } } l) { t with qs := t.qs.drop n } := by
  obtain ⟨s1, -, -, -, s5⟩ := gotQs_same { p with te := some { t with qs := t.qs.drop n } } l
  obtain ⟨m1, m2, -⟩ := gotQs_more { p with te := some { t with qs := t.qs.drop n } } l
  have h0 : Lt p { t with qs := t.qs.drop n } := ⟨h.k, h.m, h.w7, h.wb, h.ans, h.ql, by show (t.qs.drop n).length < _; have := h.qs; rw [List.length_drop]; omega, h.pl⟩
  exact Lt.same h0 s5 s1 m1 (by rw [m2]; exact h.pl)
theorem own_led {p : Np} {t : Te} (h : ∀ q ∈ t.qs, q.fr = p.id) : ∀ q ∈ (ledT p t).qs, q.fr = (ledP p t).id := by
  intro q hq
  rcases List.mem_append.1 (show q ∈ t.qs ++ [_] from hq) with h1 | h1
  · exact h q h1
  · rw [List.mem_singleton.1 h1]; rfl
theorem Lt.inst {p : Np} {v : Int} {V : List (Option Vt)} (hr : Nr p) (hm : PTeam.most (PVote.tm V) p.n = true) (hme : PTeam.has (PVote.tm V) p.id = true) (hpl : p.pl < 2199023255552) : Lt (instP p v V) (term0 p V) := by
  have hlt := PVote.tm_lt V
  refine ⟨⟨hm, hme, PQuo.ok_upd hlt (PQuo.ok_none _ (by omega)) hme (by omega), ?_, Int.le_refl _, by show (0 : Int) ≤ 1000000; omega⟩, rfl, rfl, ?_, by show (0 : Nat) < 128; omega, by show (0 : Int) < 1000000; omega, by show (0 : Nat) < 1000000; omega, hpl⟩
  · show PQuo.Ok (PVote.tm V) (if (0 : Int) ≤ 0 then PQuo.upd PQuo.none7 p.id 0 else PQuo.none7) 0
    rw [if_pos (Int.le_refl _)]
    exact PQuo.ok_upd hlt (PQuo.ok_none _ (by omega)) hme (Int.le_refl _)
  · intro k hk
    show 0 ≤ (List.replicate 7 p.clock).getD k 0 ∧ (List.replicate 7 p.clock).getD k 0 ≤ 1099511627776
    rw [List.getD_eq_getElem?_getD, List.getElem?_replicate, if_pos hk]
    exact hr.clock
end Go.Proofs.YtacipjdaiglnjaaGreatDoor

/- A process ticks, hears, and tells what may be told, whatever its log is. -/
namespace Go.Proofs.YtacipjdaiglnjaaGreatDoor
open Go.RowKit PNode

/-- Behind what is told. -/
def cSet (C : List Mp → Np → Prop) (Q : List Mp) (q : Np) : Prop := ∃ p', C Q p' ∧ q = setP p'

set_option maxHeartbeats 4000000 in
set_option maxRecDepth 100000 in
theorem tick_ofG {w : World} {x d : Nat} {F : List Nat} {p : Np} (h : Nd w x d F p) (hc : p.clock < 1099511627776) (C : List Mp → Np → Prop) (hC : ∀ Q p', C Q p' → PLog.okN [] p'.L = true ∧ p'.T.length ≤ 999900)
    (hact : ∀ w1 F1, Nd w1 x d F1 (clkP p) → Calls Tryz.prog 30 #[.pointer (some ⟨x, 0, none⟩)] w1 (TickPost w1 x d F1 C)) :
    Calls Tryz.prog 10 #[.pointer (some ⟨x, 0, none⟩)] w (TickPost w x d F (cSet C)) := by
  obtain ⟨a, s0, hr⟩ := h.open
  have HR := Lib.hid (hr.clk hc)
  have q1 := hr.clock
  have B0 : Blk w x 79 (ncs d p a) := s0.sep.get (i := 0) rfl
  have c4 : w.cell? ⟨x, 4, none⟩ = some (.int .i64 p.clock) := B0.cell rfl
  have f4 := B0.free 4
  have BB := Lib.hid B0
  have S0 := Lib.hid s0
  have HA1 := Lib.hid hact
  have HC1 := Lib.hid hC
  clear h hr B0 s0 hact hC
  go_enter Tryz.func10, Tryz.ntmps10
  go_wp2_with fail
  have B1 := BB.out.set 4 (.int .i64 (p.clock + 1))
  have S1 := S0.out.set 0 rfl (pX_ok x d (clkP p) a) (((Touch.refl [x] w).cell (g := x) (by simp) 4 (.int .i64 (p.clock + 1)))) B1 (fun k hk => .inl hk)
  have W1 : NdW w _ x d F (clkP p) := (show St okN w _ F (parts x d (clkP p) a) from S1).shut HR.out
  clear B1 S1 c4 f4
  generalize w.setCell ⟨x, 4, none⟩ (.int .i64 (p.clock + 1)) = w1 at *
  obtain ⟨⟨F1, N1, hF1⟩, T1⟩ := W1
  refine (HA1.out w1 F1 N1).mono ?_
  rintro e w2 ⟨Q, p', A, c, hq, rfl, o2, ⟨⟨F2, N2, hF2⟩, T2⟩⟩
  have HQ := Lib.hid hq
  have O2 := Lib.hid o2
  have H2 := Lib.hid N2
  have D1 := Lib.hid hF1
  have D2 := Lib.hid hF2
  have TT1 := Lib.hid T1
  have TT2 := Lib.hid T2
  clear hq o2 N1 N2 hF1 hF2 T1 T2 S0 BB HA1
  go_wp2_with fail
  refine (settle_c H2.out (HC1.out Q p' HQ.out).1 (HC1.out Q p' HQ.out).2).mono ?_
  rintro e w3 ⟨rfl, W3⟩
  have W3' := Lib.hid W3
  clear W3
  go_wp2_with fail
  go_ret
  refine ⟨Q, setP p', A, c, ⟨p', HQ.out, rfl⟩, rfl, (H2.out.ow O2.out W3'.out.touch).down TT1.out.size, NdW.then D1.out TT1.out (NdW.then D2.out TT2.out W3'.out)⟩

set_option maxHeartbeats 4000000 in
set_option maxRecDepth 100000 in
theorem hear_ofG {w : World} {x d : Nat} {F : List Nat} {p : Np} (h : Nd w x d F p) {Ab : Option Addr} {cb nb : Nat} {l : List Int} (R : Rd w w.heap.size Ab cb 1 nb (bs l)) (hb : isB l) (ht : Tab w) (hn : nb ≤ 1000000) {m : Msg} (hd : PMsg.dec l = some m) (he : PGram.herr p.id p.G (some m) = 0)
    (C : List Mp → Np → Prop) (hC : ∀ Q p', C Q p' → PLog.okN [] p'.L = true ∧ p'.T.length ≤ 999900)
    (hheeds : ∀ w1 F1 A c, Nd w1 x d F1 (gotP p m) → Calls Tryz.prog 56 #[.pointer (some ⟨x, 0, none⟩), mv m A c] w1 fun e w' => e = .returned (.bool true) ∧ Below w1.heap.size w1 w')
    (hheed : ∀ w1 F1 A c, Nd w1 x d F1 (gotP p m) → Rd w1 w1.heap.size A c 7 m.es.length (els m.es) → Calls Tryz.prog 57 #[.pointer (some ⟨x, 0, none⟩), mv m A c] w1 (TickPost w1 x d F1 C)) :
    Calls Tryz.prog 28 #[.pointer (some ⟨x, 0, none⟩), .slice Ab nb cb] w (TickPost w x d F (cSet C)) := by
  obtain ⟨a, s0, hr⟩ := h.open
  have HR := Lib.hid (hr.got m)
  have S0 := Lib.hid s0
  have B0 : Blk w x 79 (ncs d p a) := s0.sep.get (i := 0) rfl
  have G0 : Gm w a.gg p.id p.G := s0.sep.get (i := 6) rfl
  have c15 : w.cell? ⟨x, 15, none⟩ = some (.pointer (some ⟨a.gg, 0, none⟩)) := B0.cell rfl
  have HRd := Lib.hid R
  have HB := Lib.hid hb
  have HT := Lib.hid ht
  have HN := Lib.hid hn
  have HD := Lib.hid hd
  have HE := Lib.hid he
  have HG := Lib.hid G0
  have HH1 := Lib.hid hheeds
  have HH2 := Lib.hid hheed
  have HC1 := Lib.hid hC
  clear hheeds hheed hC
  clear h hr s0 B0 G0 R hb ht hn hd he
  go_enter Tryz.func28, Tryz.ntmps28
  go_wp2_with fail
  refine (hear_ok HG.out HRd.out HB.out HT.out HN.out HD.out rfl HE.out).mono ?_
  rintro e w1 ⟨A, c, rfl, o1, G1, T1⟩
  have S1 := Lib.hid (show St okN w w1 F (parts x d (gotP p m) a) from S0.out.set 6 rfl (pG_ok (gotP p m) a) T1 G1 (fun k hk => .inl hk))
  have W1 := Lib.hid (S1.out.shut HR.out)
  obtain ⟨⟨F1, n1, hF1⟩, t1⟩ := W1.out
  have N1 := Lib.hid n1
  have D1 := Lib.hid hF1
  have TT1 := Lib.hid t1
  have O1 := Lib.hid (Rd.of_own o1)
  have KZ := Lib.hid (Blk.new w1 #[.int .i64 0, .int .i64 0, .int .i64 0, .int .i64 0, .int .i64 0, .int .i64 0, .int .i64 0, .int .i64 0, .slice none 0 0, .int .i64 0, .int .i64 0, .int .i64 0, .bool false] 31)
  have K2 := Lib.hid (Blk.row KZ.out #[.int .i64 m.kind, .int .i64 m.fr, .int .i64 m.dst, .int .i64 m.boot, .int .i64 m.view, .int .i64 m.last, .int .i64 m.mem, .int .i64 m.pos, .slice A m.es.length c, .int .i64 m.com, .int .i64 m.num, .int .i64 m.clk, .bool m.yes])
  have b2 := Lib.hid (((Below.refl w1.heap.size w1).alloc (Nat.le_refl _) (.cells #[.int .i64 0, .int .i64 0, .int .i64 0, .int .i64 0, .int .i64 0, .int .i64 0, .int .i64 0, .int .i64 0, .slice none 0 0, .int .i64 0, .int .i64 0, .int .i64 0, .bool false] 31)).trans (grown_below (grown_row (w1.alloc (.cells #[.int .i64 0, .int .i64 0, .int .i64 0, .int .i64 0, .int .i64 0, .int .i64 0, .int .i64 0, .int .i64 0, .slice none 0 0, .int .i64 0, .int .i64 0, .int .i64 0, .bool false] 31)) w1.heap.size #[.int .i64 m.kind, .int .i64 m.fr, .int .i64 m.dst, .int .i64 m.boot, .int .i64 m.view, .int .i64 m.last, .int .i64 m.mem, .int .i64 m.pos, .slice A m.es.length c, .int .i64 m.com, .int .i64 m.num, .int .i64 m.clk, .bool m.yes]) (Nat.le_refl _) (by simp)))
  clear o1 G1 T1 n1 hF1 t1 W1 c15 S1 S0 HG
  go_wp2_with (first | ((with_reducible show wpList _ _ _ ((⟨none, Op.store 31 (.tmp 5) _, _, _, _, _⟩ : Oper) :: _) _ _); go_must (refine wpList_store_row rfl 31 (.tmp 5) (.tmp 17) rfl w1.heap.size _ rfl rfl _ _ KZ.out (by kernel_rfl) (by rfl) (by kernel_rfl) ?_)) | ((with_reducible show wpList _ _ _ ((⟨some 23, Op.load _ _, _, _, _, _⟩ : Oper) :: _) _ _); go_must (refine wpList_unguard rfl ?_; refine wpList_load_row rfl 31 (.tmp 5) rfl w1.heap.size rfl 31 #[.int .i64 m.kind, .int .i64 m.fr, .int .i64 m.dst, .int .i64 m.boot, .int .i64 m.view, .int .i64 m.last, .int .i64 m.mem, .int .i64 m.pos, .slice A m.es.length c, .int .i64 m.com, .int .i64 m.num, .int .i64 m.clk, .bool m.yes] (0, 0) _ K2.out Tryz.underlying31 rfl (by kernel_rfl) ?_)))
  generalize (w1.alloc (.cells #[.int .i64 0, .int .i64 0, .int .i64 0, .int .i64 0, .int .i64 0, .int .i64 0, .int .i64 0, .int .i64 0, .slice none 0 0, .int .i64 0, .int .i64 0, .int .i64 0, .bool false] 31)).setRow w1.heap.size #[.int .i64 m.kind, .int .i64 m.fr, .int .i64 m.dst, .int .i64 m.boot, .int .i64 m.view, .int .i64 m.last, .int .i64 m.mem, .int .i64 m.pos, .slice A m.es.length c, .int .i64 m.com, .int .i64 m.num, .int .i64 m.clk, .bool m.yes] = w2 at *
  have N2 := Lib.hid (N1.out.past b2.out)
  refine (HH1.out w2 F1 A c N2.out).mono ?_
  rintro e w3 ⟨rfl, b3⟩
  have N3 := Lib.hid (N2.out.past b3)
  have K3 := Lib.hid (K2.out.past b3)
  have O3 := Lib.hid (((O1.out.past b2.out).tight.past b3).tight)
  have b3' := Lib.hid (b2.out.trans (b3.mono b2.out.size))
  clear b3 K2 N2 N1 O1
  go_wp2_with ((with_reducible show wpList _ _ _ ((⟨some 28, Op.load _ _, _, _, _, _⟩ : Oper) :: _) _ _); go_must (refine wpList_load_row rfl 31 (.tmp 5) rfl w1.heap.size rfl 31 #[.int .i64 m.kind, .int .i64 m.fr, .int .i64 m.dst, .int .i64 m.boot, .int .i64 m.view, .int .i64 m.last, .int .i64 m.mem, .int .i64 m.pos, .slice A m.es.length c, .int .i64 m.com, .int .i64 m.num, .int .i64 m.clk, .bool m.yes] (0, 0) _ K3.out Tryz.underlying31 rfl (by kernel_rfl) ?_))
  refine (HH2.out w3 F1 A c N3.out O3.out).mono ?_
  rintro e w4 ⟨Q, p', A4, c4, hq, rfl, o4, ⟨⟨F4, n4, hF4⟩, t4⟩⟩
  have HQ := Lib.hid hq
  have O4 := Lib.hid o4
  have N4 := Lib.hid n4
  have D4 := Lib.hid hF4
  have TT4 := Lib.hid t4
  clear hq o4 n4 hF4 t4 K3 O3
  go_wp2_with fail
  refine (settle_c N4.out (HC1.out Q p' HQ.out).1 (HC1.out Q p' HQ.out).2).mono ?_
  rintro e w5 ⟨rfl, W5⟩
  have W5' := Lib.hid W5
  clear W5
  go_wp2_with fail
  go_ret
  refine ⟨Q, setP p', A4, c4, ⟨p', HQ.out, rfl⟩, rfl, (N4.out.ow O4.out W5'.out.touch).down (Nat.le_trans TT1.out.size b3'.out.size), NdW.then D1.out TT1.out ((NdW.then D4.out TT4.out W5'.out).behind b3'.out)⟩
end Go.Proofs.YtacipjdaiglnjaaGreatDoor

/- Tick of one that leads; Hear of an MAck by it. -/
namespace Go.Proofs.YtacipjdaiglnjaaGreatDoor
open Go.RowKit PNode

theorem tick_lead {w : World} {x d : Nat} {F : List Nat} {p : Np} {t : Te} (h : Nd w x d F { p with te := some t }) (K : Lt p t) (n : Nat) (hn : p.n = n) (hk : p.knows = true) (hv : hasV p = false) (hd : inV p = true) (h1 : p.pro ≤ 1000000) (h2 : p.den ≤ 1000000) (hc : p.clock < 1099511627776)
    (C : List Mp → Np → Prop) (hC : ∀ Q p', C Q p' → PLog.okN [] p'.L = true ∧ p'.T.length ≤ 999900)
    (hC1 : silent (clkP p) t = true → ∀ Q p', cPropG (addsP (clkP p) t p.pend) n Q p' → C Q p')
    (hC2 : silent (clkP p) t = false → ∀ Q, Q.map Mp.m = (PTeam.lst (PTeam.wout p.mem p.id)).map (fun dst => sends (clkP p) dst (ledM (clkP p) t dst)) → C Q (ledP (clkP p) t)) :
    Calls Tryz.prog 10 #[.pointer (some ⟨x, 0, none⟩)] w (TickPost w x d F (cSet C)) :=
  tick_ofG h hc C hC fun _ _ n1 => act_lead (p := clkP p) (t := t) n1 (Lt.same K rfl rfl rfl K.pl) n hn hk hv hd h1 h2 C hC1 hC2
theorem hear_ack {w : World} {x d : Nat} {F : List Nat} {p : Np} {t : Te} (h : Nd w x d F { p with te := some t }) (K : Lt p t) (own : ∀ q ∈ t.qs, q.fr = p.id) (hd : inV p = true)
    {Ab : Option Addr} {cb nb : Nat} {l : List Int} (R : Rd w w.heap.size Ab cb 1 nb (bs l)) (hb : isB l) (ht : Tab w) (hn : nb ≤ 1000000) {m : Msg} (hdec : PMsg.dec l = some m) (he : PGram.herr p.id p.G (some m) = 0)
    (hk : m.kind = 6) (hv : m.view = p.last) (hfr : PTeam.has p.mem m.fr = true) (hpos : 0 ≤ m.pos ∧ m.pos ≤ 60)
    (C : List Mp → Np → Prop) (hC : ∀ Q p', C Q p' → PLog.okN [] p'.L = true ∧ p'.T.length ≤ 999900)
    (hC1 : ∀ r, PQuo.IsR (ackH t m).H p.n r → (comP (gotP p m) r).com < t.start → C [] { comP (gotP p m) r with te := some (ackT (gotP p m) t m) })
    (hC2 : ∀ r, PQuo.IsR (ackH t m).H p.n r → t.start ≤ (comP (gotP p m) r).com → ∀ s, PQuo.IsR (ackH t m).P p.n s → C [] (ansP (comP (gotP p m) r) (ackT (gotP p m) t m) s)) :
    Calls Tryz.prog 28 #[.pointer (some ⟨x, 0, none⟩), .slice Ab nb cb] w (TickPost w x d F (cSet C)) := by
  refine hear_ofG h R hb ht hn hdec he C hC (fun w1 F1 A c n1 => ?_) (fun w1 F1 A c n1 r1 => ?_)
  · refine hd_ack n1 m A c hk ?_ ?_
    · show dec (gotP { p with te := some t } m) = true
      unfold dec
      rw [show inV (gotP { p with te := some t } m) = inV p from rfl, hd]; rfl
    · show ((m.view == p.last) && PTeam.has p.mem m.fr) = true
      rw [hv, hfr]; simp
  · refine heed_ack n1 m A c hk (fun w2 b2 => ?_)
    exact hearAck_c (p := gotP p m) (t := t) (n1.past b2) (Lt.same K rfl rfl rfl K.pl) own m A c (by rw [K.m]; exact hfr) hpos C hC1 hC2
theorem tick_canv {w : World} {x d : Nat} {F : List Nat} {p : Np} (h : Nd w x d F p) (n : Nat) (hn : p.n = n) (hk : p.knows = true) (hv : hasV p = true) {v : Int} {V : List (Option Vt)} (hvo : p.vo = some (v, V)) (hm : PTeam.most (PVote.tm V) p.n = false) (hd : p.den = 0) (hl : late (clkP p) = false) (hc : p.clock < 1099511627776)
    (hC : PLog.okN [] p.L = true ∧ p.T.length ≤ 999900) :
    Calls Tryz.prog 10 #[.pointer (some ⟨x, 0, none⟩)] w (TickPost w x d F (cSet (cCanv (clkP p) n v V))) :=
  tick_ofG h hc _ (fun Q p' hq => by
    have e : p'.L = (clkP p).L ∧ p'.T = (clkP p).T := by
      obtain ⟨-, rfl⟩ := hq
      exact ⟨rfl, rfl⟩
    rw [e.1, e.2]; exact hC) fun _ _ n1 => act_votes n1 hk hv _ fun _ n2 => gather_canv n2 n hn hvo hm hd hl
theorem tick_latV {w : World} {x d : Nat} {F : List Nat} {p : Np} (h : Nd w x d F p) (n : Nat) (hn : p.n = n) (hk : p.knows = true) (hv : hasV p = true) {v : Int} {V : List (Option Vt)} (hvo : p.vo = some (v, V)) (hm : PTeam.most (PVote.tm V) p.n = false) (hd : p.den = 0) (hl : late (clkP p) = true) (h1 : p.pro ≤ 1000000) (hc : p.clock < 1099511627776)
    (hC : ∀ Q p', cPropG (clkP p) n Q p' → PLog.okN [] p'.L = true ∧ p'.T.length ≤ 999900) :
    Calls Tryz.prog 10 #[.pointer (some ⟨x, 0, none⟩)] w (TickPost w x d F (cSet (cPropG (clkP p) n))) :=
  tick_ofG h hc _ hC fun _ _ n1 => act_votes n1 hk hv _ fun _ n2 => gather_lateG n2 n hn hvo hm hd hl h1
end Go.Proofs.YtacipjdaiglnjaaGreatDoor

/- A law's process ticks on, whatever it does: it hears nothing, or nothing that it takes part in. -/
namespace Go.Proofs.YtacipjdaiglnjaaGreatDoor
open Go.RowKit PNode

theorem own_ok {p : Np} (h : Nr p) {v : Int} (hl : p.last < v) : PVote.ok v p.n PVote.none7 ⟨p.id, p.last, [], 0⟩ = true := by
  have h1 := h.id
  have h2 := h.last.1
  have e : PTeam.has (PVote.tm PVote.none7) p.id = false := by rw [PVote.tm_none]; unfold PTeam.has; simp
  unfold PVote.ok PVote.good
  rw [e]
  have e2 : PVote.isLog [] = true := by decide
  simp only [e2, Bool.not_false, Bool.and_true, Bool.and_eq_true, decide_eq_true_eq]
  refine ⟨⟨⟨h1.1, h1.2⟩, h2, hl⟩, Int.le_refl _, Int.le_refl _⟩
theorem own_tm {p : Np} (h : Nr p) {v : Int} (hl : p.last < v) : PVote.tm (own p v) = PTeam.one p.id := by
  unfold own PVote.add
  rw [if_pos (own_ok h hl), PVote.tm_put _ (by rfl) _ h.id.1 (by have := h.id; have := h.n; show p.id ≤ 7; omega), PVote.tm_none]
  unfold PTeam.wth
  simp
theorem most_one {id n : Int} (h1 : 1 ≤ id) (h2 : id ≤ n) (h3 : 3 ≤ n) (h7 : n ≤ 7) : PTeam.most (PTeam.one id) n = false := by
  obtain ⟨i, rfl⟩ : ∃ i : Nat, id = (i : Int) + 1 := ⟨(id - 1).toNat, by omega⟩
  obtain ⟨k, rfl⟩ : ∃ k : Nat, n = (k : Int) + 3 := ⟨(n - 3).toNat, by omega⟩
  have hi : i < 7 := by omega
  have hk : k < 5 := by omega
  have := List.all_eq_true.1 (List.all_eq_true.1 (by decide +kernel : (List.range 7).all (fun i => (List.range 5).all fun k => !PTeam.most (PTeam.one ((i : Int) + 1)) ((k : Int) + 3)) = true) i (List.mem_range.2 hi)) k (List.mem_range.2 hk)
  simpa using this

/-- It waits, or has its own vote alone; it is in no view; k ticks went by. -/
structure Pg (id n boot : Int) (k : Int) (p : Np) : Prop where
  eid : p.id = id
  en : p.n = n
  eboot : p.boot = boot
  clock : p.clock = k
  knows : p.knows = (boot == 1)
  last : p.last = 0
  L : p.L = []
  com : p.com = 0
  te : p.te = none
  den : p.den = 0
  pro : p.pro ≤ 8 * k
  jo : ∃ j, p.jo = some j
  G : p.G = PGram.zeroL
  vo : p.vo = none ∨ ∃ V, p.vo = some (p.pro, V) ∧ PTeam.most (PVote.tm V) n = false
theorem Pg.new (id n boot : Int) : Pg id n boot 0 (newP id n boot 0) := ⟨rfl, rfl, rfl, rfl, rfl, rfl, rfl, rfl, rfl, rfl, Int.le_refl _, ⟨_, rfl⟩, rfl, .inl rfl⟩
theorem Pg.clk {id n boot k : Int} {p : Np} (h : Pg id n boot k p) : Pg id n boot (k + 1) (clkP p) :=
  ⟨h.eid, h.en, h.eboot, by show p.clock + 1 = k + 1; rw [h.clock], h.knows, h.last, h.L, h.com, h.te, h.den, by have := h.pro; show p.pro ≤ 8 * (k + 1); omega, h.jo, h.G, h.vo⟩
theorem Pg.prp {id n boot k : Int} {p : Np} (h : Pg id n boot k p) (hr : Nr p) {v : Int} (hv : IsNext p.id p.n (max p.pro p.den + 1) v) (hk : p.pro + 7 ≤ 8 * k) : Pg id n boot k (prpP p v) := by
  have e1 := hv.1
  have e2 := hv.2.1
  have e3 := hr.n
  have e4 := hr.id
  have e5 := hr.pro
  have e6 : max p.pro p.den = p.pro := by rw [h.den]; exact Int.max_eq_left e5.1
  rw [e6] at e1 e2
  refine ⟨h.eid, h.en, h.eboot, h.clock, h.knows, h.last, rfl, rfl, rfl, rfl, by show v ≤ 8 * k; omega, h.jo, h.G, .inr ⟨own p v, rfl, ?_⟩⟩
  rw [own_tm hr (by rw [h.last]; omega), ← h.en]
  exact most_one e4.1 e4.2 e3.1 e3.2

/-- One tick more. -/
theorem Sn.tick {w0 w : World} {x d : Nat} {p : Np} (h : Sn w0 w x d p) {id n boot k : Int} (hp : Pg id n boot k p) (h0 : 0 ≤ k) (hk : k ≤ 1000) :
    Calls Tryz.prog 10 #[.pointer (some ⟨x, 0, none⟩)] w (SnPost w0 w x d (fun _ p' => Pg id n boot (k + 1) p')) := by
  have hr := h.r
  have hpc := hp.clk
  have hrc := hr.clk (by rw [hp.clock]; omega)
  obtain ⟨N, hN⟩ : ∃ N : Nat, p.n = N := ⟨p.n.toNat, by have := hr.n; omega⟩
  refine h.post (fun F hF => tick_of hF (by rw [hp.clock]; omega) _ (fun Q p' hh => ⟨hh.L, hh.com⟩) (fun w1 F1 h1 => ?_))
  have hw : ∀ {C C' : List Mp → Np → Prop} {e : Ending} {w' : World}, (∀ Q p', C Q p' → C' Q p') → TickPost w1 x d F1 C e w' → TickPost w1 x d F1 C' e w' := fun hc ⟨Q, p', A, c, q1, q2, q3, q4⟩ => ⟨Q, p', A, c, hc Q p' q1, q2, q3, q4⟩
  have hpro : (clkP p).pro ≤ 1000000 := by have := hp.pro; show p.pro ≤ _; omega
  have hden : (clkP p).den ≤ 1000000 := by rw [hpc.den]; omega
  have hprp : ∀ Q p', cProp (clkP p) N Q p' → Pg id n boot (k + 1) p' := fun Q p' ⟨v, hv, _, e⟩ => by
    rw [e]; exact hpc.prp hrc hv (by have := hp.pro; show p.pro + 7 ≤ _; omega)
  cases hkn : p.knows
  · obtain ⟨j, hj⟩ := hp.jo
    exact (act_ask h1 N hN hkn hj).mono fun e w' hh => hw (fun Q p' hc => by rw [hc.2]; exact hpc) hh
  · rcases hp.vo with hv | ⟨V, hv, hm⟩
    · have e0 : hasV (clkP p) = false := by unfold hasV; rw [show (clkP p).vo = none from hv]
      cases hl : late (clkP p)
      · have hi : inV (clkP p) = false := by unfold inV; rw [show (clkP p).last = 0 from hp.last]; simp
        exact (act_none h1 hkn e0 hp.te hi hl).mono fun e w' hh => hw (fun Q p' hc => by rw [hc.2]; exact hpc) hh
      · exact (act_late h1 N hN hkn e0 hp.te hl hpro hden hp.L hp.com).mono fun e w' hh => hw hprp hh
    · have e0 : hasV (clkP p) = true := by unfold hasV; rw [show (clkP p).vo = some (p.pro, V) from hv]; exact beq_self_eq_true p.pro
      have hm' : PTeam.most (PVote.tm V) (clkP p).n = false := by rw [show (clkP p).n = n from hp.en]; exact hm
      cases hl : late (clkP p)
      · exact act_votes h1 hkn e0 _ (fun w2 h2 => (gather_canv h2 N hN (show (clkP p).vo = some (p.pro, V) from hv) hm' hp.den hl).mono fun e w' ⟨Q, p', A, c, q1, q2, q3, q4⟩ => ⟨Q, p', A, c, by rw [q1.2]; exact hpc, q2, q3, q4⟩)
      · exact act_votes h1 hkn e0 _ (fun w2 h2 => (gather_late h2 N hN (show (clkP p).vo = some (p.pro, V) from hv) hm' hp.den hl hpro hp.L hp.com).mono fun e w' ⟨Q, p', A, c, q1, q2, q3, q4⟩ => ⟨Q, p', A, c, hprp Q p' q1, q2, q3, q4⟩)
end Go.Proofs.YtacipjdaiglnjaaGreatDoor

/- A law's process that hears nothing: it waits, then proposes; a row of messages by place. -/
namespace Go.Proofs.YtacipjdaiglnjaaGreatDoor
open Go.RowKit PNode

theorem ms_at {w : World} {base n c i : Nat} {A : Option Addr} {Q : List Mp} {q : Mp} (o : Ow w base 31 13 A n c (mgs Q)) (hi : Q[i]? = some q) : ∃ g, A = some ⟨g, 0, none⟩ ∧ ∀ j v, (mgc q)[j]? = some v → w.cell? ⟨g, i * 13 + j, none⟩ = some v := by
  have hlt : i < Q.length := (List.getElem?_eq_some_iff.1 hi).1
  have hn : n = Q.length := by have := o.1; rw [mgs_length] at this; omega
  obtain ⟨g, rfl, -, -⟩ := o.some (by omega)
  refine ⟨g, rfl, fun j v hv => ?_⟩
  have hj : j < 13 := (List.getElem?_eq_some_iff.1 hv).1
  exact (o.cell rfl (by rw [← hv]; exact rows_at mgc_length hi hj)).1

/-- It waits since its beginning. -/
def idl (id n k : Int) : Np := { newP id n 1 0 with clock := k }
theorem idl_late (id n k : Int) : late (idl id n k) = decide (8 + 2 * id ≤ k - 0) := rfl
theorem Sn.first {w0 w : World} {x d : Nat} {id n k : Int} (h : Sn w0 w x d (idl id n k)) (h0 : 0 ≤ k) (hk : k + 1 = 8 + 2 * id) (h7 : id ≤ 7) (N : Nat) (hN : n = N) :
    Calls Tryz.prog 10 #[.pointer (some ⟨x, 0, none⟩)] w (SnPost w0 w x d (cProp (idl id n (k + 1)) N)) :=
  h.post (fun F hF => tick_of hF (by show k < _; omega) _ (fun Q p' hh => by obtain ⟨v, -, -, rfl⟩ := hh; exact ⟨rfl, rfl⟩) (fun w1 F1 h1 => act_late (p := idl id n (k + 1)) h1 N hN rfl rfl rfl (by rw [idl_late]; simp; omega) (by show (0 : Int) ≤ _; omega) (by show (0 : Int) ≤ _; omega) rfl rfl))
theorem propsP_each {t : Nat} {me boot view : Int} {N i : Nat} {q : Mp} (h : (propsP t me boot view N)[i]? = some q) : ∃ dst, q = ⟨propM me boot view dst, none, 0⟩ := by
  have hm := List.mem_of_getElem? h
  unfold propsP at hm
  obtain ⟨m, h1, rfl⟩ := List.mem_map.1 hm
  obtain ⟨dst, -, -, rfl⟩ := props_each h1
  exact ⟨dst, rfl⟩
end Go.Proofs.YtacipjdaiglnjaaGreatDoor

