/- A process: its messages (to, reply). -/
import Derived.Test.YtacipjdaiglnjaaGreatDoorSeg12
import Derived.BigRegion
import Derived.Test.YtacipjdaiglnjaaGreatDoorSeg10
import Derived.Test.YtacipjdaiglnjaaGreatDoorSeg1
import Derived.Test.YtacipjdaiglnjaaGreatDoorSeg3
namespace Go.Proofs.YtacipjdaiglnjaaGreatDoor
open Go.RowKit PNode

/-- A message as it leaves. -/
def sends (p : Np) (dst : Int) (m : Msg) : Msg := { m with fr := p.id, dst := dst, boot := p.boot }

set_option maxHeartbeats 4000000 in
set_option maxRecDepth 100000 in
theorem to_c {w : World} {x d : Nat} {p : Np} {a : Na} (B : Blk w x 79 (ncs d p a)) (dst : Int) (m : Msg) (A : Option Addr) (c : Nat) :
    Calls Tryz.prog 122 #[.pointer (some ⟨x, 0, none⟩), .int .i64 dst, mv m A c] w fun e w' => e = .returned (mv (sends p dst m) A c) ∧ Below w.heap.size w w' := by
  have b0 := Lib.hid (((Below.refl w.heap.size w).alloc (Nat.le_refl _) (.cells #[.int .i64 m.kind, .int .i64 m.fr, .int .i64 m.dst, .int .i64 m.boot, .int .i64 m.view, .int .i64 m.last, .int .i64 m.mem, .int .i64 m.pos, .slice A m.es.length c, .int .i64 m.com, .int .i64 m.num, .int .i64 m.clk, .bool m.yes] 31)).alloc (by simp) (.cells #[.int .i64 0, .int .i64 0, .int .i64 0, .int .i64 0, .int .i64 0, .int .i64 0, .int .i64 0, .int .i64 0, .slice none 0 0, .int .i64 0, .int .i64 0, .int .i64 0, .bool false] 31))
  have K1 := (Blk.new w #[.int .i64 m.kind, .int .i64 m.fr, .int .i64 m.dst, .int .i64 m.boot, .int .i64 m.view, .int .i64 m.last, .int .i64 m.mem, .int .i64 m.pos, .slice A m.es.length c, .int .i64 m.com, .int .i64 m.num, .int .i64 m.clk, .bool m.yes] 31).alloc (.cells #[.int .i64 0, .int .i64 0, .int .i64 0, .int .i64 0, .int .i64 0, .int .i64 0, .int .i64 0, .int .i64 0, .slice none 0 0, .int .i64 0, .int .i64 0, .int .i64 0, .bool false] 31)
  have K2 := Blk.new (w.alloc (.cells #[.int .i64 m.kind, .int .i64 m.fr, .int .i64 m.dst, .int .i64 m.boot, .int .i64 m.view, .int .i64 m.last, .int .i64 m.mem, .int .i64 m.pos, .slice A m.es.length c, .int .i64 m.com, .int .i64 m.num, .int .i64 m.clk, .bool m.yes] 31)) #[.int .i64 0, .int .i64 0, .int .i64 0, .int .i64 0, .int .i64 0, .int .i64 0, .int .i64 0, .int .i64 0, .slice none 0 0, .int .i64 0, .int .i64 0, .int .i64 0, .bool false] 31
  have B' := (B.alloc (.cells #[.int .i64 m.kind, .int .i64 m.fr, .int .i64 m.dst, .int .i64 m.boot, .int .i64 m.view, .int .i64 m.last, .int .i64 m.mem, .int .i64 m.pos, .slice A m.es.length c, .int .i64 m.com, .int .i64 m.num, .int .i64 m.clk, .bool m.yes] 31)).alloc (.cells #[.int .i64 0, .int .i64 0, .int .i64 0, .int .i64 0, .int .i64 0, .int .i64 0, .int .i64 0, .int .i64 0, .slice none 0 0, .int .i64 0, .int .i64 0, .int .i64 0, .bool false] 31)
  have hx : x < w.heap.size := B.lt
  have hs : (w.alloc (.cells #[.int .i64 m.kind, .int .i64 m.fr, .int .i64 m.dst, .int .i64 m.boot, .int .i64 m.view, .int .i64 m.last, .int .i64 m.mem, .int .i64 m.pos, .slice A m.es.length c, .int .i64 m.com, .int .i64 m.num, .int .i64 m.clk, .bool m.yes] 31)).heap.size = w.heap.size + 1 := by simp
  rw [hs] at K2
  clear B hs
  show Calls _ _ #[_, _, .agg #[.int .i64 m.kind, .int .i64 m.fr, .int .i64 m.dst, .int .i64 m.boot, .int .i64 m.view, .int .i64 m.last, .int .i64 m.mem, .int .i64 m.pos, .slice A m.es.length c, .int .i64 m.com, .int .i64 m.num, .int .i64 m.clk, .bool m.yes]] _ _
  go_enter Tryz.func122, Tryz.ntmps122
  go_wp2_with fail
  generalize (w.alloc (.cells #[.int .i64 m.kind, .int .i64 m.fr, .int .i64 m.dst, .int .i64 m.boot, .int .i64 m.view, .int .i64 m.last, .int .i64 m.mem, .int .i64 m.pos, .slice A m.es.length c, .int .i64 m.com, .int .i64 m.num, .int .i64 m.clk, .bool m.yes] 31)).alloc (.cells #[.int .i64 0, .int .i64 0, .int .i64 0, .int .i64 0, .int .i64 0, .int .i64 0, .int .i64 0, .int .i64 0, .slice none 0 0, .int .i64 0, .int .i64 0, .int .i64 0, .bool false] 31) = W at *
  obtain ⟨s, hs⟩ : ∃ s, w.heap.size = s := ⟨_, rfl⟩
  rw [hs] at K1 K2 hx ⊢
  have HS := Lib.hid hs
  clear hs
  have c0 : W.cell? ⟨x, 0, none⟩ = some (.int .i64 p.id) := B'.cell rfl
  have c2 : W.cell? ⟨x, 2, none⟩ = some (.int .i64 p.boot) := B'.cell rfl
  have k1 : W.cell? ⟨s, 1, none⟩ = some (.int .i64 m.fr) := K1.cell rfl
  have k2 : W.cell? ⟨s, 2, none⟩ = some (.int .i64 m.dst) := K1.cell rfl
  have k3 : W.cell? ⟨s, 3, none⟩ = some (.int .i64 m.boot) := K1.cell rfl
  have f1 := K1.free 1
  have f2 := K1.free 2
  have f3 := K1.free 3
  have H1 := Lib.hid K1
  have H2 := Lib.hid K2
  have hne : x ≠ s := by omega
  have hne2 : s ≠ x := by omega
  clear B' K1 K2 hx
  go_big_region
  have H3 := Lib.hid (((H1.out.set 1 (.int .i64 p.id)).set 2 (.int .i64 dst)).set 3 (.int .i64 p.boot)).drew
  have T3 := Lib.hid ((((Touch.refl [s] W).cell (g := s) (by simp) 1 (.int .i64 p.id)).cell (g := s) (by simp) 2 (.int .i64 dst)).cell (g := s) (by simp) 3 (.int .i64 p.boot)).drew
  clear c0 c2 k1 k2 k3 f1 f2 f3
  generalize (((W.setCell ⟨s, 1, none⟩ (.int .i64 p.id)).setCell ⟨s, 2, none⟩ (.int .i64 dst)).setCell ⟨s, 3, none⟩ (.int .i64 p.boot)).drew = W3 at *
  have H4 := Lib.hid (H2.out.touch T3.out (by simp))
  go_wp2_with (first | ((with_reducible show wpList _ _ _ ((⟨some 19, Op.load _ _, _, _, _, _⟩ : Oper) :: _) _ _); go_must (refine wpList_load_row rfl 31 (.tmp 5) rfl s rfl 31 #[.int .i64 m.kind, .int .i64 p.id, .int .i64 dst, .int .i64 p.boot, .int .i64 m.view, .int .i64 m.last, .int .i64 m.mem, .int .i64 m.pos, .slice A m.es.length c, .int .i64 m.com, .int .i64 m.num, .int .i64 m.clk, .bool m.yes] (0, 0) _ H3.out Tryz.underlying31 rfl (by kernel_rfl) ?_)) | ((with_reducible show wpList _ _ _ ((⟨none, Op.store 31 (.tmp 6) _, _, _, _, _⟩ : Oper) :: _) _ _); go_must (refine wpList_store_row rfl 31 (.tmp 6) (.tmp 19) rfl (s + 1) _ rfl rfl _ _ H4.out (by kernel_rfl) (by rfl) (by kernel_rfl) ?_)))
  have K5 := H4.out.row #[.int .i64 m.kind, .int .i64 p.id, .int .i64 dst, .int .i64 p.boot, .int .i64 m.view, .int .i64 m.last, .int .i64 m.mem, .int .i64 m.pos, .slice A m.es.length c, .int .i64 m.com, .int .i64 m.num, .int .i64 m.clk, .bool m.yes]
  refine bodyPost_ret (v := mv (sends p dst m) A c) (results_cell_row rfl _ _ (s + 1) _ _ _ _ rfl K5 Tryz.underlying31 rfl (by kernel_rfl)) rfl ⟨rfl, ?_⟩
  have e := HS.out
  exact (b0.out.trans (T3.out.below (by intro k hk; rw [List.mem_singleton.1 hk]; omega) b0.out.size)).trans (grown_below (grown_row W3 (s + 1) _) (by omega) (Nat.le_trans b0.out.size T3.out.size))

end Go.Proofs.YtacipjdaiglnjaaGreatDoor

/- A process: it asks those that have not voted (canvass). -/
namespace Go.Proofs.YtacipjdaiglnjaaGreatDoor
open Go.RowKit PNode

/-- The questions, as messages with no entries. -/
def propsP (t : Nat) (me boot view : Int) (k : Nat) : List Mp := (props t me boot view k).map fun m => ⟨m, none, 0⟩
theorem propsP_has {t : Nat} {me boot view : Int} {k : Nat} (h : PTeam.has t ((k : Int) + 1) = true) : propsP t me boot view (k + 1) = propsP t me boot view k := by unfold propsP; rw [props_has h]
theorem propsP_not {t : Nat} {me boot view : Int} {k : Nat} (h : PTeam.has t ((k : Int) + 1) = false) : propsP t me boot view (k + 1) = propsP t me boot view k ++ [⟨propM me boot view (k + 1), none, 0⟩] := by unfold propsP; rw [props_not h, List.map_append]; rfl
theorem propsP_le (t : Nat) (me boot view : Int) (k : Nat) : (propsP t me boot view k).length ≤ k := by unfold propsP; rw [List.length_map]; exact props_le ..

set_option maxHeartbeats 4000000 in
set_option maxRecDepth 100000 in
theorem canvass_c {w : World} {x d : Nat} {p : Np} {a : Na} (B : Blk w x 79 (ncs d p a)) (n : Nat) (hn : p.n = n) (h7 : n ≤ 7) {view : Int} {V : List (Option Vt)} (hv : p.vo = some (view, V)) (K : Vs w a.vg a.FV view p.n V) :
    Calls Tryz.prog 108 #[.pointer (some ⟨x, 0, none⟩)] w fun e w' => ∃ A c, e = .returned (.slice A (propsP (PVote.tm V) p.id p.boot view n).length c) ∧ Ms w' w.heap.size A c (propsP (PVote.tm V) p.id p.boot view n) ∧ Below w.heap.size w w' := by
  have HB := Lib.hid B
  have HK := Lib.hid K
  have HV := Lib.hid hv
  have hN := Lib.hid hn
  have HT := Lib.hid (PVote.tm_lt V)
  clear B K hv hn
  go_enter Tryz.func108, Tryz.ntmps108
  go_wp2_with fail
  go_loopw [3, 4] (fun s3 s4 wr => ∃ (k : Nat) (A : Option Addr) (c : Nat) (Q : List Mp), s4 = .int .i64 ((k : Int) + 1) ∧ k ≤ n ∧ Q.length ≤ 7 ∧ s3 = .slice A Q.length c ∧ Hid (Q = propsP (PVote.tm V) p.id p.boot view k) ∧ Hid (Ms wr w.heap.size A c Q) ∧ Hid (Below w.heap.size w wr)) (fun _ s4 _ => n + 1 - (intOf s4).toNat)
  case atStart => exact ⟨0, none, 0, [], rfl, by omega, by simp, rfl, Lib.hid rfl, Lib.hid (Ms.nil _ _), Lib.hid (Below.refl _ _)⟩
  case round =>
    obtain ⟨k, A, c, Q, rfl, hk, hq7, rfl, HQ, MM, BT⟩ := hrel
    have B2 := HB.out.below BT.out HB.out.lt
    have c1 : wr.cell? ⟨x, 1, none⟩ = some (.int .i64 n) := by rw [← hN.out]; exact B2.cell rfl
    have c11 : wr.cell? ⟨x, 11, none⟩ = some (.pointer (some ⟨a.vg, 0, none⟩)) := by
      have : wr.cell? ⟨x, 11, none⟩ = some (ptO p.vo a.vg) := B2.cell rfl
      rw [HV.out] at this; exact this
    have K2 : Vs wr a.vg a.FV view p.n V := HK.out.touch (T := []) ⟨BT.out.os, BT.out.tape, BT.out.output, BT.out.size, fun z hz _ => BT.out.block z hz⟩ (by simp)
    have HB2 := Lib.hid B2
    have HK2 := Lib.hid K2
    clear B2 K2
    by_cases hlt : k < n
    · go_wp2_with fail
      refine (vteam_c wr a.vg a.FV view p.n V HK2.out).mono ?_
      rintro e w1 ⟨rfl, rfl⟩
      go_wp2_with fail
      refine (tHas_c wr (PVote.tm V) ((k : Int) + 1) HT.out).mono ?_
      rintro e w1 ⟨rfl, rfl⟩
      cases he : PTeam.has (PVote.tm V) ((k : Int) + 1)
      · have HE := Lib.hid (propsP_not (me := p.id) (boot := p.boot) (view := view) he)
        have hl : (Q ++ [⟨propM p.id p.boot view (k + 1), none, 0⟩] : List Mp).length ≤ 7 := by
          have := propsP_le (PVote.tm V) p.id p.boot view (k + 1)
          rw [HE.out, ← HQ.out] at this
          omega
        have HL := Lib.hid hl
        have hq6 : Q.length ≤ 6 := by rw [List.length_append, List.length_singleton] at hl; omega
        clear hl
        go_wp2_with fail
        refine (vview_c wr a.vg a.FV view p.n V HK2.out).mono ?_
        rintro e w1 ⟨rfl, rfl⟩
        go_wp2_with fail
        refine (to_c HB2.out ((k : Int) + 1) ⟨1, 0, 0, 0, view, 0, 0, 0, [], 0, 0, 0, false⟩ none 0).mono ?_
        rintro e w1 ⟨rfl, b1⟩
        have MA := Lib.hid (MM.out.past (b1.trans ((Below.refl w1.heap.size w1).alloc (Nat.le_refl _) (.cells (mcs (propM p.id p.boot view ((k : Int) + 1)) none 0).toArray 31) |>.mono b1.size)))
        have RN := Lib.hid (Rd.new w1 (mcs (propM p.id p.boot view ((k : Int) + 1)) none 0).toArray 31 13 1 rfl (by unfold maxLen; omega))
        have HSZ := Lib.hid (show w.heap.size ≤ (w1.alloc (.cells (mcs (propM p.id p.boot view ((k : Int) + 1)) none 0).toArray 31)).heap.size from Nat.le_trans BT.out.size (Nat.le_trans b1.size (by simp)))
        have HFIT := Lib.hid (show (-9223372036854775808 : Int) ≤ (propM p.id p.boot view ((k : Int) + 1)).mem ∧ (propM p.id p.boot view ((k : Int) + 1)).mem ≤ 9223372036854775807 from (show (-9223372036854775808 : Int) ≤ 0 ∧ (0 : Int) ≤ 9223372036854775807 by decide))
        have B1 := Lib.hid ((BT.out.trans (b1.mono BT.out.size)).alloc (Nat.le_trans BT.out.size b1.size) (.cells (mcs (propM p.id p.boot view ((k : Int) + 1)) none 0).toArray 31))
        clear b1
        go_wp2_with (first | ((with_reducible show wpList _ _ _ ((⟨some 31, Op.buildSlice _ _ _, _, _, _, _⟩ : Oper) :: _) _ _); go_must (refine wpList_buildMs rfl (.tmp 30) rfl (propM p.id p.boot view ((k : Int) + 1)) none 0 rfl ?_)) | ((with_reducible show wpList _ _ _ ((⟨some 32, _, _, _, _, _⟩ : Oper) :: _) _ _); go_must (refine wpList_app2 rfl (.tmp 21) (.tmp 31) 34 rfl w.heap.size 31 _ 13 120 Tryz.underlying34 nMsg_info rfl (by omega) A Q.length c (mgs Q) rfl MA.out.row _ _ 1 1 (mgc ⟨propM p.id p.boot view ((k : Int) + 1), none, 0⟩) rfl RN.out (mgc_oneCell _) (by unfold maxLen; omega) (by omega) HSZ.out ?_; intro A2 c2 w3 O3 g3 h3; have M3 := Lib.hid (MA.out.app (q := ⟨propM p.id p.boot view ((k : Int) + 1), none, 0⟩) g3 O3 (Ow.nil _ _ _ _) HFIT.out); have T3 := Lib.hid (B1.out.trans ((Touch.of_bk g3).below (B := w.heap.size) (fun s hs => MA.out.row.low s (mem_bl.1 hs)) HSZ.out)); clear O3 g3 h3)))
        go_roundw
        case rel => exact ⟨k + 1, A2, c2, Q ++ [⟨propM p.id p.boot view (k + 1), none, 0⟩], by go_num, by omega, HL.out, by simp, Lib.hid (by rw [HE.out, HQ.out]), M3, T3⟩
        case measure => simp [intOf]; omega
      · have HE := Lib.hid (propsP_has (me := p.id) (boot := p.boot) (view := view) he)
        go_wp2_with fail
        go_roundw
        case rel => exact ⟨k + 1, A, c, Q, by go_num, by omega, hq7, rfl, Lib.hid (by rw [HE.out]; exact HQ.out), MM, BT⟩
        case measure => simp [intOf]; omega
    · obtain rfl : k = n := by omega
      go_wp2_with fail
      go_ret
      refine ⟨A, c, ?_, ?_, BT.out⟩
      · rw [← HQ.out]; rfl
      · rw [← HQ.out]; exact MM.out
end Go.Proofs.YtacipjdaiglnjaaGreatDoor

/- A process proposes a view, where its log is empty. -/
namespace Go.Proofs.YtacipjdaiglnjaaGreatDoor
open Go.RowKit PNode

/-- Its own vote alone. -/
def own (p : Np) (v : Int) : List (Option Vt) := PVote.add v p.n PVote.none7 ⟨p.id, p.last, [], 0⟩
/-- Behind a promise of view v; half way: a new view, no votes yet; behind its proposing view v. -/
def quitP (p : Np) (v : Int) : Np := { p with L := [], com := 0, pro := v, vo := none, te := none, pc := p.pl, pp := false, heard := p.clock }
def midP (p : Np) (v : Int) : Np := { quitP p v with vo := some (v, PVote.none7), den := 0 }
def prpP (p : Np) (v : Int) : Np := { quitP p v with vo := some (v, own p v), den := 0 }
theorem put_v {p v : Int} (h : p < v) (h2 : v ≤ 1099511627776) : PStab.put p v = v := if_pos ⟨h, h2⟩
theorem Nr.prp {p : Np} (h : Nr p) {v : Int} (h1 : p.pro < v) (h2 : v ≤ 1099511627776) : Nr (prpP p v) :=
  ⟨h.n, h.id, h.boot, ⟨by have := h.pro; show 0 ≤ v; omega, h2⟩, h.clock, ⟨h.clock.1, Int.le_refl _⟩, ⟨h.last.1, by have := h.last; show p.last ≤ v; omega⟩, h.mem, ⟨Int.le_refl _, Int.le_refl _⟩,
    fun v' S e => by cases e; exact ⟨by have := h.pro; omega, h2, PVote.pl_add PVote.pl_none _⟩, ⟨Int.le_refl _, by show (0 : Int) ≤ _; omega⟩,
    ⟨h.pf.len, Int.le_trans h.pf.c0 h.pf.cl, Int.le_refl _, h.pf.l1, h.pf.a, h.pf.k⟩, h.seq⟩

theorem quit_eq {p : Np} {v : Int} (h : p.pro < v) (h2 : v ≤ 1099511627776) (hL : p.L = []) (hc : p.com = 0) : proP p v = quitP p v := by
  unfold proP quitP
  rw [put_v h h2]
  cases p
  simp only at hL hc ⊢
  rw [hL, hc]

set_option maxHeartbeats 8000000 in
set_option maxRecDepth 100000 in
theorem propose_c {w : World} {x d : Nat} {F : List Nat} {p : Np} (h : Nd w x d F p) (n : Nat) (hn : p.n = n) (h1 : p.pro ≤ 1000000) (h2 : p.den ≤ 1000000) (hL : p.L = []) (hc : p.com = 0) :
    Calls Tryz.prog 68 #[.pointer (some ⟨x, 0, none⟩)] w fun e w' => ∃ v A c, e = .returned (.slice A (propsP (PVote.tm (own p v)) p.id p.boot v n).length c) ∧ IsNext p.id p.n (max p.pro p.den + 1) v ∧ Ms w' w.heap.size A c (propsP (PVote.tm (own p v)) p.id p.boot v n) ∧ NdW w w' x d F (prpP p v) := by
  obtain ⟨a0, s0, hr⟩ := h.open
  have HR := Lib.hid hr
  have HH := Lib.hid h
  have HNN := Lib.hid hn
  have HL := Lib.hid hL
  have HC := Lib.hid hc
  have B0 : Blk w x 79 (ncs d p a0) := s0.sep.get (i := 0) rfl
  have D0 : Ds w d p.boot p.pro := s0.sep.get (i := 1) rfl
  clear h hn hL hc s0
  go_enter Tryz.func68, Tryz.ntmps68
  go_wp2_with fail
  refine (nextView_c B0 D0 hr h1 h2).mono ?_
  rintro e w1 ⟨v, rfl, hv, b1⟩
  have HV := Lib.hid hv
  have g1 : p.pro < v := by have := hv.1; have := Int.le_max_left p.pro p.den; omega
  have g2 : v ≤ 1099511627776 := by have := hv.2.1; have := hr.n; have : max p.pro p.den ≤ 1000000 := Int.max_le.2 ⟨h1, h2⟩; omega
  have g0 : v ≠ 0 := by have := hr.pro; omega
  have g3 : 1 ≤ v := by have := hr.pro; omega
  have N1 := HH.out.past b1
  have HB1 := Lib.hid b1
  clear hv B0 D0 hr b1
  go_wp2_with fail
  refine (promise_c N1 v).mono ?_
  rw [quit_eq g1 g2 HL.out HC.out]
  rintro e w2 ⟨rfl, P2⟩
  have W2 := Lib.hid (P2.behind HB1.out)
  clear P2 N1
  obtain ⟨⟨F2, N2, hF2⟩, T2⟩ := W2.out
  obtain ⟨a, s2, hr2⟩ := N2.open
  have HF2 := Lib.hid hF2
  have HT2 := Lib.hid T2
  have S2 := Lib.hid s2
  have HB2 : Blk w2 x 79 (ncs d (quitP p v) a) := s2.sep.get (i := 0) rfl
  have c12 : w2.cell? ⟨x, 12, none⟩ = some (.int .i64 p.den) := HB2.cell rfl
  have f12 := HB2.free 12
  have BB2 := Lib.hid HB2
  have c1 : w2.cell? ⟨x, 1, none⟩ = some (.int .i64 p.n) := HB2.cell rfl
  clear W2 N2 hF2 T2 s2 hr2 HB2
  go_wp2_with fail
  have B3 := Lib.hid (BB2.out.set 12 (.int .i64 0))
  have S3 := Lib.hid (S2.out.set 0 rfl (pX_ok x d { quitP p v with den := 0 } a) (((Touch.refl [x] w2).cell (g := x) (by simp) 12 (.int .i64 0))) B3.out (fun k hk => .inl hk))
  clear c12 f12 c1
  generalize hw3 : w2.setCell ⟨x, 12, none⟩ (.int .i64 0) = w5 at *
  refine (vnew_yes w5 v p.n ⟨g3, by omega, HR.out.n.1, HR.out.n.2⟩).mono ?_
  rintro e w6 ⟨rfl, V6, b6⟩
  have S4 := Lib.hid ((S3.out.put 3 rfl (pV_ok p.n { a with vg := w5.heap.size, FV := [w5.heap.size] } (some (v, PVote.none7))) b6 V6 (by simp [pV])))
  have HB4 : Blk w6 x 79 (ncs d { quitP p v with den := 0 } a) := B3.out.past b6
  have c11 : w6.cell? ⟨x, 11, none⟩ = some (.pointer none) := HB4.cell rfl
  have f11 := HB4.free 11
  have BB4 := Lib.hid HB4
  clear HB4 V6 b6 B3 S3 S2 BB2 hw3
  go_wp2_with fail
  have B5 := Lib.hid (BB4.out.set 11 (.pointer (some ⟨w5.heap.size, 0, none⟩)))
  have S6 := Lib.hid (S4.out.set 0 rfl (pX_ok x d (midP p v) { a with vg := w5.heap.size, FV := [w5.heap.size] }) (((Touch.refl [x] w6).cell (g := x) (by simp) 11 (.pointer (some ⟨w5.heap.size, 0, none⟩)))) B5.out (fun k hk => .inl hk))
  clear c11 f11 BB4 S4
  generalize hw7 : w6.setCell ⟨x, 11, none⟩ (.pointer (some ⟨w5.heap.size, 0, none⟩)) = w6' at *
  have B6 : Hid (Blk w6' x 79 (ncs d (midP p v) { a with vg := w5.heap.size, FV := [w5.heap.size] })) := Lib.hid B5.out
  have L6 : Hid (Lg w6' a.lg a.FL []) := Lib.hid (S6.out.sep.get (i := 2) rfl)
  have hx : x ∉ [w5.heap.size] := S6.out.sep.two (i := 0) (j := 3) (by omega) rfl rfl x (by simp [pX])
  have HX := Lib.hid hx
  have HN7 := Lib.hid HR.out.n.2
  clear hx B5 hw7
  go_wp2_with fail
-- REGION (*curfew/node.Node).propose 7 nprop7 2
  refine Hs.begin ([w5.heap.size]) ?_
  refine Hs.take (v := .pointer (some ⟨x, 0, none⟩)) 0 23 rfl ?_ (fun _ _ => rfl)
  refine Hs.take (v := .pointer (some ⟨x, 0, none⟩)) 1 24 rfl ?_ (fun w' hw' => by go_simp; first | done | rfl | (simp; omega))
  refine Hs.take (v := .pointer (some ⟨x, 11, none⟩)) 2 25 rfl ?_ (fun w' hw' => by go_simp; first | done | rfl | (simp; omega))
  refine Hs.take (v := .pointer (some ⟨w5.heap.size, 0, none⟩)) 3 26 rfl ?_ (fun w' hw' => by exact ldVotes (Blk.cell (i := 11) (Blk.touch (show Blk w6'.drew x 79 (ncs d (midP p v) { a with vg := w5.heap.size, FV := [w5.heap.size] }) from B6.out) hw' HX.out) rfl) rfl)
  refine Hs.take (v := .pointer (some ⟨x, 0, none⟩)) 4 27 rfl ?_ (fun _ _ => rfl)
  refine Hs.take (v := .pointer (some ⟨x, 0, none⟩)) 5 28 rfl ?_ (fun w' hw' => by go_simp; first | done | rfl | (simp; omega))
  refine Hs.take (v := .pointer (some ⟨x, 0, none⟩)) 6 29 rfl ?_ (fun w' hw' => by go_simp; first | done | rfl | (simp; omega))
  refine Hs.take (v := .int .i64 p.id) 7 30 rfl ?_ (fun w' hw' => by exact ldInt (Blk.cell (i := 0) (Blk.touch (show Blk w6'.drew x 79 (ncs d (midP p v) { a with vg := w5.heap.size, FV := [w5.heap.size] }) from B6.out) hw' HX.out) rfl) rfl)
  refine Hs.take (v := .pointer (some ⟨x, 0, none⟩)) 8 31 rfl ?_ (fun _ _ => rfl)
  refine Hs.take (v := .pointer (some ⟨x, 0, none⟩)) 9 32 rfl ?_ (fun w' hw' => by go_simp; first | done | rfl | (simp; omega))
  refine Hs.take (v := .pointer (some ⟨x, 7, none⟩)) 10 33 rfl ?_ (fun w' hw' => by go_simp; first | done | rfl | (simp; omega))
  refine Hs.take (v := .int .i64 p.last) 11 34 rfl ?_ (fun w' hw' => by exact ldI64 (Blk.cell (i := 7) (Blk.touch (show Blk w6'.drew x 79 (ncs d (midP p v) { a with vg := w5.heap.size, FV := [w5.heap.size] }) from B6.out) hw' HX.out) rfl) rfl)
  refine Hs.take (v := .pointer (some ⟨x, 0, none⟩)) 12 35 rfl ?_ (fun _ _ => rfl)
  refine Hs.take (v := .pointer (some ⟨x, 0, none⟩)) 13 36 rfl ?_ (fun w' hw' => by go_simp; first | done | rfl | (simp; omega))
  refine Hs.take (v := .pointer (some ⟨x, 9, none⟩)) 14 37 rfl ?_ (fun w' hw' => by go_simp; first | done | rfl | (simp; omega))
  refine Hs.take (v := .pointer (some ⟨a.lg, 0, none⟩)) 15 38 rfl ?_ (fun w' hw' => by exact ldLog (Blk.cell (i := 9) (Blk.touch (show Blk w6'.drew x 79 (ncs d (midP p v) { a with vg := w5.heap.size, FV := [w5.heap.size] }) from B6.out) hw' HX.out) rfl) rfl)
  refine Hs.take (v := .pointer (some ⟨x, 0, none⟩)) 17 40 rfl ?_ (fun _ _ => rfl)
  refine Hs.take (v := .pointer (some ⟨x, 0, none⟩)) 18 41 rfl ?_ (fun w' hw' => by go_simp; first | done | rfl | (simp; omega))
  refine Hs.take (v := .pointer (some ⟨x, 10, none⟩)) 19 42 rfl ?_ (fun w' hw' => by go_simp; first | done | rfl | (simp; omega))
  refine Hs.take (v := .int .i64 0) 20 43 rfl ?_ (fun w' hw' => by exact ldInt (Blk.cell (i := 10) (Blk.touch (show Blk w6'.drew x 79 (ncs d (midP p v) { a with vg := w5.heap.size, FV := [w5.heap.size] }) from B6.out) hw' HX.out) rfl) rfl)
  refine Hs.call (f := 38) (args := #[.pointer (some ⟨a.lg, 0, none⟩), .int .i64 0]) 16 39 rfl ?_ (run_callf Tryz.func38 (by kernel_rfl) (by kernel_rfl) (by simp only [List.map_toArray, List.map_cons, List.map_nil]; rfl))
  refine (From_none (show Lg w6'.drew a.lg a.FL [] from L6.out.drew)).mono ?_
  rintro e w7 ⟨A, c, rfl, o7, b7⟩
  have S7 := Lib.hid (S6.out.drew.past b7)
  have O7 := Lib.hid o7.rd
  clear o7
  refine Hs.back (.of_below b7) ?_
  refine Hs.take (v := .agg #[.int .i64 p.id, .int .i64 p.last, .slice A 0 c, .int .i64 0]) 21 44 rfl ?_ (fun w' hw' => by go_simp; first | done | rfl | omega | exact wrap_in (by omega) (by omega) | exact Int.tmod_eq_emod_of_nonneg (by omega) | exact Int.tdiv_eq_ediv_of_nonneg (by omega) | (simp; omega))
  refine Hs.call (f := 94) (args := #[.pointer (some ⟨w5.heap.size, 0, none⟩), .agg #[.int .i64 p.id, .int .i64 p.last, .slice A 0 c, .int .i64 0]]) 22 45 rfl ?_ (run_callf Tryz.func94 (by kernel_rfl) (by kernel_rfl) (by simp only [List.map_toArray, List.map_cons, List.map_nil]; rfl))
  refine (vadd_c w7 w5.heap.size [w5.heap.size] v p.n PVote.none7 (S7.out.sep.get (i := 3) rfl) HN7.out ⟨p.id, p.last, [], 0⟩ A c O7.out).mono ?_
  rintro e w8 ⟨rfl, ⟨F8, V8, hF8⟩, T8⟩
  have S8 := Lib.hid (S7.out.set 3 rfl (pV_ok p.n { a with vg := w5.heap.size, FV := F8 } (some (v, PVote.add v p.n PVote.none7 ⟨p.id, p.last, [], 0⟩))) T8 V8 hF8)
  clear V8 hF8
  refine Hs.back T8 ?_
  refine Hs.done ?_
-- END
  have B8 : Blk w8 x 79 (ncs d (prpP p v) { a with vg := w5.heap.size, FV := F8 }) := S8.out.sep.get (i := 0) rfl
  have K8 : Vs w8 w5.heap.size F8 v p.n (own p v) := S8.out.sep.get (i := 3) rfl
  have h7 : n ≤ 7 := by have := HR.out.n.2; have := HNN.out; omega
  go_wp2_with fail
  refine (canvass_c (p := prpP p v) (a := { a with vg := w5.heap.size, FV := F8 }) B8 n HNN.out h7 rfl K8).mono ?_
  rintro e w9 ⟨A9, c9, rfl, M9, b9⟩
  have M9' := Lib.hid M9
  have S9 := Lib.hid (show St okN w2 w9 F2 (parts x d (prpP p v) { a with vg := w5.heap.size, FV := F8 }) from S8.out.past b9)
  clear B8 K8 M9 b9
  go_wp2_with fail
  go_ret
  refine ⟨v, A9, c9, rfl, HV.out, ?_, ?_⟩
  · exact M9'.out.down (Nat.le_trans HT2.out.size (S8.out.touch.size))
  · exact NdW.then HF2.out HT2.out (S9.out.shut (HR.out.prp g1 g2))
end Go.Proofs.YtacipjdaiglnjaaGreatDoor

/- A process's clock goes on (Tick): it waits, asks those that have not voted, proposes; it does not know. Its log is empty. -/
namespace Go.Proofs.YtacipjdaiglnjaaGreatDoor
open Go.RowKit PNode

/-- What a Tick, or what is done behind it, leaves and tells: messages Q, the process p'. -/
def TickPost (w : World) (x d : Nat) (F : List Nat) (C : List Mp → Np → Prop) (e : Ending) (w' : World) : Prop :=
  ∃ Q p' A c, C Q p' ∧ e = .returned (.slice A Q.length c) ∧ Ow w' w.heap.size 31 13 A Q.length c (mgs Q) ∧ NdW w w' x d F p'
/-- One tick later. -/
def clkP (p : Np) : Np := { p with clock := p.clock + 1 }
theorem Nr.clk {p : Np} (h : Nr p) (hc : p.clock < 1099511627776) : Nr (clkP p) :=
  ⟨h.n, h.id, h.boot, h.pro, ⟨by have := h.clock; show 0 ≤ p.clock + 1; omega, by show p.clock + 1 ≤ _; omega⟩, ⟨h.heard.1, by have := h.heard; show p.heard ≤ p.clock + 1; omega⟩, h.last, h.mem, h.com, h.vo, h.den, h.pf, h.seq⟩
theorem Nd.ow {w w' : World} {x d : Nat} {F : List Nat} {p : Np} (h : Nd w x d F p) {base n c : Nat} {A : Option Addr} {xs : List Value} (o : Ow w base 31 13 A n c xs) (t : Touch F w w') : Ow w' base 31 13 A n c xs :=
  o.touch t (fun g hg hA => by
    obtain ⟨ys, hy⟩ := o.blk hA
    exact h.off hy (by decide) hg)
set_option maxHeartbeats 4000000 in
theorem tick_of {w : World} {x d : Nat} {F : List Nat} {p : Np} (h : Nd w x d F p) (hc : p.clock < 1099511627776) (C : List Mp → Np → Prop) (hC : ∀ Q p', C Q p' → p'.L = [] ∧ p'.com = 0)
    (hact : ∀ w1 F1, Nd w1 x d F1 (clkP p) → Calls Tryz.prog 30 #[.pointer (some ⟨x, 0, none⟩)] w1 (TickPost w1 x d F1 C)) :
    Calls Tryz.prog 10 #[.pointer (some ⟨x, 0, none⟩)] w (TickPost w x d F C) := by
  obtain ⟨a, s0, hr⟩ := h.open
  have HR := Lib.hid (hr.clk hc)
  have q1 := hr.clock
  have B0 : Blk w x 79 (ncs d p a) := s0.sep.get (i := 0) rfl
  have c4 : w.cell? ⟨x, 4, none⟩ = some (.int .i64 p.clock) := B0.cell rfl
  have f4 := B0.free 4
  have BB := Lib.hid B0
  have S0 := Lib.hid s0
  have HA1 := Lib.hid hact
  have HC1 := Lib.hid hC
  clear h hr B0 s0 hact hC
  go_enter Tryz.func10, Tryz.ntmps10
  go_wp2_with fail
  have B1 := BB.out.set 4 (.int .i64 (p.clock + 1))
  have S1 := S0.out.set 0 rfl (pX_ok x d (clkP p) a) (((Touch.refl [x] w).cell (g := x) (by simp) 4 (.int .i64 (p.clock + 1)))) B1 (fun k hk => .inl hk)
  have W1 : NdW w _ x d F (clkP p) := (show St okN w _ F (parts x d (clkP p) a) from S1).shut HR.out
  clear B1 S1 c4 f4
  generalize w.setCell ⟨x, 4, none⟩ (.int .i64 (p.clock + 1)) = w1 at *
  obtain ⟨⟨F1, N1, hF1⟩, T1⟩ := W1
  refine (HA1.out w1 F1 N1).mono ?_
  rintro e w2 ⟨Q, p', A, c, hq, rfl, o2, ⟨⟨F2, N2, hF2⟩, T2⟩⟩
  have HQ := Lib.hid hq
  have O2 := Lib.hid o2
  have H2 := Lib.hid N2
  have D1 := Lib.hid hF1
  have D2 := Lib.hid hF2
  have TT1 := Lib.hid T1
  have TT2 := Lib.hid T2
  clear hq o2 N1 N2 hF1 hF2 T1 T2 S0 BB HA1
  go_wp2_with fail
  refine (settle0_c H2.out (HC1.out Q p' HQ.out).1 (HC1.out Q p' HQ.out).2).mono ?_
  rintro e w3 ⟨rfl, W3⟩
  have W3' := Lib.hid W3
  clear W3
  go_wp2_with fail
  go_ret
  refine ⟨Q, p', A, c, HQ.out, rfl, (H2.out.ow O2.out W3'.out.touch).down TT1.out.size, NdW.then D1.out TT1.out (NdW.then D2.out TT2.out W3'.out)⟩
end Go.Proofs.YtacipjdaiglnjaaGreatDoor

/- Whether a process heeds a message. -/
namespace Go.Proofs.YtacipjdaiglnjaaGreatDoor
open Go.RowKit PNode

section
variable {w : World} {x d : Nat} {F : List Nat} {p : Np} (h : Nd w x d F p) (m : Msg) (A : Option Addr) (c : Nat)
include h

set_option maxHeartbeats 4000000 in
set_option maxRecDepth 100000 in
theorem hd_vote (hk : m.kind = 3) {v : Int} {V : List (Option Vt)} (hv : p.vo = some (v, V)) (hf : hasV p = true) :
    Calls Tryz.prog 56 #[.pointer (some ⟨x, 0, none⟩), mv m A c] w fun e w' => e = .returned (.bool (m.view == v)) ∧ Below w.heap.size w w' := by
  obtain ⟨a, s0, hr⟩ := h.open
  have HR := Lib.hid hr
  have b0 := Lib.hid ((Below.refl w.heap.size w).alloc (Nat.le_refl _) (.cells #[.int .i64 3, .int .i64 m.fr, .int .i64 m.dst, .int .i64 m.boot, .int .i64 m.view, .int .i64 m.last, .int .i64 m.mem, .int .i64 m.pos, .slice A m.es.length c, .int .i64 m.com, .int .i64 m.num, .int .i64 m.clk, .bool m.yes] 31))
  have K1 := Lib.hid (Blk.new w #[.int .i64 3, .int .i64 m.fr, .int .i64 m.dst, .int .i64 m.boot, .int .i64 m.view, .int .i64 m.last, .int .i64 m.mem, .int .i64 m.pos, .slice A m.es.length c, .int .i64 m.com, .int .i64 m.num, .int .i64 m.clk, .bool m.yes] 31)
  have S1 := Lib.hid (s0.alloc (.cells #[.int .i64 3, .int .i64 m.fr, .int .i64 m.dst, .int .i64 m.boot, .int .i64 m.view, .int .i64 m.last, .int .i64 m.mem, .int .i64 m.pos, .slice A m.es.length c, .int .i64 m.com, .int .i64 m.num, .int .i64 m.clk, .bool m.yes] 31))
  have B1 : Hid (Blk (w.alloc (.cells #[.int .i64 3, .int .i64 m.fr, .int .i64 m.dst, .int .i64 m.boot, .int .i64 m.view, .int .i64 m.last, .int .i64 m.mem, .int .i64 m.pos, .slice A m.es.length c, .int .i64 m.com, .int .i64 m.num, .int .i64 m.clk, .bool m.yes] 31)) x 79 (ncs d p a)) := Lib.hid (S1.out.sep.get (i := 0) rfl)
  show Calls _ _ #[_, .agg #[.int .i64 m.kind, .int .i64 m.fr, .int .i64 m.dst, .int .i64 m.boot, .int .i64 m.view, .int .i64 m.last, .int .i64 m.mem, .int .i64 m.pos, .slice A m.es.length c, .int .i64 m.com, .int .i64 m.num, .int .i64 m.clk, .bool m.yes]] _ _
  rw [hk]
  have HF := Lib.hid hf
  clear hf
  clear h hr s0 hk
  go_enter Tryz.func56, Tryz.ntmps56
  obtain ⟨b, hb⟩ : ∃ b, (m.view == v) = b := ⟨_, rfl⟩
  rw [hb]
  have HB := Lib.hid hb
  clear hb
  have B1v : Hid (Blk (w.alloc (.cells #[.int .i64 3, .int .i64 m.fr, .int .i64 m.dst, .int .i64 m.boot, .int .i64 m.view, .int .i64 m.last, .int .i64 m.mem, .int .i64 m.pos, .slice A m.es.length c, .int .i64 m.com, .int .i64 m.num, .int .i64 m.clk, .bool m.yes] 31)) x 79 (ncs d { p with vo := some (v, V) } a)) := Lib.hid (by rw [← hv]; exact B1.out)
  have V1 : Hid (Vs (w.alloc (.cells #[.int .i64 3, .int .i64 m.fr, .int .i64 m.dst, .int .i64 m.boot, .int .i64 m.view, .int .i64 m.last, .int .i64 m.mem, .int .i64 m.pos, .slice A m.es.length c, .int .i64 m.com, .int .i64 m.num, .int .i64 m.clk, .bool m.yes] 31)) a.vg a.FV v p.n V) := Lib.hid (by have : (pV p.n a p.vo).P (w.alloc (.cells #[.int .i64 3, .int .i64 m.fr, .int .i64 m.dst, .int .i64 m.boot, .int .i64 m.view, .int .i64 m.last, .int .i64 m.mem, .int .i64 m.pos, .slice A m.es.length c, .int .i64 m.com, .int .i64 m.num, .int .i64 m.clk, .bool m.yes] 31)) := S1.out.sep.get (i := 3) rfl; rw [hv] at this; exact this)
  clear hv
  go_wp2_with fail
-- REGION (*curfew/node.Node).heeds 9 nheed9t 2
  refine Hb.begin ?_
  refine Hb.take (v := .pointer (some ⟨x, 0, none⟩)) 0 39 rfl ?_ (fun _ _ => rfl)
  refine Hb.call (f := 63) (args := #[.pointer (some ⟨x, 0, none⟩)]) 1 40 rfl ?_ (run_callf Tryz.func63 (by kernel_rfl) (by kernel_rfl) (by simp only [List.map_toArray, List.map_cons, List.map_nil]; rfl))
  refine (hasVotes_c (show Blk (w.alloc (.cells #[.int .i64 3, .int .i64 m.fr, .int .i64 m.dst, .int .i64 m.boot, .int .i64 m.view, .int .i64 m.last, .int .i64 m.mem, .int .i64 m.pos, .slice A m.es.length c, .int .i64 m.com, .int .i64 m.num, .int .i64 m.clk, .bool m.yes] 31)).drew x 79 (ncs d p a) from B1.out) (S1.out.drew.sep.get (i := 1) rfl) (S1.out.drew.sep.get (i := 3) rfl)).mono ?_
  rw [HF.out]
  rintro e w2 ⟨rfl, b2⟩
  have BE := Lib.hid (b0.out.drew.trans (b2.mono b0.out.size))
  have B2 := Lib.hid (Blk.past (show Blk (w.alloc (.cells #[.int .i64 3, .int .i64 m.fr, .int .i64 m.dst, .int .i64 m.boot, .int .i64 m.view, .int .i64 m.last, .int .i64 m.mem, .int .i64 m.pos, .slice A m.es.length c, .int .i64 m.com, .int .i64 m.num, .int .i64 m.clk, .bool m.yes] 31)).drew x 79 (ncs d { p with vo := some (v, V) } a) from B1v.out) b2)
  have K2 := Lib.hid (Blk.past (show Blk (w.alloc (.cells #[.int .i64 3, .int .i64 m.fr, .int .i64 m.dst, .int .i64 m.boot, .int .i64 m.view, .int .i64 m.last, .int .i64 m.mem, .int .i64 m.pos, .slice A m.es.length c, .int .i64 m.com, .int .i64 m.num, .int .i64 m.clk, .bool m.yes] 31)).drew w.heap.size 31 (mcs { m with kind := 3 } A c) from K1.out) b2)
  have V2 := Lib.hid (Vs.past V1.out.drew b2)
  refine Hb.back b2 b2.size ?_
  refine Hb.take (v := .bool true) 2 41 rfl ?_ (fun _ _ => rfl)
  refine Hb.take (v := .pointer (some ⟨w.heap.size, 4, none⟩)) 3 42 rfl ?_ (fun w' hw' => by go_simp; first | done | rfl | (simp; omega))
  refine Hb.take (v := .int .i64 m.view) 4 43 rfl ?_ (fun w' hw' => by exact ldI64 (Blk.cell (i := 4) (Blk.past (show Blk w2 w.heap.size 31 (mcs { m with kind := 3 } A c) from K2.out) hw') rfl) rfl)
  refine Hb.take (v := .pointer (some ⟨x, 0, none⟩)) 5 44 rfl ?_ (fun _ _ => rfl)
  refine Hb.take (v := .pointer (some ⟨x, 0, none⟩)) 6 45 rfl ?_ (fun w' hw' => by go_simp; first | done | rfl | (simp; omega))
  refine Hb.take (v := .pointer (some ⟨x, 11, none⟩)) 7 46 rfl ?_ (fun w' hw' => by go_simp; first | done | rfl | (simp; omega))
  refine Hb.take (v := .pointer (some ⟨a.vg, 0, none⟩)) 8 47 rfl ?_ (fun w' hw' => by exact ldVotes (Blk.cell (i := 11) (Blk.past (show Blk w2 x 79 (ncs d { p with vo := some (v, V) } a) from B2.out) hw') rfl) rfl)
  refine Hb.call (f := 90) (args := #[.pointer (some ⟨a.vg, 0, none⟩)]) 9 48 rfl ?_ (run_callf Tryz.func90 (by kernel_rfl) (by kernel_rfl) (by simp only [List.map_toArray, List.map_cons, List.map_nil]; rfl))
  refine (vview_c w2 a.vg a.FV v p.n V V2.out).mono ?_
  rintro e w3 ⟨rfl, rfl⟩
  refine Hb.back (Below.refl _ _) (Nat.le_refl _) ?_
  refine Hb.take (v := .bool b) 10 49 rfl ?_ (fun w' hw' => by go_simp; rw [HB.out])
  refine Hb.take (v := .bool b) 11 50 rfl ?_ (fun _ _ => rfl)
  refine Hb.take (v := .bool b) 12 4 rfl ?_ (fun _ _ => rfl)
  refine Hb.done ?_
-- END
  go_wp2_with fail
  go_ret
  exact ⟨rfl, BE.out⟩
end
end Go.Proofs.YtacipjdaiglnjaaGreatDoor

/- What a process does of a message that it heeds: a ping, an MDeny, an MVote, an MPropose (its log empty). -/
namespace Go.Proofs.YtacipjdaiglnjaaGreatDoor
open Go.RowKit PNode

def cDone (p' : Np) (Q : List Mp) (p2 : Np) : Prop := Q = [] ∧ p2 = p'
section
variable {w : World} {x d : Nat} {F : List Nat} {p : Np} (h : Nd w x d F p) (m : Msg) (A : Option Addr) (c : Nat)
include h

set_option maxHeartbeats 8000000 in
set_option maxRecDepth 100000 in
theorem heed_vote (hk : m.kind = 3) {v : Int} {V : List (Option Vt)} (hv : p.vo = some (v, V)) (R : Rd w w.heap.size A c 7 m.es.length (els m.es)) :
    Calls Tryz.prog 57 #[.pointer (some ⟨x, 0, none⟩), mv m A c] w (TickPost w x d F (cDone { p with vo := some (v, PVote.add v p.n V ⟨m.fr, m.last, m.es, m.com⟩) })) := by
  obtain ⟨a, s0, hr⟩ := h.open
  have HR := Lib.hid hr
  have HH := Lib.hid h
  have b0 := Lib.hid ((Below.refl w.heap.size w).alloc (Nat.le_refl _) (.cells #[.int .i64 3, .int .i64 m.fr, .int .i64 m.dst, .int .i64 m.boot, .int .i64 m.view, .int .i64 m.last, .int .i64 m.mem, .int .i64 m.pos, .slice A m.es.length c, .int .i64 m.com, .int .i64 m.num, .int .i64 m.clk, .bool m.yes] 31))
  have K1 : Hid (Blk (w.alloc (.cells #[.int .i64 3, .int .i64 m.fr, .int .i64 m.dst, .int .i64 m.boot, .int .i64 m.view, .int .i64 m.last, .int .i64 m.mem, .int .i64 m.pos, .slice A m.es.length c, .int .i64 m.com, .int .i64 m.num, .int .i64 m.clk, .bool m.yes] 31)) w.heap.size 31 (mcs { m with kind := 3 } A c)) := Lib.hid (Blk.new w #[.int .i64 3, .int .i64 m.fr, .int .i64 m.dst, .int .i64 m.boot, .int .i64 m.view, .int .i64 m.last, .int .i64 m.mem, .int .i64 m.pos, .slice A m.es.length c, .int .i64 m.com, .int .i64 m.num, .int .i64 m.clk, .bool m.yes] 31)
  have S1 := Lib.hid (s0.alloc (.cells #[.int .i64 3, .int .i64 m.fr, .int .i64 m.dst, .int .i64 m.boot, .int .i64 m.view, .int .i64 m.last, .int .i64 m.mem, .int .i64 m.pos, .slice A m.es.length c, .int .i64 m.com, .int .i64 m.num, .int .i64 m.clk, .bool m.yes] 31))
  have B1 : Hid (Blk (w.alloc (.cells #[.int .i64 3, .int .i64 m.fr, .int .i64 m.dst, .int .i64 m.boot, .int .i64 m.view, .int .i64 m.last, .int .i64 m.mem, .int .i64 m.pos, .slice A m.es.length c, .int .i64 m.com, .int .i64 m.num, .int .i64 m.clk, .bool m.yes] 31)) x 79 (ncs d p a)) := Lib.hid (S1.out.sep.get (i := 0) rfl)
  show Calls _ _ #[_, .agg #[.int .i64 m.kind, .int .i64 m.fr, .int .i64 m.dst, .int .i64 m.boot, .int .i64 m.view, .int .i64 m.last, .int .i64 m.mem, .int .i64 m.pos, .slice A m.es.length c, .int .i64 m.com, .int .i64 m.num, .int .i64 m.clk, .bool m.yes]] _ _
  rw [hk]
  have HV := Lib.hid hv
  have R1 := Lib.hid ((R.past ((Below.refl w.heap.size w).alloc (Nat.le_refl _) (.cells #[.int .i64 3, .int .i64 m.fr, .int .i64 m.dst, .int .i64 m.boot, .int .i64 m.view, .int .i64 m.last, .int .i64 m.mem, .int .i64 m.pos, .slice A m.es.length c, .int .i64 m.com, .int .i64 m.num, .int .i64 m.clk, .bool m.yes] 31)).drew).tight)
  have B1v : Hid (Blk (w.alloc (.cells #[.int .i64 3, .int .i64 m.fr, .int .i64 m.dst, .int .i64 m.boot, .int .i64 m.view, .int .i64 m.last, .int .i64 m.mem, .int .i64 m.pos, .slice A m.es.length c, .int .i64 m.com, .int .i64 m.num, .int .i64 m.clk, .bool m.yes] 31)) x 79 (ncs d { p with vo := some (v, V) } a)) := Lib.hid (by rw [← hv]; exact B1.out)
  have V1 : Hid (Vs (w.alloc (.cells #[.int .i64 3, .int .i64 m.fr, .int .i64 m.dst, .int .i64 m.boot, .int .i64 m.view, .int .i64 m.last, .int .i64 m.mem, .int .i64 m.pos, .slice A m.es.length c, .int .i64 m.com, .int .i64 m.num, .int .i64 m.clk, .bool m.yes] 31)).drew a.vg a.FV v p.n V) := Lib.hid (by have : (pV p.n a p.vo).P (w.alloc (.cells #[.int .i64 3, .int .i64 m.fr, .int .i64 m.dst, .int .i64 m.boot, .int .i64 m.view, .int .i64 m.last, .int .i64 m.mem, .int .i64 m.pos, .slice A m.es.length c, .int .i64 m.com, .int .i64 m.num, .int .i64 m.clk, .bool m.yes] 31)) := S1.out.sep.get (i := 3) rfl; rw [hv] at this; exact this.drew)
  have hx : x ∉ [a.vg] := by
    obtain ⟨ys, hy⟩ := V1.out.blk
    exact V1.out.ne (show Blk (w.alloc (.cells #[.int .i64 3, .int .i64 m.fr, .int .i64 m.dst, .int .i64 m.boot, .int .i64 m.view, .int .i64 m.last, .int .i64 m.mem, .int .i64 m.pos, .slice A m.es.length c, .int .i64 m.com, .int .i64 m.num, .int .i64 m.clk, .bool m.yes] 31)).drew x _ _ from B1.out) (by decide)
  have hsg : w.heap.size ∉ [a.vg] := V1.out.ne (show Blk (w.alloc (.cells #[.int .i64 3, .int .i64 m.fr, .int .i64 m.dst, .int .i64 m.boot, .int .i64 m.view, .int .i64 m.last, .int .i64 m.mem, .int .i64 m.pos, .slice A m.es.length c, .int .i64 m.com, .int .i64 m.num, .int .i64 m.clk, .bool m.yes] 31)).drew w.heap.size _ _ from K1.out) (by decide)
  have HX := Lib.hid hx
  have HK := Lib.hid hsg
  clear h hr s0 hk hv R hx hsg
  go_enter Tryz.func57, Tryz.ntmps57
  go_wp2_with fail
-- REGION (*curfew/node.Node).heed 9 nheed_vote 2
  refine Hs.begin ([a.vg]) ?_
  refine Hs.take (v := .pointer (some ⟨x, 0, none⟩)) 0 38 rfl ?_ (fun _ _ => rfl)
  refine Hs.take (v := .pointer (some ⟨x, 0, none⟩)) 1 39 rfl ?_ (fun w' hw' => by go_simp; first | done | rfl | (simp; omega))
  refine Hs.take (v := .pointer (some ⟨x, 11, none⟩)) 2 40 rfl ?_ (fun w' hw' => by go_simp; first | done | rfl | (simp; omega))
  refine Hs.take (v := .pointer (some ⟨a.vg, 0, none⟩)) 3 41 rfl ?_ (fun w' hw' => by exact ldVotes (Blk.cell (i := 11) (Blk.touch (show Blk (w.alloc (.cells #[.int .i64 3, .int .i64 m.fr, .int .i64 m.dst, .int .i64 m.boot, .int .i64 m.view, .int .i64 m.last, .int .i64 m.mem, .int .i64 m.pos, .slice A m.es.length c, .int .i64 m.com, .int .i64 m.num, .int .i64 m.clk, .bool m.yes] 31)).drew x 79 (ncs d { p with vo := some (v, V) } a) from B1v.out) hw' HX.out) rfl) rfl)
  refine Hs.take (v := .pointer (some ⟨w.heap.size, 1, none⟩)) 4 42 rfl ?_ (fun w' hw' => by go_simp; first | done | rfl | (simp; omega))
  refine Hs.take (v := .int .i64 m.fr) 5 43 rfl ?_ (fun w' hw' => by exact ldInt (Blk.cell (i := 1) (Blk.touch (show Blk (w.alloc (.cells #[.int .i64 3, .int .i64 m.fr, .int .i64 m.dst, .int .i64 m.boot, .int .i64 m.view, .int .i64 m.last, .int .i64 m.mem, .int .i64 m.pos, .slice A m.es.length c, .int .i64 m.com, .int .i64 m.num, .int .i64 m.clk, .bool m.yes] 31)).drew w.heap.size 31 (mcs { m with kind := 3 } A c) from K1.out) hw' HK.out) rfl) rfl)
  refine Hs.take (v := .pointer (some ⟨w.heap.size, 5, none⟩)) 6 44 rfl ?_ (fun w' hw' => by go_simp; first | done | rfl | (simp; omega))
  refine Hs.take (v := .int .i64 m.last) 7 45 rfl ?_ (fun w' hw' => by exact ldI64 (Blk.cell (i := 5) (Blk.touch (show Blk (w.alloc (.cells #[.int .i64 3, .int .i64 m.fr, .int .i64 m.dst, .int .i64 m.boot, .int .i64 m.view, .int .i64 m.last, .int .i64 m.mem, .int .i64 m.pos, .slice A m.es.length c, .int .i64 m.com, .int .i64 m.num, .int .i64 m.clk, .bool m.yes] 31)).drew w.heap.size 31 (mcs { m with kind := 3 } A c) from K1.out) hw' HK.out) rfl) rfl)
  refine Hs.take (v := .pointer (some ⟨w.heap.size, 8, none⟩)) 8 46 rfl ?_ (fun w' hw' => by go_simp; first | done | rfl | (simp; omega))
  refine Hs.take (v := .slice A m.es.length c) 9 47 rfl ?_ (fun w' hw' => by exact ldEnts (Blk.cell (i := 8) (Blk.touch (show Blk (w.alloc (.cells #[.int .i64 3, .int .i64 m.fr, .int .i64 m.dst, .int .i64 m.boot, .int .i64 m.view, .int .i64 m.last, .int .i64 m.mem, .int .i64 m.pos, .slice A m.es.length c, .int .i64 m.com, .int .i64 m.num, .int .i64 m.clk, .bool m.yes] 31)).drew w.heap.size 31 (mcs { m with kind := 3 } A c) from K1.out) hw' HK.out) rfl) rfl)
  refine Hs.take (v := .pointer (some ⟨w.heap.size, 9, none⟩)) 10 48 rfl ?_ (fun w' hw' => by go_simp; first | done | rfl | (simp; omega))
  refine Hs.take (v := .int .i64 m.com) 11 49 rfl ?_ (fun w' hw' => by exact ldInt (Blk.cell (i := 9) (Blk.touch (show Blk (w.alloc (.cells #[.int .i64 3, .int .i64 m.fr, .int .i64 m.dst, .int .i64 m.boot, .int .i64 m.view, .int .i64 m.last, .int .i64 m.mem, .int .i64 m.pos, .slice A m.es.length c, .int .i64 m.com, .int .i64 m.num, .int .i64 m.clk, .bool m.yes] 31)).drew w.heap.size 31 (mcs { m with kind := 3 } A c) from K1.out) hw' HK.out) rfl) rfl)
  refine Hs.take (v := .agg #[.int .i64 m.fr, .int .i64 m.last, .slice A m.es.length c, .int .i64 m.com]) 12 50 rfl ?_ (fun w' hw' => by go_simp; first | done | rfl | omega | exact wrap_in (by omega) (by omega) | exact Int.tmod_eq_emod_of_nonneg (by omega) | exact Int.tdiv_eq_ediv_of_nonneg (by omega) | (simp; omega))
  refine Hs.call (f := 94) (args := #[.pointer (some ⟨a.vg, 0, none⟩), .agg #[.int .i64 m.fr, .int .i64 m.last, .slice A m.es.length c, .int .i64 m.com]]) 13 51 rfl ?_ (run_callf Tryz.func94 (by kernel_rfl) (by kernel_rfl) (by simp only [List.map_toArray, List.map_cons, List.map_nil]; rfl))
  refine (vadd_c (w.alloc (.cells #[.int .i64 3, .int .i64 m.fr, .int .i64 m.dst, .int .i64 m.boot, .int .i64 m.view, .int .i64 m.last, .int .i64 m.mem, .int .i64 m.pos, .slice A m.es.length c, .int .i64 m.com, .int .i64 m.num, .int .i64 m.clk, .bool m.yes] 31)).drew a.vg a.FV v p.n V V1.out HR.out.n.2 ⟨m.fr, m.last, m.es, m.com⟩ A c R1.out).mono ?_
  rintro e w8 ⟨rfl, ⟨F8, V8, hF8⟩, T8⟩
  have S7 : St okN w (w.alloc (.cells #[.int .i64 3, .int .i64 m.fr, .int .i64 m.dst, .int .i64 m.boot, .int .i64 m.view, .int .i64 m.last, .int .i64 m.mem, .int .i64 m.pos, .slice A m.es.length c, .int .i64 m.com, .int .i64 m.num, .int .i64 m.clk, .bool m.yes] 31)).drew F (parts x d { p with vo := some (v, V) } a) := by rw [← HV.out]; exact S1.out.drew
  have S8 := Lib.hid ((S7.set 3 rfl (pV_ok p.n { a with FV := F8 } (some (v, PVote.add v p.n V ⟨m.fr, m.last, m.es, m.com⟩))) (T8.wide (by intro k hk; rw [List.mem_singleton.1 hk]; exact V1.out.self)) V8 hF8).set 0 rfl (pX_ok x d { p with vo := some (v, PVote.add v p.n V ⟨m.fr, m.last, m.es, m.com⟩) } { a with FV := F8 }) (Touch.refl _ _) (Blk.touch (show Blk (w.alloc (.cells #[.int .i64 3, .int .i64 m.fr, .int .i64 m.dst, .int .i64 m.boot, .int .i64 m.view, .int .i64 m.last, .int .i64 m.mem, .int .i64 m.pos, .slice A m.es.length c, .int .i64 m.com, .int .i64 m.num, .int .i64 m.clk, .bool m.yes] 31)).drew x 79 (ncs d { p with vo := some (v, V) } a) from B1v.out) T8 HX.out) (fun k hk => .inl hk))
  clear V8 hF8 S7
  refine Hs.back T8 ?_
  refine Hs.done ?_
-- END
  have HN : Nr { p with vo := some (v, PVote.add v p.n V ⟨m.fr, m.last, m.es, m.com⟩) } := ⟨HR.out.n, HR.out.id, HR.out.boot, HR.out.pro, HR.out.clock, HR.out.heard, HR.out.last, HR.out.mem, HR.out.com,
    fun v' S e => by cases e; exact ⟨(HR.out.vo v V HV.out).1, (HR.out.vo v V HV.out).2.1, PVote.pl_add (HR.out.vo v V HV.out).2.2 _⟩, HR.out.den, HR.out.pf, HR.out.seq⟩
  have HN' := Lib.hid HN
  clear HN
  go_wp2_with fail
  go_ret
  exact ⟨[], _, none, 0, ⟨rfl, rfl⟩, rfl, Ow.nil _ _ _ _, (show St okN w w8 F (parts x d { p with vo := some (v, PVote.add v p.n V ⟨m.fr, m.last, m.es, m.com⟩) } { a with FV := F8 }) from S8.out).shut HN'.out⟩
end
end Go.Proofs.YtacipjdaiglnjaaGreatDoor

/- What a process does of an MPropose, where its log is empty. -/
namespace Go.Proofs.YtacipjdaiglnjaaGreatDoor
open Go.RowKit PNode

section
variable {w : World} {x d : Nat} {F : List Nat} {p : Np} (h : Nd w x d F p) (m : Msg) (A : Option Addr) (c : Nat)
include h

end
end Go.Proofs.YtacipjdaiglnjaaGreatDoor

/- A process that is asked what to do (act, gather): it waits, asks those that have not voted, proposes; it does not know. Its log is empty. -/
namespace Go.Proofs.YtacipjdaiglnjaaGreatDoor
open Go.RowKit PNode

/-- It does nothing; asks those that have not voted; proposes; asks for a word. -/
def cNone (p : Np) (Q : List Mp) (p' : Np) : Prop := Q = [] ∧ p' = p
def cCanv (p : Np) (n : Nat) (v : Int) (V : List (Option Vt)) (Q : List Mp) (p' : Np) : Prop := Q = propsP (PVote.tm V) p.id p.boot v n ∧ p' = p
def cProp (p : Np) (n : Nat) (Q : List Mp) (p' : Np) : Prop := ∃ v, IsNext p.id p.n (max p.pro p.den + 1) v ∧ Q = propsP (PVote.tm (own p v)) p.id p.boot v n ∧ p' = prpP p v
def cAsk (p : Np) (n : Nat) (Q : List Mp) (p' : Np) : Prop := Q = asksP p.id p.boot n ∧ p' = p

theorem past_cell {w w1 : World} {g k : Nat} {t : TypeId} {xs : List Value} {v : Value} (h : Blk w g t xs) (b : Below w.heap.size w w1) (hc : w.cell? ⟨g, k, none⟩ = some v) : w1.cell? ⟨g, k, none⟩ = some v := by
  have h1 := h.past b
  rw [cell_of_row _ _ k xs.toArray t (0, 0) h] at hc
  rw [cell_of_row _ _ k xs.toArray t (0, 0) h1]
  exact hc
section
variable {w : World} {x d : Nat} {F : List Nat} {p : Np}
theorem prop_post {w : World} {x d : Nat} {F : List Nat} {p : Np} (h : Nd w x d F p) (n : Nat) (hn : p.n = n) (h1 : p.pro ≤ 1000000) (h2 : p.den ≤ 1000000) (hL : p.L = []) (hc : p.com = 0) :
    Calls Tryz.prog 68 #[.pointer (some ⟨x, 0, none⟩)] w (TickPost w x d F (cProp p n)) :=
  (propose_c h n hn h1 h2 hL hc).mono fun _ _ ⟨v, A, c, e1, e2, e3, e4⟩ => ⟨_, _, A, c, ⟨v, e2, rfl, rfl⟩, e1, e3.row, e4⟩
theorem TickPost.behind {w0 : World} {C : List Mp → Np → Prop} {e : Ending} {w' : World} (h : TickPost w x d F C e w') (hb : Below w0.heap.size w0 w) : TickPost w0 x d F C e w' := by
  obtain ⟨Q, p', A, c, h1, h2, h3, h4⟩ := h
  exact ⟨Q, p', A, c, h1, h2, h3.down hb.size, h4.behind hb⟩

set_option maxHeartbeats 4000000 in
theorem gather_canv (h : Nd w x d F p) (n : Nat) (hn : p.n = n) {v : Int} {V : List (Option Vt)} (hv : p.vo = some (v, V)) (hm : PTeam.most (PVote.tm V) p.n = false) (hd : p.den = 0) (hl : late p = false) :
    Calls Tryz.prog 64 #[.pointer (some ⟨x, 0, none⟩)] w (TickPost w x d F (cCanv p n v V)) := by
  obtain ⟨a, s0, hr⟩ := h.open
  have HH := Lib.hid h
  have HR := Lib.hid hr
  have B0 : Blk w x 79 (ncs d p a) := s0.sep.get (i := 0) rfl
  have V0 : Vs w a.vg a.FV v p.n V := by have : (pV p.n a p.vo).P w := s0.sep.get (i := 3) rfl; rw [hv] at this; exact this
  have c11 : w.cell? ⟨x, 11, none⟩ = some (.pointer (some ⟨a.vg, 0, none⟩)) := by have : w.cell? ⟨x, 11, none⟩ = some (ptO p.vo a.vg) := B0.cell rfl; rw [hv] at this; exact this
  have c12 : w.cell? ⟨x, 12, none⟩ = some (.int .i64 0) := by have : w.cell? ⟨x, 12, none⟩ = some (.int .i64 p.den) := B0.cell rfl; rw [hd] at this; exact this
  have hn7 : n ≤ 7 := by have := hr.n; omega
  have BB := Lib.hid B0
  have VV := Lib.hid V0
  have HN := Lib.hid hn
  have HV := Lib.hid hv
  have HL := Lib.hid hl
  have HM := Lib.hid hm
  clear h hr s0 B0 V0 hn hv hl hm hd
  go_enter Tryz.func64, Tryz.ntmps64
  go_wp2_with fail
  refine (venough_c w a.vg a.FV v p.n V VV.out).mono ?_
  rw [HM.out]
  rintro e w1 ⟨rfl, b1⟩
  have B1 := Lib.hid (BB.out.past b1)
  have c12' := past_cell BB.out b1 c12
  have V1 := Lib.hid (VV.out.past b1)
  have N1 := Lib.hid (HH.out.past b1)
  have b1' := Lib.hid b1
  clear c11 c12 b1
  go_wp2_with fail
  refine (isLate_c B1.out HR.out).mono ?_
  rw [HL.out]
  rintro e w2 ⟨rfl, b2⟩
  have B2 := Lib.hid (B1.out.past b2)
  have V2 := Lib.hid (V1.out.past b2)
  have N2 := Lib.hid (N1.out.past b2)
  have b2' := Lib.hid (b1'.out.trans (b2.mono b1'.out.size))
  clear b2 c12'
  go_wp2_with fail
  refine (canvass_c B2.out n HN.out hn7 HV.out V2.out).mono ?_
  rintro e w3 ⟨A, c, rfl, M, b3⟩
  have M' := Lib.hid M
  have b3' := Lib.hid (b2'.out.trans (b3.mono b2'.out.size))
  clear M b3
  go_wp2_with fail
  go_ret
  exact ⟨_, p, A, c, ⟨rfl, rfl⟩, rfl, M'.out.row.down b2'.out.size, .same HH.out b3'.out⟩

set_option maxHeartbeats 4000000 in
theorem gather_late (h : Nd w x d F p) (n : Nat) (hn : p.n = n) {v : Int} {V : List (Option Vt)} (hv : p.vo = some (v, V)) (hm : PTeam.most (PVote.tm V) p.n = false) (hd : p.den = 0) (hl : late p = true) (h1 : p.pro ≤ 1000000) (hL : p.L = []) (hc : p.com = 0) :
    Calls Tryz.prog 64 #[.pointer (some ⟨x, 0, none⟩)] w (TickPost w x d F (cProp p n)) := by
  obtain ⟨a, s0, hr⟩ := h.open
  have HH := Lib.hid h
  have HR := Lib.hid hr
  have B0 : Blk w x 79 (ncs d p a) := s0.sep.get (i := 0) rfl
  have V0 : Vs w a.vg a.FV v p.n V := by have : (pV p.n a p.vo).P w := s0.sep.get (i := 3) rfl; rw [hv] at this; exact this
  have c11 : w.cell? ⟨x, 11, none⟩ = some (.pointer (some ⟨a.vg, 0, none⟩)) := by have : w.cell? ⟨x, 11, none⟩ = some (ptO p.vo a.vg) := B0.cell rfl; rw [hv] at this; exact this
  have c12 : w.cell? ⟨x, 12, none⟩ = some (.int .i64 0) := by have : w.cell? ⟨x, 12, none⟩ = some (.int .i64 p.den) := B0.cell rfl; rw [hd] at this; exact this
  have h2 : p.den ≤ 1000000 := by omega
  have H2 := Lib.hid h2
  have BB := Lib.hid B0
  have VV := Lib.hid V0
  have HN := Lib.hid hn
  have HT := Lib.hid hl
  have HM := Lib.hid hm
  have HL := Lib.hid hL
  have HC := Lib.hid hc
  clear h hr s0 B0 V0 hn hv hm hL hc hl hd h2
  go_enter Tryz.func64, Tryz.ntmps64
  go_wp2_with fail
  refine (venough_c w a.vg a.FV v p.n V VV.out).mono ?_
  rw [HM.out]
  rintro e w1 ⟨rfl, b1⟩
  have B1 := Lib.hid (BB.out.past b1)
  have c12' := past_cell BB.out b1 c12
  have V1 := Lib.hid (VV.out.past b1)
  have N1 := Lib.hid (HH.out.past b1)
  have b1' := Lib.hid b1
  clear c11 c12 b1
  go_wp2_with fail
  refine (isLate_c B1.out HR.out).mono ?_
  rw [HT.out]
  rintro e w2 ⟨rfl, b2⟩
  have N2 := Lib.hid (N1.out.past b2)
  have b2' := Lib.hid (b1'.out.trans (b2.mono b1'.out.size))
  clear b2 c12'
  go_wp2_with fail
  refine (prop_post N2.out n HN.out h1 H2.out HL.out HC.out).mono ?_
  rintro e w3 h3
  have P2 := h3.behind b2'.out
  clear h3
  obtain ⟨Q, p', A, c, q1, rfl, q3, q4⟩ := P2
  have Q1 := Lib.hid q1
  have Q3 := Lib.hid q3
  have Q4 := Lib.hid q4
  clear q1 q3 q4
  go_wp2_with fail
  go_ret
  exact ⟨Q, p', A, c, Q1.out, rfl, Q3.out, Q4.out⟩

/-! What is done behind a tick. -/
set_option maxHeartbeats 4000000 in
theorem act_ask (h : Nd w x d F p) (n : Nat) (hn : p.n = n) (hk : p.knows = false) {j : Int} (hj : p.jo = some j) :
    Calls Tryz.prog 30 #[.pointer (some ⟨x, 0, none⟩)] w (TickPost w x d F (cAsk p n)) := by
  obtain ⟨a, s0, hr⟩ := h.open
  have HH := Lib.hid h
  have B0 : Blk w x 79 (ncs d p a) := s0.sep.get (i := 0) rfl
  have J0 : Jn w a.jg a.FJ p.id n p.boot j none := by have : (pJ p.id p.n p.boot a p.jo).P w := s0.sep.get (i := 5) rfl; rw [hj, hn] at this; exact this
  have c6 : w.cell? ⟨x, 6, none⟩ = some (.bool false) := by rw [← hk]; exact B0.cell rfl
  have c14 : w.cell? ⟨x, 14, none⟩ = some (.pointer (some ⟨a.jg, 0, none⟩)) := by have : w.cell? ⟨x, 14, none⟩ = some (ptO p.jo a.jg) := B0.cell rfl; rw [hj] at this; exact this
  have hn7 : n ≤ 7 := by have := hr.n; omega
  have JJ := Lib.hid J0
  clear h hr s0 B0 J0 hk hj hn
  go_enter Tryz.func30, Tryz.ntmps30
  go_wp2_with fail
  refine (jask_c w a.jg a.FJ p.id p.boot j n hn7 none JJ.out).mono ?_
  rintro e w1 ⟨A, c, rfl, M, b1⟩
  have M' := Lib.hid M
  have b1' := Lib.hid b1
  clear M b1
  go_wp2_with fail
  go_ret
  exact ⟨_, p, A, c, ⟨rfl, rfl⟩, rfl, M'.out.row, .same HH.out b1'.out⟩

set_option maxHeartbeats 4000000 in
theorem act_votes (h : Nd w x d F p) (hk : p.knows = true) (hv : hasV p = true) (C : List Mp → Np → Prop) (hg : ∀ w1, Nd w1 x d F p → Calls Tryz.prog 64 #[.pointer (some ⟨x, 0, none⟩)] w1 (TickPost w1 x d F C)) :
    Calls Tryz.prog 30 #[.pointer (some ⟨x, 0, none⟩)] w (TickPost w x d F C) := by
  obtain ⟨a, s0, hr⟩ := h.open
  have HH := Lib.hid h
  have B0 : Blk w x 79 (ncs d p a) := s0.sep.get (i := 0) rfl
  have c6 : w.cell? ⟨x, 6, none⟩ = some (.bool true) := by rw [← hk]; exact B0.cell rfl
  have S0 := Lib.hid s0
  have BB := Lib.hid B0
  have HV := Lib.hid hv
  have HG := Lib.hid hg
  clear h hr s0 B0 hk hv hg
  go_enter Tryz.func30, Tryz.ntmps30
  go_wp2_with fail
  refine (hasVotes_c BB.out (S0.out.sep.get (i := 1) rfl) (S0.out.sep.get (i := 3) rfl)).mono ?_
  rw [HV.out]
  rintro e w1 ⟨rfl, b1⟩
  have N1 := Lib.hid (HH.out.past b1)
  have b1' := Lib.hid b1
  clear b1 c6
  go_wp2_with fail
  refine (HG.out w1 N1.out).mono ?_
  rintro e w2 h2
  have P2 := h2.behind b1'.out
  clear h2
  obtain ⟨Q, p', A, c, q1, rfl, q3, q4⟩ := P2
  have Q1 := Lib.hid q1
  have Q3 := Lib.hid q3
  have Q4 := Lib.hid q4
  clear q1 q3 q4
  go_wp2_with fail
  go_ret
  exact ⟨Q, p', A, c, Q1.out, rfl, Q3.out, Q4.out⟩

set_option maxHeartbeats 4000000 in
theorem act_none (h : Nd w x d F p) (hk : p.knows = true) (hv : hasV p = false) (ht : p.te = none) (hi : inV p = false) (hl : late p = false) :
    Calls Tryz.prog 30 #[.pointer (some ⟨x, 0, none⟩)] w (TickPost w x d F (cNone p)) := by
  obtain ⟨a, s0, hr⟩ := h.open
  have HH := Lib.hid h
  have B0 : Blk w x 79 (ncs d p a) := s0.sep.get (i := 0) rfl
  have c6 : w.cell? ⟨x, 6, none⟩ = some (.bool true) := by rw [← hk]; exact B0.cell rfl
  have S0 := Lib.hid s0
  have HR := Lib.hid hr
  have BB := Lib.hid B0
  have HV := Lib.hid hv
  have HI := Lib.hid hi
  have HD := Lib.hid (show dec p = false by unfold dec; rw [ht]; rfl)
  have HL := Lib.hid hl
  clear h hr s0 B0 hk hv ht hi hl
  go_enter Tryz.func30, Tryz.ntmps30
  go_wp2_with fail
  refine (hasVotes_c BB.out (S0.out.sep.get (i := 1) rfl) (S0.out.sep.get (i := 3) rfl)).mono ?_
  rw [HV.out]
  rintro e w1 ⟨rfl, b1⟩
  have S1 := Lib.hid (S0.out.past b1)
  have B1 := Lib.hid (BB.out.past b1)
  clear b1 c6
  go_wp2_with fail
  refine (decides_c B1.out (S1.out.sep.get (i := 1) rfl) HR.out.mem).mono ?_
  rw [HD.out]
  rintro e w2 ⟨rfl, b2⟩
  have S2 := Lib.hid (S1.out.past b2)
  have B2 := Lib.hid (B1.out.past b2)
  clear b2
  go_wp2_with fail
  refine (isLate_c B2.out HR.out).mono ?_
  rw [HL.out]
  rintro e w3 ⟨rfl, b3⟩
  have S3 := Lib.hid (S2.out.past b3)
  have B3 := Lib.hid (B2.out.past b3)
  clear b3
  go_wp2_with fail
  refine (ndIn_c B3.out (S3.out.sep.get (i := 1) rfl) HR.out.mem).mono ?_
  rw [HI.out]
  rintro e w4 ⟨rfl, b4⟩
  have S4 := Lib.hid (S3.out.past b4)
  clear b4
  go_wp2_with fail
  go_ret
  exact ⟨[], p, none, 0, ⟨rfl, rfl⟩, rfl, Ow.nil _ _ _ _, S4.out.shut HR.out⟩

set_option maxHeartbeats 4000000 in
theorem act_late (h : Nd w x d F p) (n : Nat) (hn : p.n = n) (hk : p.knows = true) (hv : hasV p = false) (ht : p.te = none) (hl : late p = true) (h1 : p.pro ≤ 1000000) (h2 : p.den ≤ 1000000) (hL : p.L = []) (hc : p.com = 0) :
    Calls Tryz.prog 30 #[.pointer (some ⟨x, 0, none⟩)] w (TickPost w x d F (cProp p n)) := by
  obtain ⟨a, s0, hr⟩ := h.open
  have HH := Lib.hid h
  have B0 : Blk w x 79 (ncs d p a) := s0.sep.get (i := 0) rfl
  have c6 : w.cell? ⟨x, 6, none⟩ = some (.bool true) := by rw [← hk]; exact B0.cell rfl
  have S0 := Lib.hid s0
  have HR := Lib.hid hr
  have BB := Lib.hid B0
  have HV := Lib.hid hv
  have HD := Lib.hid (show dec p = false by unfold dec; rw [ht]; rfl)
  have HT := Lib.hid hl
  have HN := Lib.hid hn
  have HL := Lib.hid hL
  have HC := Lib.hid hc
  clear h hr s0 B0 hk hv ht hl hn hL hc
  go_enter Tryz.func30, Tryz.ntmps30
  go_wp2_with fail
  refine (hasVotes_c BB.out (S0.out.sep.get (i := 1) rfl) (S0.out.sep.get (i := 3) rfl)).mono ?_
  rw [HV.out]
  rintro e w1 ⟨rfl, b1⟩
  have S1 := Lib.hid (S0.out.past b1)
  have B1 := Lib.hid (BB.out.past b1)
  have b1' := Lib.hid b1
  clear b1 c6
  go_wp2_with fail
  refine (decides_c B1.out (S1.out.sep.get (i := 1) rfl) HR.out.mem).mono ?_
  rw [HD.out]
  rintro e w2 ⟨rfl, b2⟩
  have B2 := Lib.hid (B1.out.past b2)
  have b2' := Lib.hid (b1'.out.trans (b2.mono b1'.out.size))
  clear b2
  go_wp2_with fail
  refine (isLate_c B2.out HR.out).mono ?_
  rw [HT.out]
  rintro e w3 ⟨rfl, b3⟩
  have b3' := Lib.hid (b2'.out.trans (b3.mono b2'.out.size))
  clear b3
  go_wp2_with fail
  refine (prop_post (HH.out.past b3'.out) n HN.out h1 h2 HL.out HC.out).mono ?_
  rintro e w4 h4
  have P2 := h4.behind b3'.out
  clear h4
  obtain ⟨Q, p', A, c, q1, rfl, q3, q4⟩ := P2
  have Q1 := Lib.hid q1
  have Q3 := Lib.hid q3
  have Q4 := Lib.hid q4
  clear q1 q3 q4
  go_wp2_with fail
  go_ret
  exact ⟨Q, p', A, c, Q1.out, rfl, Q3.out, Q4.out⟩
end
end Go.Proofs.YtacipjdaiglnjaaGreatDoor

/- Six numbers by value; what is owned from further up; an array by value asked. -/
namespace Go.Proofs.YtacipjdaiglnjaaGreatDoor
open Go.RowKit


/-- What is a later world's own is an elder one's own. -/
theorem own_from {w : World} {base b0 : Nat} {e : TypeId} {k n : Nat} {v : Value} {xs : List Value} (h : w.ownsRow base e k v n xs) (hb : b0 ≤ base) : w.ownsRow b0 e k v n xs := by
  refine ⟨h.1, ?_⟩
  rcases h.2 with h2 | ⟨g, cap, cur, h1, h2, h3⟩
  · exact .inl h2
  · exact .inr ⟨g, cap, cur, h1, Nat.le_trans hb h2, h3⟩
section
variable {P : Program}
end
theorem encN_snoc {l : List Int} {i : Nat} {x : Int} (h : l[i]? = some x) : PEnt.encN (l.take (i + 1)) = PEnt.encN (l.take i) ++ PNum.sev (PNum.zig x) := by
  obtain ⟨hi, he⟩ := List.getElem?_eq_some_iff.1 h
  rw [List.take_succ_eq_append_getElem hi, PEnt.encN_append, he]
  simp [PEnt.encN]
end Go.Proofs.YtacipjdaiglnjaaGreatDoor

/- Small facts of encoded lists. -/
namespace Go.Proofs.YtacipjdaiglnjaaGreatDoor
open Go.RowKit


theorem all_snoc {l : List Ent} {i : Nat} {e : Ent} (h : l[i]? = some e) : (l.take (i + 1)).all PEnt.may = ((l.take i).all PEnt.may && PEnt.may e) := by
  obtain ⟨hi, he⟩ := List.getElem?_eq_some_iff.1 h
  rw [List.take_succ_eq_append_getElem hi, he]; simp
theorem enc_snoc {l : List Ent} {i : Nat} {e : Ent} (h : l[i]? = some e) : PEnt.enc (l.take (i + 1)) = PEnt.enc (l.take i) ++ PEnt.encE e := by
  obtain ⟨hi, he⟩ := List.getElem?_eq_some_iff.1 h
  rw [List.take_succ_eq_append_getElem hi, PEnt.enc_append, he]; simp [PEnt.enc]
theorem encode_bad {l : List Ent} {e : Ent} (hm : e ∈ l) (h : PEnt.may e = false) : PEnt.encode l = [] := by
  unfold PEnt.encode
  rw [if_neg]
  intro ha
  have := List.all_eq_true.1 ha e hm
  rw [h] at this; cases this
theorem encode_good {l : List Ent} (h : l.all PEnt.may = true) : PEnt.encode l = PEnt.enc l := if_pos h
end Go.Proofs.YtacipjdaiglnjaaGreatDoor

/- Contracts of isIn, bit, numbersOf, msgOf, mayEntries. -/
namespace Go.Proofs.YtacipjdaiglnjaaGreatDoor
open Go.RowKit

theorem wIsIn_c (w : World) (n lo hi : Int) :
    Calls Tryz.prog 188 #[.int .i64 n, .int .i64 lo, .int .i64 hi] w fun e w' => e = .returned (.bool (decide (lo ≤ n ∧ n ≤ hi))) ∧ w = w' := by
  obtain ⟨r, HR⟩ : ∃ r, decide (lo ≤ n ∧ n ≤ hi) = r := ⟨_, rfl⟩
  rw [HR]
  by_cases h1 : lo ≤ n
  · by_cases h2 : n ≤ hi
    · have H := Lib.hid (HR.symm.trans (decide_eq_true (And.intro h1 h2)))
      clear HR
      go_enter Tryz.func188, Tryz.ntmps188
      go_wp2
      go_ret
      exact ⟨by rw [H.out]; rfl, rfl⟩
    · have H := Lib.hid (HR.symm.trans (decide_eq_false (fun h : lo ≤ n ∧ n ≤ hi => h2 h.2)))
      clear HR
      go_enter Tryz.func188, Tryz.ntmps188
      go_wp2
      go_ret
      exact ⟨by rw [H.out]; rfl, rfl⟩
  · have H := Lib.hid (HR.symm.trans (decide_eq_false (fun h : lo ≤ n ∧ n ≤ hi => h1 h.1)))
    clear HR
    go_enter Tryz.func188, Tryz.ntmps188
    go_wp2
    go_ret
    exact ⟨by rw [H.out]; rfl, rfl⟩

theorem bit_c (w : World) (b : Bool) : Calls Tryz.prog 190 #[.bool b] w fun e w' => e = .returned (.int .i64 (PMsg.bit b)) ∧ w = w' := by
  cases b
  all_goals
    go_enter Tryz.func190, Tryz.ntmps190
    go_wp2
    go_ret
    exact ⟨rfl, rfl⟩

set_option maxHeartbeats 4000000 in
set_option maxRecDepth 100000 in
theorem wNums_c (w : World) (m : Msg) (A : Option Addr) (c : Nat) : Calls Tryz.prog 142 #[mv m A c] w fun x w' => x = .returned (nv13 (PMsg.ns m)) ∧ Below w.heap.size w w' := by
  obtain ⟨kind, fr, dst, boot, view, last, mem, pos, es, com, num, clk, yes⟩ := m
  have W1 := Lib.hid ((Below.refl w.heap.size w).alloc (Nat.le_refl _) (.cells #[.int .i64 kind, .int .i64 fr, .int .i64 dst, .int .i64 boot, .int .i64 view, .int .i64 last, .int .i64 mem, .int .i64 pos, .slice A es.length c, .int .i64 com, .int .i64 num, .int .i64 clk, .bool yes] 31))
  have K0 := Blk.new w #[.int .i64 kind, .int .i64 fr, .int .i64 dst, .int .i64 boot, .int .i64 view, .int .i64 last, .int .i64 mem, .int .i64 pos, .slice A es.length c, .int .i64 com, .int .i64 num, .int .i64 clk, .bool yes] 31
  show Calls _ _ #[.agg #[.int .i64 kind, .int .i64 fr, .int .i64 dst, .int .i64 boot, .int .i64 view, .int .i64 last, .int .i64 mem, .int .i64 pos, .slice A es.length c, .int .i64 com, .int .i64 num, .int .i64 clk, .bool yes]] _ _
  go_enter Tryz.func142, Tryz.ntmps142
  go_wp2_with fail
  have hs : (w.alloc (.cells #[.int .i64 kind, .int .i64 fr, .int .i64 dst, .int .i64 boot, .int .i64 view, .int .i64 last, .int .i64 mem, .int .i64 pos, .slice A es.length c, .int .i64 com, .int .i64 num, .int .i64 clk, .bool yes] 31)).heap.size = w.heap.size + 1 := by simp
  generalize w.alloc (.cells #[.int .i64 kind, .int .i64 fr, .int .i64 dst, .int .i64 boot, .int .i64 view, .int .i64 last, .int .i64 mem, .int .i64 pos, .slice A es.length c, .int .i64 com, .int .i64 num, .int .i64 clk, .bool yes] 31) = w1 at *
  have W2 := Lib.hid (W1.out.trans (((Below.refl w1.heap.size w1).alloc (Nat.le_refl _) (.cells #[.int .i64 0, .int .i64 0, .int .i64 0, .int .i64 0, .int .i64 0, .int .i64 0, .int .i64 0, .int .i64 0, .int .i64 0, .int .i64 0, .int .i64 0, .int .i64 0, .int .i64 0] 202)).mono W1.out.size))
  have K1 := K0.alloc (.cells #[.int .i64 0, .int .i64 0, .int .i64 0, .int .i64 0, .int .i64 0, .int .i64 0, .int .i64 0, .int .i64 0, .int .i64 0, .int .i64 0, .int .i64 0, .int .i64 0, .int .i64 0] 202)
  have K2 := Blk.new w1 #[.int .i64 0, .int .i64 0, .int .i64 0, .int .i64 0, .int .i64 0, .int .i64 0, .int .i64 0, .int .i64 0, .int .i64 0, .int .i64 0, .int .i64 0, .int .i64 0, .int .i64 0] 202
  rw [hs] at K2
  have S2 : (w1.alloc (.cells #[.int .i64 0, .int .i64 0, .int .i64 0, .int .i64 0, .int .i64 0, .int .i64 0, .int .i64 0, .int .i64 0, .int .i64 0, .int .i64 0, .int .i64 0, .int .i64 0, .int .i64 0] 202)).heap.size = w.heap.size + 2 := by simp [hs]
  generalize w1.alloc (.cells #[.int .i64 0, .int .i64 0, .int .i64 0, .int .i64 0, .int .i64 0, .int .i64 0, .int .i64 0, .int .i64 0, .int .i64 0, .int .i64 0, .int .i64 0, .int .i64 0, .int .i64 0] 202) = w2 at *
  clear K0
  have KM := Lib.hid K1
  have KN := Lib.hid K2
  clear K1 K2 hs
-- REGION curfew/wire.numbersOf 1 wnums1 2
  refine Hb.beginB (B := w.heap.size + 1) ?_
  refine Hb.take 0 3 rfl ?_ (fun w' hw' => by go_simp; first | done | rfl)
  refine Hb.take (v := .int .i64 kind) 1 4 rfl ?_ (fun w' hw' => by have hc := (KM.out.drew.below hw' (Nat.lt_succ_self _)).cell (i := 0) rfl; go_simp)
  refine Hb.take 2 5 rfl ?_ (fun w' hw' => by go_simp; first | done | rfl)
  refine Hb.take (v := .int .i64 fr) 3 6 rfl ?_ (fun w' hw' => by have hc := (KM.out.drew.below hw' (Nat.lt_succ_self _)).cell (i := 1) rfl; go_simp)
  refine Hb.take 4 7 rfl ?_ (fun w' hw' => by go_simp; first | done | rfl)
  refine Hb.take (v := .int .i64 dst) 5 8 rfl ?_ (fun w' hw' => by have hc := (KM.out.drew.below hw' (Nat.lt_succ_self _)).cell (i := 2) rfl; go_simp)
  refine Hb.take 6 9 rfl ?_ (fun w' hw' => by go_simp; first | done | rfl)
  refine Hb.take (v := .int .i64 boot) 7 10 rfl ?_ (fun w' hw' => by have hc := (KM.out.drew.below hw' (Nat.lt_succ_self _)).cell (i := 3) rfl; go_simp)
  refine Hb.take 8 11 rfl ?_ (fun w' hw' => by go_simp; first | done | rfl)
  refine Hb.take (v := .int .i64 view) 9 12 rfl ?_ (fun w' hw' => by have hc := (KM.out.drew.below hw' (Nat.lt_succ_self _)).cell (i := 4) rfl; go_simp)
  refine Hb.take 10 13 rfl ?_ (fun w' hw' => by go_simp; first | done | rfl)
  refine Hb.take (v := .int .i64 last) 11 14 rfl ?_ (fun w' hw' => by have hc := (KM.out.drew.below hw' (Nat.lt_succ_self _)).cell (i := 5) rfl; go_simp)
  refine Hb.take 12 15 rfl ?_ (fun w' hw' => by go_simp; first | done | rfl)
  refine Hb.take (v := .int .i64 mem) 13 16 rfl ?_ (fun w' hw' => by have hc := (KM.out.drew.below hw' (Nat.lt_succ_self _)).cell (i := 6) rfl; go_simp)
  refine Hb.take 14 17 rfl ?_ (fun w' hw' => by go_simp; first | done | rfl)
  refine Hb.take (v := .int .i64 pos) 15 18 rfl ?_ (fun w' hw' => by have hc := (KM.out.drew.below hw' (Nat.lt_succ_self _)).cell (i := 7) rfl; go_simp)
  refine Hb.take 16 19 rfl ?_ (fun w' hw' => by go_simp; first | done | rfl)
  refine Hb.take (v := .int .i64 com) 17 20 rfl ?_ (fun w' hw' => by have hc := (KM.out.drew.below hw' (Nat.lt_succ_self _)).cell (i := 9) rfl; go_simp)
  refine Hb.take 18 21 rfl ?_ (fun w' hw' => by go_simp; first | done | rfl)
  refine Hb.take (v := .int .i64 num) 19 22 rfl ?_ (fun w' hw' => by have hc := (KM.out.drew.below hw' (Nat.lt_succ_self _)).cell (i := 10) rfl; go_simp)
  refine Hb.take 20 23 rfl ?_ (fun w' hw' => by go_simp; first | done | rfl)
  refine Hb.take (v := .int .i64 clk) 21 24 rfl ?_ (fun w' hw' => by have hc := (KM.out.drew.below hw' (Nat.lt_succ_self _)).cell (i := 11) rfl; go_simp)
  refine Hb.take 22 25 rfl ?_ (fun w' hw' => by go_simp; first | done | rfl)
  refine Hb.take (v := .bool yes) 23 26 rfl ?_ (fun w' hw' => by have hc := (KM.out.drew.below hw' (Nat.lt_succ_self _)).cell (i := 12) rfl; go_simp)
  refine Hb.take 25 28 rfl ?_ (fun w' hw' => by go_simp; first | done | rfl)
  refine Hb.take (v := .slice A es.length c) 26 29 rfl ?_ (fun w' hw' => by have hc := (KM.out.drew.below hw' (Nat.lt_succ_self _)).cell (i := 8) rfl; go_simp)
  refine Hb.take (v := .int .i64 (es.length : Int)) 27 30 rfl ?_ (fun w' hw' => by go_simp; first | done | rfl | omega | exact wrap_in (by omega) (by omega) | exact Int.tmod_eq_emod_of_nonneg (by omega) | exact Int.tdiv_eq_ediv_of_nonneg (by omega) | (simp; omega))
  refine Hb.call (f := 190) (args := #[.bool yes]) 24 27 rfl ?_ (run_callf Tryz.func190 (by kernel_rfl) (by kernel_rfl) (by simp only [List.map_toArray, List.map_cons, List.map_nil]; rfl))
  refine (bit_c _ yes).mono ?_
  rintro x w3 ⟨rfl, rfl⟩
  refine Hb.back (Below.refl _ _) (Nat.le_refl _) ?_
  refine Hb.take (v := .agg #[.int .i64 kind, .int .i64 fr, .int .i64 dst, .int .i64 boot, .int .i64 view, .int .i64 last, .int .i64 mem, .int .i64 pos, .int .i64 com, .int .i64 num, .int .i64 clk, .int .i64 (PMsg.bit yes), .int .i64 (es.length : Int)]) 28 31 rfl ?_ (fun w' hw' => by go_simp; first | done | rfl | omega | exact wrap_in (by omega) (by omega) | exact Int.tmod_eq_emod_of_nonneg (by omega) | exact Int.tdiv_eq_ediv_of_nonneg (by omega) | (simp; omega))
  refine Hb.only 29 none rfl ?_
  refine wpList_store_row rfl 202 _ _ rfl (w.heap.size + 1) _ rfl rfl _ _ KN.out (by kernel_rfl) (by rfl) (by kernel_rfl) ?_
  have KN2 := Lib.hid (KN.out.drew.row #[.int .i64 kind, .int .i64 fr, .int .i64 dst, .int .i64 boot, .int .i64 view, .int .i64 last, .int .i64 mem, .int .i64 pos, .int .i64 com, .int .i64 num, .int .i64 clk, .int .i64 (PMsg.bit yes), .int .i64 (es.length : Int)])
  have GB := Lib.hid (((Below.refl (w.heap.size + 1) w2.drew).grown (grown_row w2.drew (w.heap.size + 1) #[.int .i64 kind, .int .i64 fr, .int .i64 dst, .int .i64 boot, .int .i64 view, .int .i64 last, .int .i64 mem, .int .i64 pos, .int .i64 com, .int .i64 num, .int .i64 clk, .int .i64 (PMsg.bit yes), .int .i64 (es.length : Int)]) (by show _ ≤ w2.heap.size; omega) (fun k hk => by cases hk; exact Nat.le_refl _)))
  refine Hb.next GB.out (Nat.le_refl _) ?_ rfl
  refine Hb.done ?_
-- END
  go_wp2_with fail
  refine bodyPost_ret (v := nv13 (PMsg.ns ⟨kind, fr, dst, boot, view, last, mem, pos, es, com, num, clk, yes⟩)) (results_cell_row rfl _ _ (w.heap.size + 1) _ _ _ _ rfl KN2.out Tryz.underlying202 rfl (by kernel_rfl)) rfl ⟨rfl, ?_⟩
  exact W2.out.drew.trans (GB.out.mono (Nat.le_succ _))
end Go.Proofs.YtacipjdaiglnjaaGreatDoor

