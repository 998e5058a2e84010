/- The walk of NetAll. -/
import Derived.Test.YtkckibcfanaglaaDoorSeg11
import Derived.WalkSmall
import Derived.Deep.CutRange
import Derived.Deep.CutBlock
import Derived.Deep.LoopGhost
namespace Go.Proofs.YtkckibcfanaglaaDoor
open Go.RowKit

/-- The net beside the statement's list. -/
structure Na (w0 w : World) (g : Nat) (A : Option Addr) (c : Nat) (Q : List Mp) : Prop where
  sn : Sn w0 w g (Q.map Mp.m)
  ms : Ms w w0.heap.size A c Q
theorem Na.past {w0 w w' : World} {g c : Nat} {A : Option Addr} {Q : List Mp} (h : Na w0 w g A c Q) (b : Below w.heap.size w w') : Na w0 w' g A c Q := ⟨h.sn.past b, h.ms.past b⟩
/-- While messages are gathered: the list (with those that may be), the messages, the operation. -/
structure Nb (w0 w : World) (g gO : Nat) (oc : List Value) (L : List Msg) (A : Option Addr) (c : Nat) (Q : List Mp) (Am : Option Addr) (cm : Nat) (Qm : List Mp) : Prop where
  sn : Sn w0 w g L
  ms : Ms w w0.heap.size A c Q
  mm : Ms w w0.heap.size Am cm Qm
  ne : ∀ x, bk A = some x → bk Am ≠ some x
  ob : Blk w gO 28 oc
section
variable {w0 w w' : World} {g gO c cm : Nat} {oc : List Value} {L : List Msg} {A Am : Option Addr} {Q Qm : List Mp}
theorem Nb.past (h : Nb w0 w g gO oc L A c Q Am cm Qm) (b : Below w.heap.size w w') : Nb w0 w' g gO oc L A c Q Am cm Qm := ⟨h.sn.past b, h.ms.past b, h.mm.past b, h.ne, h.ob.past b⟩
theorem Ms.far {base : Nat} (h : Ms w base A c Q) {S : List Nat} (ht : Touch S w w') (h1 : ∀ s ∈ S, bk A ≠ some s) (h2 : ∀ s ∈ S, ∃ t ys, Blk w s t ys ∧ t ≠ 53) : Ms w' base A c Q :=
  ⟨h.row.touch ht h1, fun q hq => (h.ents q hq).other ht h2, h.fit⟩
theorem Nb.putM (h : Nb w0 w g gO oc L A c Q Am cm Qm) {A2 : Option Addr} {c2 : Nat} {q : Mp} (hg : w.grownBy w' (bk Am)) (hO : Ow w' w0.heap.size 31 13 A2 (Qm.length + 1) c2 (mgs Qm ++ mgc q)) (hA : ∀ x, bk A2 = some x → bk Am = some x ∨ w.heap.size ≤ x)
    (he : Ow w w0.heap.size 53 7 q.A q.m.es.length q.c (els q.m.es)) (hf : -9223372036854775808 ≤ q.m.mem ∧ q.m.mem ≤ 9223372036854775807) : Nb w0 w' g gO oc L A c Q A2 c2 (Qm ++ [q]) := by
  have ht := Touch.of_bk hg
  have hty : ∀ s ∈ bl Am, ∃ t ys, Blk w s t ys ∧ t ≠ 53 := fun s hs => by
    obtain ⟨ys, hy⟩ := h.mm.row.blk (mem_bl.1 hs)
    exact ⟨_, _, hy, by decide⟩
  refine ⟨h.sn.row h.mm.row (Nat.le_refl _) (by decide) (by decide) (by decide) hg, h.ms.far ht (fun s hs hk => h.ne s hk (mem_bl.1 hs)) hty, h.mm.app hg hO he hf, fun x hx hk => ?_, h.ob.touch ht (fun hm => ?_)⟩
  · rcases hA x hk with h1 | h1
    · exact h.ne x hx h1
    · have := h.ms.row.hi x hx; omega
  · obtain ⟨ys, hy⟩ := h.mm.row.blk (mem_bl.1 hm)
    exact hy.ne h.ob (by decide) rfl
theorem Nb.putL (h : Nb w0 w g gO oc L A c Q Am cm Qm) {A2 : Option Addr} {c2 : Nat} {q : Mp} (hg : w.grownBy w' (bk A)) (hO : Ow w' w0.heap.size 31 13 A2 (Q.length + 1) c2 (mgs Q ++ mgc q)) (hA : ∀ x, bk A2 = some x → bk A = some x ∨ w.heap.size ≤ x)
    (he : Ow w w0.heap.size 53 7 q.A q.m.es.length q.c (els q.m.es)) (hf : -9223372036854775808 ≤ q.m.mem ∧ q.m.mem ≤ 9223372036854775807) : Nb w0 w' g gO oc L A2 c2 (Q ++ [q]) Am cm Qm := by
  have ht := Touch.of_bk hg
  have hty : ∀ s ∈ bl A, ∃ t ys, Blk w s t ys ∧ t ≠ 53 := fun s hs => by
    obtain ⟨ys, hy⟩ := h.ms.row.blk (mem_bl.1 hs)
    exact ⟨_, _, hy, by decide⟩
  refine ⟨h.sn.row h.ms.row (Nat.le_refl _) (by decide) (by decide) (by decide) hg, h.ms.app hg hO he hf, h.mm.far ht (fun s hs hk => h.ne s (mem_bl.1 hs) hk) hty, fun x hx hk => ?_, h.ob.touch ht (fun hm => ?_)⟩
  · rcases hA x hx with h1 | h1
    · exact h.ne x h1 hk
    · have := h.mm.row.hi x hk; omega
  · obtain ⟨ys, hy⟩ := h.ms.row.blk (mem_bl.1 hm)
    exact hy.ne h.ob (by decide) rfl
/-- A box of the law's own beside them. -/
theorem box_far {x : Nat} {xs : List Value} (K : Blk w x 31 xs) (hg : w.grownBy w' (bk A)) (hx : bk A ≠ some x) : Blk w' x 31 xs := K.touch (Touch.of_bk hg) (fun hm => hx (mem_bl.1 hm))
end

theorem lCutM3 (w : World) (m : Msg) (A : Option Addr) (c : Nat) (h : Rd w w.heap.size A c 7 m.es.length (els m.es)) (hok : ∀ e ∈ m.es, EntOk e) :
    Calls Tryd.prog 10 #[mv m A c] w fun x w' => ∃ (A' : Option Addr) (c' : Nat) (m2 : Msg), x = .returned (.agg #[.int .i64 m2.kind, .int .i64 m2.fr, .int .i64 m2.dst, .int .i64 m2.boot, .int .i64 m2.view, .int .i64 m2.last, .int .i64 m2.mem, .int .i64 m2.pos, .slice A' m2.es.length c', .int .i64 m2.com, .int .i64 m2.num, .int .i64 m2.clk, .bool m2.yes]) ∧ w'.ownsRow w.heap.size 53 7 (.slice A' m2.es.length c') m2.es.length (els m2.es) ∧ m2.mem = m.mem ∧ Below w.heap.size w w' :=
  (lCutM_c w m A c h hok).mono fun _ _ ⟨A', c', es, h1, _, h2, _, h3⟩ => ⟨A', c', withE m es, h1, h2, rfl, h3⟩

set_option maxHeartbeats 16000000 in
set_option maxRecDepth 100000 in
theorem NetAll_w (w : World) (ht : Tab w) (OA : Option Addr) (oc on : Nat) (z : List Value) (hr : Rd w w.heap.size OA oc 3 on z) (hz : AllN w z) :
    Calls Tryd.prog 3 #[.slice OA on oc] w fun e w' => e = .returned (.bool true) ∧ Below w.heap.size w w' := by
  have HT := Lib.hid ht
  have HR := Lib.hid hr
  have HZ := Lib.hid hz
  have hoc := hr.cap
  have hon := hr.le
  unfold maxLen at hoc
  clear ht hr hz
  go_enter Tryd.func3, Tryd.ntmps3
  go_wp2_with fail
  refine (begunN_c w HT.out).mono ?_
  rintro e w1 ⟨rfl, b1'⟩
  have B1 := Lib.hid b1'
  clear b1'
  go_wp2_with fail
  refine (nNew_sn B1.out).mono ?_
  rintro e w2 ⟨rfl, s2, -⟩
  have NA2 := Lib.hid (show Na w w2 w1.heap.size none 0 [] from ⟨s2, Ms.nil _ _⟩)
  clear s2 B1
  generalize w1.heap.size = g at *
  go_wp2_with fail
  go_loopg [5, 6] on (fun k s5 s6 wr => ∃ (i : Nat) (A : Option Addr) (c : Nat) (Q : List Mp), k = on - i ∧ i ≤ on ∧ i ≤ 50 ∧ s6 = .int .i64 i ∧ s5 = .slice A Q.length c ∧ Q.length ≤ 4 * i ∧ Hid (Na w wr g A c Q))
  case atStart => exact ⟨0, none, 0, [], by omega, by omega, by omega, rfl, rfl, by simp, NA2⟩
  case round =>
    clear NA2
    obtain ⟨i, A, c, Q, rfl, hin, hi50, rfl, rfl, hq, AS⟩ := hrel
    by_cases h1 : i < on
    · by_cases h2 : i < 50
      · have t1 : (i : Int) < 50 := by omega
        obtain ⟨bo, oo, kd, id, MA, mn, mc, mz, rfl, hrg, hid, hrm, hzm⟩ := HR.out.nop HZ.out AS.out.sn.bel h1
        have HRG := Lib.hid hrg
        have HRM := Lib.hid hrm
        have HZM := Lib.hid hzm
        have hmn := hrm.cap
        have hmc := hrm.le
        unfold maxLen at hmn
        have b4 := (Below.refl wr.heap.size wr).alloc (Nat.le_refl _) (.cells #[.int .i64 kd, .int .i64 id, .slice MA mn mc] 28)
        have KO4 := Lib.hid (show Blk (wr.alloc (.cells #[.int .i64 kd, .int .i64 id, .slice MA mn mc] 28)) wr.heap.size 28 (nopc kd id MA mn mc) from Blk.new wr #[.int .i64 kd, .int .i64 id, .slice MA mn mc] 28)
        have AS4 := Lib.hid (AS.out.past b4)
        clear hrg hrm hzm b4 AS
        go_upto_region 10 with (first | ((with_reducible show wpList _ _ _ ((⟨some 34, Op.load _ _, _, _, _, _⟩ : Oper) :: _) _ _); go_must (refine wpList_load_mid rfl 28 (.tmp 33) rfl bo (oo + i * 3) rfl ([.int .i64 kd, .int .i64 id, .slice MA mn mc]) _ HRG.out Tryd.underlying28 rfl (by kernel_rfl) ?_)))
        generalize wr.alloc (.cells #[.int .i64 kd, .int .i64 id, .slice MA mn mc] 28) = w4 at *
        generalize wr.heap.size = gO at *
        have ko := KO4.out.cell (i := 0) rfl
        have kI := KO4.out.cell (i := 1) rfl
        go_cut [8] from 35 to 171 (fun s8 wx => ∃ ib : Bool, s8 = .bool ib ∧ (ib = true ↔ 0 ≤ id ∧ id < (Q.length : Int)) ∧ wx = w4)
        case first =>
          by_cases i1 : 0 ≤ id
          · by_cases i2 : id < (Q.length : Int)
            · go_wp2_with fail
              go_meet
              case rel => exact ⟨_, rfl, by simp [i1, i2], rfl⟩
            · have i3 : (Q.length : Int) ≤ id := by omega
              go_wp2_with fail
              go_meet
              case rel => exact ⟨_, rfl, by simp [i1, i2], rfl⟩
          · go_wp2_with fail
            go_meet
            case rel => exact ⟨_, rfl, by simp; omega, rfl⟩
        case rest =>
          obtain ⟨ib, rfl, hib, rfl⟩ := hcut
          clear kI
          by_cases k0 : kd = 0
          · subst k0
            clear hib
            go_wp2_with fail
            go_loopg [5, 9, 10, 11] 4 (fun k s5 s9 s10 s11 wy => ∃ (j fl : Nat) (A' : Option Addr) (c' : Nat) (Q' : List Mp) (Am : Option Addr) (cm : Nat) (Qm : List Mp), k = 4 - j ∧ j ≤ 4 ∧ j ≤ mn ∧ s11 = .int .i64 j ∧ s10 = .int .i64 fl ∧ s9 = .slice Am j cm ∧ s5 = .slice A' Q'.length c' ∧ fl ≤ j ∧
              Hid (Qm.length = j ∧ ((Qm.map Mp.m).filter PMsg.may).length = fl ∧ Q'.map Mp.m = Q.map Mp.m ++ (Qm.map Mp.m).filter PMsg.may) ∧ Hid (Nb w wy g gO (nopc 0 id MA mn mc) (Q.map Mp.m) A' c' Q' Am cm Qm))
            case atStart => exact ⟨0, 0, A, c, Q, none, 0, [], by omega, by omega, by omega, rfl, rfl, rfl, rfl, by omega, Lib.hid ⟨rfl, rfl, by simp⟩, Lib.hid ⟨AS4.out.sn, AS4.out.ms, Ms.nil _ _, (fun x _ h => by cases h), KO4.out⟩⟩
            case round =>
              clear AS4 KO4 ko
              obtain ⟨j, fl, A', c', Q', Am, cm, Qm, rfl, hj4, hjm, rfl, rfl, rfl, rfl, hfl, HJ, NB⟩ := hrel
              by_cases d1 : j < mn
              · by_cases d2 : j < 4
                · obtain ⟨bm, om, m, mA, mcc, rfl, hmg, hme, hmo⟩ := HRM.out.nmsg HZM.out NB.out.sn.bel d1
                  have HMG := Lib.hid hmg
                  have HME := Lib.hid hme
                  have HMO := Lib.hid hmo
                  have d2' : (j : Int) < 4 := by omega
                  have kM := NB.out.ob.cell (i := 2) rfl
                  clear hmg hme hmo
                  go_wp2_with ((with_reducible show wpList _ _ _ ((⟨some 83, Op.load _ _, _, _, _, _⟩ : Oper) :: _) _ _); go_must (refine wpList_load_mid rfl 31 (.tmp 82) rfl bm (om + j * 13) rfl ([.int .i64 m.kind, .int .i64 m.fr, .int .i64 m.dst, .int .i64 m.boot, .int .i64 m.view, .int .i64 m.last, .int .i64 m.mem, .int .i64 m.pos, .slice mA m.es.length mcc, .int .i64 m.com, .int .i64 m.num, .int .i64 m.clk, .bool m.yes]) _ HMG.out Tryd.underlying31 rfl (by kernel_rfl) ?_))
                  refine (show Calls _ _ #[.agg #[.int .i64 m.kind, .int .i64 m.fr, .int .i64 m.dst, .int .i64 m.boot, .int .i64 m.view, .int .i64 m.last, .int .i64 m.mem, .int .i64 m.pos, .slice mA m.es.length mcc, .int .i64 m.com, .int .i64 m.num, .int .i64 m.clk, .bool m.yes]] wr _ from lCutM3 wr m mA mcc HME.out HMO.out.ents).mono ?_
                  rintro y w5 ⟨A5, c5, m1, rfl, hown, hmem, b5⟩
                  have HFIT := Lib.hid (show -9223372036854775808 ≤ m1.mem ∧ m1.mem ≤ 9223372036854775807 by rw [hmem]; exact HMO.out.f6)
                  have E5 := Lib.hid ((Ow.of_own hown).down NB.out.sn.bel.size)
                  have NB5 := Lib.hid (NB.out.past b5)
                  have XM := Lib.hid (show bk Am ≠ some w5.heap.size from fun h => Nat.lt_irrefl _ (NB5.out.mm.row.hi _ h))
                  have XL := Lib.hid (show bk A' ≠ some w5.heap.size from fun h => Nat.lt_irrefl _ (NB5.out.ms.row.hi _ h))
                  have b6 := (Below.refl w5.heap.size w5).alloc (Nat.le_refl _) (.cells #[.int .i64 m1.kind, .int .i64 m1.fr, .int .i64 m1.dst, .int .i64 m1.boot, .int .i64 m1.view, .int .i64 m1.last, .int .i64 m1.mem, .int .i64 m1.pos, .slice A5 m1.es.length c5, .int .i64 m1.com, .int .i64 m1.num, .int .i64 m1.clk, .bool m1.yes] 31)
                  have K6 := Lib.hid (show Blk (w5.alloc (.cells #[.int .i64 m1.kind, .int .i64 m1.fr, .int .i64 m1.dst, .int .i64 m1.boot, .int .i64 m1.view, .int .i64 m1.last, .int .i64 m1.mem, .int .i64 m1.pos, .slice A5 m1.es.length c5, .int .i64 m1.com, .int .i64 m1.num, .int .i64 m1.clk, .bool m1.yes] 31)) w5.heap.size 31 (mcs m1 A5 c5) from Blk.new w5 #[.int .i64 m1.kind, .int .i64 m1.fr, .int .i64 m1.dst, .int .i64 m1.boot, .int .i64 m1.view, .int .i64 m1.last, .int .i64 m1.mem, .int .i64 m1.pos, .slice A5 m1.es.length c5, .int .i64 m1.com, .int .i64 m1.num, .int .i64 m1.clk, .bool m1.yes] 31)
                  have b7 := (Below.refl (w5.alloc (.cells #[.int .i64 m1.kind, .int .i64 m1.fr, .int .i64 m1.dst, .int .i64 m1.boot, .int .i64 m1.view, .int .i64 m1.last, .int .i64 m1.mem, .int .i64 m1.pos, .slice A5 m1.es.length c5, .int .i64 m1.com, .int .i64 m1.num, .int .i64 m1.clk, .bool m1.yes] 31)).heap.size (w5.alloc (.cells #[.int .i64 m1.kind, .int .i64 m1.fr, .int .i64 m1.dst, .int .i64 m1.boot, .int .i64 m1.view, .int .i64 m1.last, .int .i64 m1.mem, .int .i64 m1.pos, .slice A5 m1.es.length c5, .int .i64 m1.com, .int .i64 m1.num, .int .i64 m1.clk, .bool m1.yes] 31))).alloc (Nat.le_refl _) (.cells #[.int .i64 m1.kind, .int .i64 m1.fr, .int .i64 m1.dst, .int .i64 m1.boot, .int .i64 m1.view, .int .i64 m1.last, .int .i64 m1.mem, .int .i64 m1.pos, .slice A5 m1.es.length c5, .int .i64 m1.com, .int .i64 m1.num, .int .i64 m1.clk, .bool m1.yes] 31)
                  have NB7 := Lib.hid ((NB5.out.past b6).past b7)
                  have E7 := Lib.hid ((E5.out.past b6).past b7)
                  have K7 := Lib.hid (K6.out.past b7)
                  have RN7 := Lib.hid (show Rd ((w5.alloc (.cells #[.int .i64 m1.kind, .int .i64 m1.fr, .int .i64 m1.dst, .int .i64 m1.boot, .int .i64 m1.view, .int .i64 m1.last, .int .i64 m1.mem, .int .i64 m1.pos, .slice A5 m1.es.length c5, .int .i64 m1.com, .int .i64 m1.num, .int .i64 m1.clk, .bool m1.yes] 31)).alloc (.cells #[.int .i64 m1.kind, .int .i64 m1.fr, .int .i64 m1.dst, .int .i64 m1.boot, .int .i64 m1.view, .int .i64 m1.last, .int .i64 m1.mem, .int .i64 m1.pos, .slice A5 m1.es.length c5, .int .i64 m1.com, .int .i64 m1.num, .int .i64 m1.clk, .bool m1.yes] 31)) (w5.heap.size + 1 + 1) (some ⟨w5.heap.size + 1, 0, none⟩) 1 13 1 (mgc ⟨m1, A5, c5⟩) from by
                    have := Rd.new (w5.alloc (.cells #[.int .i64 m1.kind, .int .i64 m1.fr, .int .i64 m1.dst, .int .i64 m1.boot, .int .i64 m1.view, .int .i64 m1.last, .int .i64 m1.mem, .int .i64 m1.pos, .slice A5 m1.es.length c5, .int .i64 m1.com, .int .i64 m1.num, .int .i64 m1.clk, .bool m1.yes] 31)) #[.int .i64 m1.kind, .int .i64 m1.fr, .int .i64 m1.dst, .int .i64 m1.boot, .int .i64 m1.view, .int .i64 m1.last, .int .i64 m1.mem, .int .i64 m1.pos, .slice A5 m1.es.length c5, .int .i64 m1.com, .int .i64 m1.num, .int .i64 m1.clk, .bool m1.yes] 31 13 1 rfl (by unfold maxLen; omega)
                    rw [show (w5.alloc (.cells #[.int .i64 m1.kind, .int .i64 m1.fr, .int .i64 m1.dst, .int .i64 m1.boot, .int .i64 m1.view, .int .i64 m1.last, .int .i64 m1.mem, .int .i64 m1.pos, .slice A5 m1.es.length c5, .int .i64 m1.com, .int .i64 m1.num, .int .i64 m1.clk, .bool m1.yes] 31)).heap.size = w5.heap.size + 1 by simp] at this
                    exact this)
                  have MR7 := Lib.hid (show Ow ((w5.alloc (.cells #[.int .i64 m1.kind, .int .i64 m1.fr, .int .i64 m1.dst, .int .i64 m1.boot, .int .i64 m1.view, .int .i64 m1.last, .int .i64 m1.mem, .int .i64 m1.pos, .slice A5 m1.es.length c5, .int .i64 m1.com, .int .i64 m1.num, .int .i64 m1.clk, .bool m1.yes] 31)).alloc (.cells #[.int .i64 m1.kind, .int .i64 m1.fr, .int .i64 m1.dst, .int .i64 m1.boot, .int .i64 m1.view, .int .i64 m1.last, .int .i64 m1.mem, .int .i64 m1.pos, .slice A5 m1.es.length c5, .int .i64 m1.com, .int .i64 m1.num, .int .i64 m1.clk, .bool m1.yes] 31)) w.heap.size 31 13 Am j cm (mgs Qm) from by have := NB7.out.mm.row; rw [HJ.out.1] at this; exact this)
                  clear hown hmem b5 b6 b7 NB NB5 E5 HMG HME HMO kM
                  go_wp2_with (first | (at_builtin; go_must (refine wpList_app2 rfl (.tmp 85) (.tmp 87) 26 rfl w.heap.size 31 _ 13 120 Tryd.underlying26 nMsg_info rfl (by omega) Am j cm (mgs Qm) rfl MR7.out _ _ 1 1 (mgc ⟨m1, A5, c5⟩) rfl RN7.out (mgc_oneCell _) ?c1 ?c2 NB7.out.sn.bel.size ?_)) | ((with_reducible show wpList _ _ _ ((⟨some 86, Op.load _ _, _, _, _, _⟩ : Oper) :: _) _ _); go_must (refine wpList_load_row rfl 31 (.tmp 12) rfl w5.heap.size rfl 31 #[.int .i64 m1.kind, .int .i64 m1.fr, .int .i64 m1.dst, .int .i64 m1.boot, .int .i64 m1.view, .int .i64 m1.last, .int .i64 m1.mem, .int .i64 m1.pos, .slice A5 m1.es.length c5, .int .i64 m1.com, .int .i64 m1.num, .int .i64 m1.clk, .bool m1.yes] (0, 0) _ K6.out Tryd.underlying31 rfl (by kernel_rfl) ?_)))
                  case c1 => unfold maxLen; omega
                  case c2 => omega
                  intro A7 c7 w8 O8 g8 h8
                  have NB8 := Lib.hid (NB7.out.putM (q := ⟨m1, A5, c5⟩) g8 (by rw [HJ.out.1]; exact O8) (fun x hx => by have := h8 x hx; simpa using this) E7.out HFIT.out)
                  have K8 := Lib.hid (box_far K7.out g8 XM.out)
                  have E8 := Lib.hid (E7.out.other (Touch.of_bk g8) (fun s hs => by
                    obtain ⟨ys, hy⟩ := MR7.out.blk (mem_bl.1 hs)
                    exact ⟨_, _, hy, by decide⟩))
                  clear O8 g8 h8 NB7 K6 K7 E7 RN7 MR7 XM
                  go_wp2_with ((with_reducible show wpList _ _ _ ((⟨some 89, Op.load _ _, _, _, _, _⟩ : Oper) :: _) _ _); go_must (refine wpList_load_row rfl 31 (.tmp 12) rfl w5.heap.size rfl 31 #[.int .i64 m1.kind, .int .i64 m1.fr, .int .i64 m1.dst, .int .i64 m1.boot, .int .i64 m1.view, .int .i64 m1.last, .int .i64 m1.mem, .int .i64 m1.pos, .slice A5 m1.es.length c5, .int .i64 m1.com, .int .i64 m1.num, .int .i64 m1.clk, .bool m1.yes] (0, 0) _ K8.out Tryd.underlying31 rfl (by kernel_rfl) ?_))
                  refine (show Calls _ _ #[.agg #[.int .i64 m1.kind, .int .i64 m1.fr, .int .i64 m1.dst, .int .i64 m1.boot, .int .i64 m1.view, .int .i64 m1.last, .int .i64 m1.mem, .int .i64 m1.pos, .slice A5 m1.es.length c5, .int .i64 m1.com, .int .i64 m1.num, .int .i64 m1.clk, .bool m1.yes]] w8 _ from rMayM_c w8 m1 A5 c5 E8.out.rd).mono ?_
                  cases hy : PMsg.may m1
                  · have HJ2 := Lib.hid (show (Qm ++ [(⟨m1, A5, c5⟩ : Mp)]).length = j + 1 ∧ (((Qm ++ [(⟨m1, A5, c5⟩ : Mp)]).map Mp.m).filter PMsg.may).length = fl ∧ Q'.map Mp.m = Q.map Mp.m ++ ((Qm ++ [(⟨m1, A5, c5⟩ : Mp)]).map Mp.m).filter PMsg.may from by
                      have e : ((Qm ++ [(⟨m1, A5, c5⟩ : Mp)]).map Mp.m).filter PMsg.may = (Qm.map Mp.m).filter PMsg.may := by
                        rw [List.map_append, List.filter_append]; simp [hy]
                      rw [e]
                      exact ⟨by rw [List.length_append, HJ.out.1]; rfl, HJ.out.2.1, HJ.out.2.2⟩)
                    rintro y w9 ⟨rfl, b9⟩
                    have NB9 := Lib.hid (NB8.out.past b9)
                    clear hy b9 NB8 K8 E8 XL HJ
                    go_wp2_with fail
                    go_roundg (4 - (j + 1))
                    case measure => omega
                    case rel => exact ⟨j + 1, fl, A', c', Q', A7, c7, Qm ++ [⟨m1, A5, c5⟩], rfl, by omega, by omega, by go_num, rfl, rfl, rfl, by omega, HJ2, NB9⟩
                  · have HJ2 := Lib.hid (show (Qm ++ [(⟨m1, A5, c5⟩ : Mp)]).length = j + 1 ∧ (((Qm ++ [(⟨m1, A5, c5⟩ : Mp)]).map Mp.m).filter PMsg.may).length = fl + 1 ∧ (Q' ++ [(⟨m1, A5, c5⟩ : Mp)]).map Mp.m = Q.map Mp.m ++ ((Qm ++ [(⟨m1, A5, c5⟩ : Mp)]).map Mp.m).filter PMsg.may from by
                      have e : ((Qm ++ [(⟨m1, A5, c5⟩ : Mp)]).map Mp.m).filter PMsg.may = (Qm.map Mp.m).filter PMsg.may ++ [m1] := by
                        rw [List.map_append, List.filter_append]; simp [hy]
                      rw [e]
                      exact ⟨by rw [List.length_append, HJ.out.1]; rfl, by rw [List.length_append, HJ.out.2.1]; rfl, by rw [List.map_append, HJ.out.2.2, List.append_assoc]; rfl⟩)
                    rintro y w9 ⟨rfl, b9⟩
                    have K9 := Lib.hid (K8.out.past b9)
                    have b10 := (Below.refl w9.heap.size w9).alloc (Nat.le_refl _) (.cells #[.int .i64 m1.kind, .int .i64 m1.fr, .int .i64 m1.dst, .int .i64 m1.boot, .int .i64 m1.view, .int .i64 m1.last, .int .i64 m1.mem, .int .i64 m1.pos, .slice A5 m1.es.length c5, .int .i64 m1.com, .int .i64 m1.num, .int .i64 m1.clk, .bool m1.yes] 31)
                    have NB10 := Lib.hid ((NB8.out.past b9).past b10)
                    have E10 := Lib.hid ((E8.out.past b9).past b10)
                    have RN10 := Lib.hid (Rd.new w9 #[.int .i64 m1.kind, .int .i64 m1.fr, .int .i64 m1.dst, .int .i64 m1.boot, .int .i64 m1.view, .int .i64 m1.last, .int .i64 m1.mem, .int .i64 m1.pos, .slice A5 m1.es.length c5, .int .i64 m1.com, .int .i64 m1.num, .int .i64 m1.clk, .bool m1.yes] 31 13 1 rfl (by unfold maxLen; omega))
                    have HQL := Lib.hid (show Q'.length = Q.length + fl by
                      have := congrArg List.length HJ.out.2.2
                      rw [List.length_map, List.length_append, List.length_map, HJ.out.2.1] at this
                      exact this)
                    clear hy b9 b10 NB8 K8 E8 XL HJ
                    go_wp2_with (first | (at_builtin; go_must (refine wpList_app2 rfl (.tmp 91) (.tmp 93) 26 rfl w.heap.size 31 _ 13 120 Tryd.underlying26 nMsg_info rfl (by omega) A' Q'.length c' (mgs Q') rfl NB10.out.ms.row _ _ 1 1 (mgc ⟨m1, A5, c5⟩) rfl RN10.out (mgc_oneCell _) ?d1 ?d2 NB10.out.sn.bel.size ?_)) | ((with_reducible show wpList _ _ _ ((⟨some 92, Op.load _ _, _, _, _, _⟩ : Oper) :: _) _ _); go_must (refine wpList_load_row rfl 31 (.tmp 12) rfl w5.heap.size rfl 31 #[.int .i64 m1.kind, .int .i64 m1.fr, .int .i64 m1.dst, .int .i64 m1.boot, .int .i64 m1.view, .int .i64 m1.last, .int .i64 m1.mem, .int .i64 m1.pos, .slice A5 m1.es.length c5, .int .i64 m1.com, .int .i64 m1.num, .int .i64 m1.clk, .bool m1.yes] (0, 0) _ K9.out Tryd.underlying31 rfl (by kernel_rfl) ?_)))
                    case d1 => have := HQL.out; unfold maxLen; omega
                    case d2 => have := HQL.out; omega
                    intro A10 c10 w11 O11 g11 h11
                    have NB11 := Lib.hid (NB10.out.putL (q := ⟨m1, A5, c5⟩) g11 O11 (fun x hx => by have := h11 x hx; simpa using this) E10.out HFIT.out)
                    clear O11 g11 h11 NB10 E10 RN10 K9
                    go_wp2_with fail
                    go_roundg (4 - (j + 1))
                    case measure => omega
                    case rel => exact ⟨j + 1, fl + 1, A10, c10, Q' ++ [⟨m1, A5, c5⟩], A7, c7, Qm ++ [⟨m1, A5, c5⟩], rfl, by omega, by omega, by go_num, by go_num, rfl, by rw [List.length_append]; rfl, by omega, HJ2, NB11⟩
                · have d2' : ¬ (j : Int) < 4 := by omega
                  have HS := Lib.hid (PNet.send_room (L := Q.map Mp.m) (ms := Qm.map Mp.m) (by rw [List.length_map, List.length_map, HJ.out.1]; omega))
                  have HQL := Lib.hid (show Q'.length = Q.length + fl by
                    have := congrArg List.length HJ.out.2.2
                    rw [List.length_map, List.length_append, List.length_map, HJ.out.2.1] at this
                    exact this)
                  have kM := NB.out.ob.cell (i := 2) rfl
                  go_wp2_with fail
                  refine (show Calls Tryd.prog 12 #[.pointer (some ⟨g, 0, none⟩), .slice Am j cm] wr (fun e w' => e = .returned (.int .i64 fl) ∧ Sn w w' g (Q'.map Mp.m) ∧ NtT wr w') from by
                    have key := NB.out.sn.send HT.out NB.out.mm (by rw [HJ.out.1]; omega)
                    rw [HS.out, List.length_append, HJ.out.2.1, ← HJ.out.2.2, HJ.out.1] at key
                    exact key.mono fun e w' ⟨h1, h2, h3⟩ => ⟨by rw [h1]; congr 2; omega, h2, h3⟩).mono ?_
                  rintro y w5 ⟨rfl, s5, n5⟩
                  have NA8 := Lib.hid (show Na w w5 g A' c' Q' from ⟨s5, n5.ms NB.out.ms⟩)
                  clear s5 n5 NB kM
                  go_wp2_with fail
                  refine (NA8.out.sn.len).mono ?_
                  rw [List.length_map]
                  rintro y w9 ⟨rfl, rfl⟩
                  go_wp2_with fail
                  go_roundg (on - (i + 1))
                  case measure => omega
                  case rel => exact ⟨i + 1, A', c', Q', rfl, by omega, by omega, by go_num, rfl, by rw [HQL.out]; omega, NA8⟩
              · have HS := Lib.hid (PNet.send_room (L := Q.map Mp.m) (ms := Qm.map Mp.m) (by rw [List.length_map, List.length_map, HJ.out.1]; omega))
                have HQL := Lib.hid (show Q'.length = Q.length + fl by
                  have := congrArg List.length HJ.out.2.2
                  rw [List.length_map, List.length_append, List.length_map, HJ.out.2.1] at this
                  exact this)
                have kM := NB.out.ob.cell (i := 2) rfl
                go_wp2_with fail
                refine (show Calls Tryd.prog 12 #[.pointer (some ⟨g, 0, none⟩), .slice Am j cm] wr (fun e w' => e = .returned (.int .i64 fl) ∧ Sn w w' g (Q'.map Mp.m) ∧ NtT wr w') from by
                  have key := NB.out.sn.send HT.out NB.out.mm (by rw [HJ.out.1]; omega)
                  rw [HS.out, List.length_append, HJ.out.2.1, ← HJ.out.2.2, HJ.out.1] at key
                  exact key.mono fun e w' ⟨h1, h2, h3⟩ => ⟨by rw [h1]; congr 2; omega, h2, h3⟩).mono ?_
                rintro y w5 ⟨rfl, s5, n5⟩
                have NA8 := Lib.hid (show Na w w5 g A' c' Q' from ⟨s5, n5.ms NB.out.ms⟩)
                clear s5 n5 NB kM
                go_wp2_with fail
                refine (NA8.out.sn.len).mono ?_
                rw [List.length_map]
                rintro y w9 ⟨rfl, rfl⟩
                go_wp2_with fail
                go_roundg (on - (i + 1))
                case measure => omega
                case rel => exact ⟨i + 1, A', c', Q', rfl, by omega, by omega, by go_num, rfl, by rw [HQL.out]; omega, NA8⟩
          by_cases k1 : kd = 1
          · subst k1
            cases ib
            · as_aux_lemma =>
                have hno : ¬ (0 ≤ id ∧ id < (((Q.map Mp.m).length : Nat) : Int)) := fun h => by
                  rw [List.length_map] at h
                  exact Bool.noConfusion (hib.2 h)
                clear hib
                have kI := KO4.out.cell (i := 1) rfl
                go_wp2_with fail
                refine (AS4.out.sn.look_out hno).mono ?_
                rintro y w5 ⟨rfl, rfl⟩
                go_wp2_with fail
                refine (AS4.out.sn.take_out hno).mono ?_
                rintro y w5 ⟨rfl, rfl⟩
                have NA8 := Lib.hid (AS4.out.past ((Below.refl _ _).drew))
                go_wp2_with fail
-- REGION curfew/curfewlaw18.NetAll 34 nall34out 16
                refine Hb.begin ?_
                refine Hb.take (v := .bool false) 0 122 rfl ?_ (fun _ _ => rfl)
                refine Hb.take (v := .bool false) 1 123 rfl ?_ (fun _ _ => rfl)
                refine Hb.take (v := .bool false) 2 124 rfl ?_ (fun w' hw' => by go_simp; first | done | rfl | omega | exact wrap_in (by omega) (by omega) | exact Int.tmod_eq_emod_of_nonneg (by omega) | exact Int.tdiv_eq_ediv_of_nonneg (by omega) | (simp; omega))
                refine Hb.take (v := .bool false) 3 125 rfl ?_ (fun _ _ => rfl)
                refine Hb.take (v := .bool false) 4 126 rfl ?_ (fun _ _ => rfl)
                refine Hb.take (v := .bool false) 5 127 rfl ?_ (fun _ _ => rfl)
                refine Hb.pass 6 128 rfl ?_
                refine Hb.pass 7 129 rfl ?_
                refine Hb.pass 8 130 rfl ?_
                refine Hb.pass 9 131 rfl ?_
                refine Hb.pass 10 132 rfl ?_
                refine Hb.pass 11 133 rfl ?_
                refine Hb.pass 12 134 rfl ?_
                refine Hb.pass 13 135 rfl ?_
                refine Hb.pass 14 136 rfl ?_
                refine Hb.pass 15 137 rfl ?_
                refine Hb.take (v := .bool false) 16 138 rfl ?_ (fun _ _ => rfl)
                refine Hb.take (v := .bool false) 17 139 rfl ?_ (fun _ _ => rfl)
                refine Hb.take (v := .bool false) 18 140 rfl ?_ (fun _ _ => rfl)
                refine Hb.take (v := .bool false) 19 141 rfl ?_ (fun _ _ => rfl)
                refine Hb.take (v := .bool true) 20 142 rfl ?_ (fun w' hw' => by go_simp; first | done | rfl | omega | exact wrap_in (by omega) (by omega) | exact Int.tmod_eq_emod_of_nonneg (by omega) | exact Int.tdiv_eq_ediv_of_nonneg (by omega) | (simp; omega))
                refine Hb.take (v := .bool true) 21 143 rfl ?_ (fun _ _ => rfl)
                refine Hb.take (v := .slice none 0 0) 22 144 rfl ?_ (fun _ _ => rfl)
                refine Hb.take (v := .int .i64 0) 23 145 rfl ?_ (fun w' hw' => by go_simp; first | done | rfl | omega | exact wrap_in (by omega) (by omega) | exact Int.tmod_eq_emod_of_nonneg (by omega) | exact Int.tdiv_eq_ediv_of_nonneg (by omega) | (simp; omega))
                refine Hb.take (v := .bool false) 24 146 rfl ?_ (fun w' hw' => by go_simp; first | done | rfl | omega | exact wrap_in (by omega) (by omega) | exact Int.tmod_eq_emod_of_nonneg (by omega) | exact Int.tdiv_eq_ediv_of_nonneg (by omega) | (simp; omega))
                refine Hb.take (v := .bool false) 25 147 rfl ?_ (fun _ _ => rfl)
                refine Hb.take (v := .bool false) 26 148 rfl ?_ (fun _ _ => rfl)
                refine Hb.done ?_
-- END
                go_wp2_with fail
                refine (NA8.out.sn.len).mono ?_
                rw [List.length_map]
                rintro y w9 ⟨rfl, rfl⟩
                go_wp2_with fail
                go_roundg (on - (i + 1))
                case measure => omega
                case rel => exact ⟨i + 1, A, c, Q, rfl, by omega, by omega, by go_num, rfl, by omega, NA8⟩
            · as_aux_lemma =>
                have hib2 := hib.1 rfl
                obtain ⟨k, rfl⟩ := Int.eq_ofNat_of_zero_le hib2.1
                have hk : k < Q.length := by have := hib2.2; omega
                clear hib hib2
                obtain ⟨q, hq0⟩ : ∃ q, Q[k]? = some q := ⟨_, List.getElem?_eq_getElem hk⟩
                have HXM := Lib.hid (show (Q.map Mp.m)[k]? = some q.m by rw [List.getElem?_map, hq0]; rfl)
                have HQ0 := Lib.hid hq0
                clear hq0
                have kI := KO4.out.cell (i := 1) rfl
                go_wp2_with fail
                refine (AS4.out.sn.look_in HXM.out).mono ?_
                rintro y w5 ⟨A5, c5, rfl, o5, b5⟩
                have AS5 := Lib.hid (AS4.out.past b5)
                have KO5 := Lib.hid (KO4.out.past b5)
                clear o5 b5 AS4 KO4 ko kI
                have ko := KO5.out.cell (i := 0) rfl
                have kI := KO5.out.cell (i := 1) rfl
                go_wp2_with fail
                refine (AS5.out.sn.take_in HXM.out).mono ?_
                rintro y w6 ⟨A6, c6, rfl, o6, s6, n6⟩
                have R6 := Lib.hid o6.rd
                have S6 := Lib.hid s6
                have M6 := Lib.hid (n6.ms AS5.out.ms)
                have KO6 := Lib.hid (n6.blk KO5.out (by decide) (by decide) (by decide))
                clear o6 s6 n6 AS5 KO5 ko kI
                obtain ⟨b, o, q', rfl, hbl, hq', -, hg6, he6⟩ := M6.out.at_ hk
                obtain rfl : q = q' := Option.some.inj (HQ0.out.symm.trans hq')
                have G6 := Lib.hid hg6
                have E6 := Lib.hid he6
                have HBL := Lib.hid hbl
                have hcap := M6.out.cap
                clear hq' hbl hg6 he6
                go_wp2_with fail
-- REGION curfew/curfewlaw18.NetAll 34 nall34in 16
                refine Hb.begin ?_
                refine Hb.take (v := .bool true) 0 122 rfl ?_ (fun _ _ => rfl)
                refine Hb.take (v := .bool true) 1 123 rfl ?_ (fun _ _ => rfl)
                refine Hb.take (v := .bool false) 2 124 rfl ?_ (fun w' hw' => by go_simp; first | done | rfl | omega | exact wrap_in (by omega) (by omega) | exact Int.tmod_eq_emod_of_nonneg (by omega) | exact Int.tdiv_eq_ediv_of_nonneg (by omega) | (simp; omega))
                refine Hb.take (v := .bool false) 3 125 rfl ?_ (fun _ _ => rfl)
                refine Hb.take (v := .bool true) 4 126 rfl ?_ (fun _ _ => rfl)
                refine Hb.take (v := .bool true) 5 127 rfl ?_ (fun _ _ => rfl)
                refine Hb.take (v := .slice A6 (PMsg.enc q.m).length c6) 6 128 rfl ?_ (fun _ _ => rfl)
                refine Hb.take (v := .string (strOfNums (PMsg.enc q.m))) 7 129 rfl ?_ (fun w' hw' => by exact run_toStrOp 5 rfl (R6.out.drew.below hw') Tryd.underlying35 Tryd.underlying5 Tryd.underlying9)
                refine Hb.take (v := .slice (some ⟨b, o, none⟩) Q.length c) 8 130 rfl ?_ (fun _ _ => rfl)
                refine Hb.take (v := .pointer (some ⟨gO, 1, none⟩)) 9 131 rfl ?_ (fun w' hw' => by go_simp; first | done | rfl | omega | exact wrap_in (by omega) (by omega) | exact Int.tmod_eq_emod_of_nonneg (by omega) | exact Int.tdiv_eq_ediv_of_nonneg (by omega) | (simp; omega))
                refine Hb.take (v := .int .i64 (k : Nat)) 10 132 rfl ?_ (fun w' hw' => by have hc := (Blk.past (show Blk w6.drew gO _ _ from KO6.out) hw').cell (i := 1) rfl; go_simp)
                refine Hb.take (v := .pointer (some ⟨b, o + k * 13, none⟩)) 11 133 rfl ?_ (fun w' hw' => by go_simp; first | done | rfl | omega | exact wrap_in (by omega) (by omega) | exact Int.tmod_eq_emod_of_nonneg (by omega) | exact Int.tdiv_eq_ediv_of_nonneg (by omega) | (simp; omega))
                refine Hb.take (v := mv q.m q.A q.c) 12 134 rfl ?_ (fun w' hw' => by exact run_loadMr (rangeAt_below (show w6.drew.rangeAt _ _ _ from G6.out) hw' HBL.out) rfl)
                refine Hb.call (f := 15) (args := #[mv q.m q.A q.c]) 13 135 rfl ?_ (run_callf Tryd.func15 (by kernel_rfl) (by kernel_rfl) (by simp only [List.map_toArray, List.map_cons, List.map_nil]; rfl))
                refine (rBytes_c w6.drew q.m q.A q.c E6.out.drew).mono ?_
                rintro y w7 ⟨A7, c7, rfl, o7, b7⟩
                have R7 := Lib.hid (Rd.of_own o7)
                have B7 := Lib.hid (show Below w6.heap.size w6 w7 from (Below.refl _ _).drew.trans b7)
                refine Hb.back b7 b7.size ?_
                refine Hb.take (v := .string (strOfNums (PMsg.enc q.m))) 14 136 rfl ?_ (fun w' hw' => by exact run_toStrOp 5 rfl (R7.out.below hw') Tryd.underlying35 Tryd.underlying5 Tryd.underlying9)
                refine Hb.take (v := .bool false) 15 137 rfl ?_ (fun w' hw' => by exact run_strNe rfl rfl (by simp))
                refine Hb.take (v := .bool false) 16 138 rfl ?_ (fun _ _ => rfl)
                refine Hb.take (v := .bool false) 17 139 rfl ?_ (fun _ _ => rfl)
                refine Hb.take (v := .bool false) 18 140 rfl ?_ (fun _ _ => rfl)
                refine Hb.take (v := .bool true) 19 141 rfl ?_ (fun _ _ => rfl)
                refine Hb.take (v := .bool false) 20 142 rfl ?_ (fun w' hw' => by go_simp; first | done | rfl | omega | exact wrap_in (by omega) (by omega) | exact Int.tmod_eq_emod_of_nonneg (by omega) | exact Int.tdiv_eq_ediv_of_nonneg (by omega) | (simp; omega))
                refine Hb.take (v := .bool false) 21 143 rfl ?_ (fun _ _ => rfl)
                refine Hb.pass 22 144 rfl ?_
                refine Hb.pass 23 145 rfl ?_
                refine Hb.pass 24 146 rfl ?_
                refine Hb.take (v := Value.bool false) 25 147 rfl ?_ (fun _ _ => rfl)
                refine Hb.take (v := Value.bool false) 26 148 rfl ?_ (fun _ _ => rfl)
                refine Hb.done ?_
-- END
                have S7 := Lib.hid (S6.out.past B7.out)
                have M7 := Lib.hid (M6.out.past B7.out)
                have KO7 := Lib.hid (KO6.out.past B7.out)
                have ko := KO7.out.cell (i := 0) rfl
                clear R6 S6 M6 KO6 G6 E6 HBL
                go_wp2_with fail
                clear ko
                have HH7 := Lib.hid (show Ow w7.drew _ _ _ _ _ _ _ from M7.out.head (Nat.le_of_lt hk))
                obtain ⟨X, hX⟩ : ∃ X, (if c = k + 1 then (some ⟨b, o, none⟩ : Option Addr) else (some ⟨b, o, none⟩ : Option Addr).map (·.add ((k + 1) * 13))) = X := ⟨_, rfl⟩
                have HR7 := Lib.hid (show Rd w7.drew _ _ _ _ _ _ from by have := (M7.out.rest hk).drew; rw [hX] at this; exact this)
                have HX := Lib.hid hX
                clear hX
                have HSZ := Lib.hid (show w.heap.size ≤ w7.drew.heap.size from S7.out.bel.size)
-- REGION curfew/curfewlaw18.NetAll 37 nall37 16
                refine Hb.begin ?_
                refine Hb.take 0 155 rfl ?_ (fun w' hw' => by go_simp; first | done | rfl)
                refine Hb.take (v := .pointer (some ⟨gO, 1, none⟩)) 1 156 rfl ?_ (fun w' hw' => by go_simp; first | done | rfl | omega | exact wrap_in (by omega) (by omega) | exact Int.tmod_eq_emod_of_nonneg (by omega) | exact Int.tdiv_eq_ediv_of_nonneg (by omega) | (simp; omega))
                refine Hb.take (v := .int .i64 (k : Nat)) 2 157 rfl ?_ (fun w' hw' => by have hc := (Blk.past (show Blk w7.drew gO _ _ from KO7.out) hw').cell (i := 1) rfl; go_simp)
                refine Hb.take (v := .pointer (some ⟨gO, 1, none⟩)) 3 158 rfl ?_ (fun w' hw' => by go_simp; first | done | rfl | omega | exact wrap_in (by omega) (by omega) | exact Int.tmod_eq_emod_of_nonneg (by omega) | exact Int.tdiv_eq_ediv_of_nonneg (by omega) | (simp; omega))
                refine Hb.take (v := .int .i64 (k : Nat)) 4 159 rfl ?_ (fun w' hw' => by have hc := (Blk.past (show Blk w7.drew gO _ _ from KO7.out) hw').cell (i := 1) rfl; go_simp)
                refine Hb.take (v := .slice (some ⟨b, o, none⟩) k k) 5 160 rfl ?_ (fun w' hw' => by exact run_headOp 31 Tryd.underlying26 nMsg_info (by omega) rfl rfl rfl)
                refine Hb.take 6 161 rfl ?_ (fun w' hw' => by go_simp; first | done | rfl)
                refine Hb.take (v := .pointer (some ⟨gO, 1, none⟩)) 7 162 rfl ?_ (fun w' hw' => by go_simp; first | done | rfl | omega | exact wrap_in (by omega) (by omega) | exact Int.tmod_eq_emod_of_nonneg (by omega) | exact Int.tdiv_eq_ediv_of_nonneg (by omega) | (simp; omega))
                refine Hb.take (v := .int .i64 (k : Nat)) 8 163 rfl ?_ (fun w' hw' => by have hc := (Blk.past (show Blk w7.drew gO _ _ from KO7.out) hw').cell (i := 1) rfl; go_simp)
                refine Hb.take (v := .int .i64 ((k + 1 : Nat) : Int)) 9 164 rfl ?_ (fun w' hw' => by go_simp; first | done | rfl | omega | exact wrap_in (by omega) (by omega) | exact Int.tmod_eq_emod_of_nonneg (by omega) | exact Int.tdiv_eq_ediv_of_nonneg (by omega) | (simp; omega))
                refine Hb.take (v := .slice X (Q.length - (k + 1)) (c - (k + 1))) 10 165 rfl ?_ (fun w' hw' => by rw [← HX.out]; exact run_restOp 31 Tryd.underlying26 nMsg_info (by omega) (by omega) rfl rfl)
                refine Hb.only 11 (some 166) rfl ?_
                refine wpList_appH rfl (.tmp 160) (.tmp 165) 26 rfl w.heap.size 31 _ 13 120 Tryd.underlying26 nMsg_info rfl (by omega) (some ⟨b, o, none⟩) k k (mgs (Q.take k)) rfl HH7.out _ _ _ (Q.length - (k + 1)) (mgs (Q.drop (k + 1))) rfl HR7.out (mgs_oneCell _) (by unfold maxLen; omega) (by omega) HSZ.out rfl ?_
                intro A8 c8 w8 O8 g8
                have b8 := below_none g8
                refine Hb.next b8 b8.size ?_ (by simp only [Act.put, List.setIfInBounds_toArray, List.set_cons_succ, List.set_cons_zero]; rfl)
                refine Hb.take (v := .slice A8 (k + (Q.length - (k + 1)) : Nat) c8) 12 5 rfl ?_ (fun _ _ => rfl)
                refine Hb.done ?_
-- END
                have E8 := Lib.hid (show k + (Q.length - (k + 1)) = (Q.take k ++ Q.drop (k + 1)).length by simp; omega)
                have B8 := Lib.hid (show Below w7.heap.size w7 w8 from (Below.refl _ _).drew.trans b8)
                have NA8 := Lib.hid (show Na w w8 g A8 c8 (Q.take k ++ Q.drop (k + 1)) from ⟨by rw [← PNet.del_map]; exact S7.out.past B8.out, M7.out.del B8.out hk O8⟩)
                clear b8 O8 g8 S7 M7 HH7 HR7 KO7
                go_wp2_with fail
                refine (NA8.out.sn.len).mono ?_
                rw [List.length_map, ← E8.out]
                rintro y w9 ⟨rfl, rfl⟩
                go_wp2_with fail
                go_roundg (on - (i + 1))
                case measure => omega
                case rel => exact ⟨i + 1, A8, c8, Q.take k ++ Q.drop (k + 1), rfl, by omega, by omega, by go_num, by rw [← E8.out], by rw [← E8.out]; omega, NA8⟩
          by_cases k2 : kd = 2
          · subst k2
            cases ib
            · as_aux_lemma =>
                have hno : ¬ (0 ≤ id ∧ id < (((Q.map Mp.m).length : Nat) : Int)) := fun h => by
                  rw [List.length_map] at h
                  exact Bool.noConfusion (hib.2 h)
                clear hib
                have kI := KO4.out.cell (i := 1) rfl
                go_wp2_with fail
                refine (AS4.out.sn.look_out hno).mono ?_
                rintro y w5 ⟨rfl, rfl⟩
                have NA8 := Lib.hid (AS4.out.past ((Below.refl _ _).drew))
                go_wp2_with fail
-- REGION curfew/curfewlaw18.NetAll 34 nall34out 16
                refine Hb.begin ?_
                refine Hb.take (v := .bool false) 0 122 rfl ?_ (fun _ _ => rfl)
                refine Hb.take (v := .bool false) 1 123 rfl ?_ (fun _ _ => rfl)
                refine Hb.take (v := .bool false) 2 124 rfl ?_ (fun w' hw' => by go_simp; first | done | rfl | omega | exact wrap_in (by omega) (by omega) | exact Int.tmod_eq_emod_of_nonneg (by omega) | exact Int.tdiv_eq_ediv_of_nonneg (by omega) | (simp; omega))
                refine Hb.take (v := .bool false) 3 125 rfl ?_ (fun _ _ => rfl)
                refine Hb.take (v := .bool false) 4 126 rfl ?_ (fun _ _ => rfl)
                refine Hb.take (v := .bool false) 5 127 rfl ?_ (fun _ _ => rfl)
                refine Hb.pass 6 128 rfl ?_
                refine Hb.pass 7 129 rfl ?_
                refine Hb.pass 8 130 rfl ?_
                refine Hb.pass 9 131 rfl ?_
                refine Hb.pass 10 132 rfl ?_
                refine Hb.pass 11 133 rfl ?_
                refine Hb.pass 12 134 rfl ?_
                refine Hb.pass 13 135 rfl ?_
                refine Hb.pass 14 136 rfl ?_
                refine Hb.pass 15 137 rfl ?_
                refine Hb.take (v := .bool false) 16 138 rfl ?_ (fun _ _ => rfl)
                refine Hb.take (v := .bool false) 17 139 rfl ?_ (fun _ _ => rfl)
                refine Hb.take (v := .bool false) 18 140 rfl ?_ (fun _ _ => rfl)
                refine Hb.take (v := .bool false) 19 141 rfl ?_ (fun _ _ => rfl)
                refine Hb.take (v := .bool true) 20 142 rfl ?_ (fun w' hw' => by go_simp; first | done | rfl | omega | exact wrap_in (by omega) (by omega) | exact Int.tmod_eq_emod_of_nonneg (by omega) | exact Int.tdiv_eq_ediv_of_nonneg (by omega) | (simp; omega))
                refine Hb.take (v := .bool true) 21 143 rfl ?_ (fun _ _ => rfl)
                refine Hb.take (v := .slice none 0 0) 22 144 rfl ?_ (fun _ _ => rfl)
                refine Hb.take (v := .int .i64 0) 23 145 rfl ?_ (fun w' hw' => by go_simp; first | done | rfl | omega | exact wrap_in (by omega) (by omega) | exact Int.tmod_eq_emod_of_nonneg (by omega) | exact Int.tdiv_eq_ediv_of_nonneg (by omega) | (simp; omega))
                refine Hb.take (v := .bool false) 24 146 rfl ?_ (fun w' hw' => by go_simp; first | done | rfl | omega | exact wrap_in (by omega) (by omega) | exact Int.tmod_eq_emod_of_nonneg (by omega) | exact Int.tdiv_eq_ediv_of_nonneg (by omega) | (simp; omega))
                refine Hb.take (v := .bool false) 25 147 rfl ?_ (fun _ _ => rfl)
                refine Hb.take (v := .bool false) 26 148 rfl ?_ (fun _ _ => rfl)
                refine Hb.done ?_
-- END
                go_wp2_with fail
                refine (NA8.out.sn.len).mono ?_
                rw [List.length_map]
                rintro y w9 ⟨rfl, rfl⟩
                go_wp2_with fail
                go_roundg (on - (i + 1))
                case measure => omega
                case rel => exact ⟨i + 1, A, c, Q, rfl, by omega, by omega, by go_num, rfl, by omega, NA8⟩
            · as_aux_lemma =>
                have hib2 := hib.1 rfl
                obtain ⟨k, rfl⟩ := Int.eq_ofNat_of_zero_le hib2.1
                have hk : k < Q.length := by have := hib2.2; omega
                clear hib hib2
                obtain ⟨q, hq0⟩ : ∃ q, Q[k]? = some q := ⟨_, List.getElem?_eq_getElem hk⟩
                have HXM := Lib.hid (show (Q.map Mp.m)[k]? = some q.m by rw [List.getElem?_map, hq0]; rfl)
                have HQ0 := Lib.hid hq0
                clear hq0
                have kI := KO4.out.cell (i := 1) rfl
                go_wp2_with fail
                refine (AS4.out.sn.look_in HXM.out).mono ?_
                rintro y w6 ⟨A6, c6, rfl, o6, b6⟩
                have R6 := Lib.hid o6.rd
                have S6 := Lib.hid (AS4.out.sn.past b6)
                have M6 := Lib.hid (AS4.out.ms.past b6)
                have KO6 := Lib.hid (KO4.out.past b6)
                clear o6 b6 AS4 KO4 ko kI
                obtain ⟨b, o, q', rfl, hbl, hq', -, hg6, he6⟩ := M6.out.at_ hk
                obtain rfl : q = q' := Option.some.inj (HQ0.out.symm.trans hq')
                have G6 := Lib.hid hg6
                have E6 := Lib.hid he6
                have HBL := Lib.hid hbl
                have hcap := M6.out.cap
                clear hq' hbl hg6 he6
                have ko := KO6.out.cell (i := 0) rfl
                go_wp2_with fail
                clear ko
-- REGION curfew/curfewlaw18.NetAll 34 nall34in 16
                refine Hb.begin ?_
                refine Hb.take (v := .bool true) 0 122 rfl ?_ (fun _ _ => rfl)
                refine Hb.take (v := .bool true) 1 123 rfl ?_ (fun _ _ => rfl)
                refine Hb.take (v := .bool false) 2 124 rfl ?_ (fun w' hw' => by go_simp; first | done | rfl | omega | exact wrap_in (by omega) (by omega) | exact Int.tmod_eq_emod_of_nonneg (by omega) | exact Int.tdiv_eq_ediv_of_nonneg (by omega) | (simp; omega))
                refine Hb.take (v := .bool false) 3 125 rfl ?_ (fun _ _ => rfl)
                refine Hb.take (v := .bool true) 4 126 rfl ?_ (fun _ _ => rfl)
                refine Hb.take (v := .bool true) 5 127 rfl ?_ (fun _ _ => rfl)
                refine Hb.take (v := .slice A6 (PMsg.enc q.m).length c6) 6 128 rfl ?_ (fun _ _ => rfl)
                refine Hb.take (v := .string (strOfNums (PMsg.enc q.m))) 7 129 rfl ?_ (fun w' hw' => by exact run_toStrOp 5 rfl (R6.out.drew.below hw') Tryd.underlying35 Tryd.underlying5 Tryd.underlying9)
                refine Hb.take (v := .slice (some ⟨b, o, none⟩) Q.length c) 8 130 rfl ?_ (fun _ _ => rfl)
                refine Hb.take (v := .pointer (some ⟨gO, 1, none⟩)) 9 131 rfl ?_ (fun w' hw' => by go_simp; first | done | rfl | omega | exact wrap_in (by omega) (by omega) | exact Int.tmod_eq_emod_of_nonneg (by omega) | exact Int.tdiv_eq_ediv_of_nonneg (by omega) | (simp; omega))
                refine Hb.take (v := .int .i64 (k : Nat)) 10 132 rfl ?_ (fun w' hw' => by have hc := (Blk.past (show Blk w6.drew gO _ _ from KO6.out) hw').cell (i := 1) rfl; go_simp)
                refine Hb.take (v := .pointer (some ⟨b, o + k * 13, none⟩)) 11 133 rfl ?_ (fun w' hw' => by go_simp; first | done | rfl | omega | exact wrap_in (by omega) (by omega) | exact Int.tmod_eq_emod_of_nonneg (by omega) | exact Int.tdiv_eq_ediv_of_nonneg (by omega) | (simp; omega))
                refine Hb.take (v := mv q.m q.A q.c) 12 134 rfl ?_ (fun w' hw' => by exact run_loadMr (rangeAt_below (show w6.drew.rangeAt _ _ _ from G6.out) hw' HBL.out) rfl)
                refine Hb.call (f := 15) (args := #[mv q.m q.A q.c]) 13 135 rfl ?_ (run_callf Tryd.func15 (by kernel_rfl) (by kernel_rfl) (by simp only [List.map_toArray, List.map_cons, List.map_nil]; rfl))
                refine (rBytes_c w6.drew q.m q.A q.c E6.out.drew).mono ?_
                rintro y w7 ⟨A7, c7, rfl, o7, b7⟩
                have R7 := Lib.hid (Rd.of_own o7)
                have B7 := Lib.hid (show Below w6.heap.size w6 w7 from (Below.refl _ _).drew.trans b7)
                refine Hb.back b7 b7.size ?_
                refine Hb.take (v := .string (strOfNums (PMsg.enc q.m))) 14 136 rfl ?_ (fun w' hw' => by exact run_toStrOp 5 rfl (R7.out.below hw') Tryd.underlying35 Tryd.underlying5 Tryd.underlying9)
                refine Hb.take (v := .bool false) 15 137 rfl ?_ (fun w' hw' => by exact run_strNe rfl rfl (by simp))
                refine Hb.take (v := .bool false) 16 138 rfl ?_ (fun _ _ => rfl)
                refine Hb.take (v := .bool false) 17 139 rfl ?_ (fun _ _ => rfl)
                refine Hb.take (v := .bool false) 18 140 rfl ?_ (fun _ _ => rfl)
                refine Hb.take (v := .bool true) 19 141 rfl ?_ (fun _ _ => rfl)
                refine Hb.take (v := .bool false) 20 142 rfl ?_ (fun w' hw' => by go_simp; first | done | rfl | omega | exact wrap_in (by omega) (by omega) | exact Int.tmod_eq_emod_of_nonneg (by omega) | exact Int.tdiv_eq_ediv_of_nonneg (by omega) | (simp; omega))
                refine Hb.take (v := .bool false) 21 143 rfl ?_ (fun _ _ => rfl)
                refine Hb.pass 22 144 rfl ?_
                refine Hb.pass 23 145 rfl ?_
                refine Hb.pass 24 146 rfl ?_
                refine Hb.take (v := Value.bool false) 25 147 rfl ?_ (fun _ _ => rfl)
                refine Hb.take (v := Value.bool false) 26 148 rfl ?_ (fun _ _ => rfl)
                refine Hb.done ?_
-- END
                have NA8 := Lib.hid (show Na w w7 g (some ⟨b, o, none⟩) c Q from ⟨S6.out.past B7.out, M6.out.past B7.out⟩)
                have KO7 := Lib.hid (KO6.out.past B7.out)
                have ko := KO7.out.cell (i := 0) rfl
                clear R6 S6 M6 KO6 G6 E6 HBL
                go_wp2_with fail
                refine (NA8.out.sn.len).mono ?_
                rw [List.length_map]
                rintro y w9 ⟨rfl, rfl⟩
                go_wp2_with fail
                go_roundg (on - (i + 1))
                case measure => omega
                case rel => exact ⟨i + 1, some ⟨b, o, none⟩, c, Q, rfl, by omega, by omega, by go_num, rfl, by omega, NA8⟩
          cases ib
          · as_aux_lemma =>
              have hno : ¬ (0 ≤ id ∧ id < (((Q.map Mp.m).length : Nat) : Int)) := fun h => by
                rw [List.length_map] at h
                exact Bool.noConfusion (hib.2 h)
              have e0 : (kd == 0) = false := by simpa using k0
              have e1 : (kd == 1) = false := by simpa using k1
              have e2 : (kd == 2) = false := by simpa using k2
              clear hib k0 k1 k2
              have kI := KO4.out.cell (i := 1) rfl
              go_wp2_with fail
              refine (AS4.out.sn.drop_out hno).mono ?_
              rintro y w5 ⟨rfl, rfl⟩
              have NA8 := Lib.hid AS4.out
              go_wp2_with fail
              refine (NA8.out.sn.len).mono ?_
              rw [List.length_map]
              rintro y w9 ⟨rfl, rfl⟩
              go_wp2_with fail
              go_roundg (on - (i + 1))
              case measure => omega
              case rel => exact ⟨i + 1, A, c, Q, rfl, by omega, by omega, by go_num, rfl, by omega, NA8⟩
          · as_aux_lemma =>
              have hib2 := hib.1 rfl
              obtain ⟨k, rfl⟩ := Int.eq_ofNat_of_zero_le hib2.1
              have hk : k < Q.length := by have := hib2.2; omega
              clear hib hib2
              obtain ⟨q, hq0⟩ : ∃ q, Q[k]? = some q := ⟨_, List.getElem?_eq_getElem hk⟩
              have HXM := Lib.hid (show (Q.map Mp.m)[k]? = some q.m by rw [List.getElem?_map, hq0]; rfl)
              have HQ0 := Lib.hid hq0
              clear hq0
              have e0 : (kd == 0) = false := by simpa using k0
              have e1 : (kd == 1) = false := by simpa using k1
              have e2 : (kd == 2) = false := by simpa using k2
              clear k0 k1 k2
              have kI := KO4.out.cell (i := 1) rfl
              go_wp2_with fail
              refine (AS4.out.sn.drop_in (i := k) (by rw [List.length_map]; exact hk)).mono ?_
              rintro y w7 ⟨rfl, s7, n7⟩
              have S7 := Lib.hid s7
              have M7 := Lib.hid (n7.ms AS4.out.ms)
              have KO7 := Lib.hid (n7.blk KO4.out (by decide) (by decide) (by decide))
              clear s7 n7 AS4 KO4 ko kI
              obtain ⟨b, o, q', rfl, -, -, -, -, -⟩ := M7.out.at_ hk
              have hcap := M7.out.cap
              go_wp2_with fail
              have HH7 := Lib.hid (show Ow w7.drew _ _ _ _ _ _ _ from M7.out.head (Nat.le_of_lt hk))
              obtain ⟨X, hX⟩ : ∃ X, (if c = k + 1 then (some ⟨b, o, none⟩ : Option Addr) else (some ⟨b, o, none⟩ : Option Addr).map (·.add ((k + 1) * 13))) = X := ⟨_, rfl⟩
              have HR7 := Lib.hid (show Rd w7.drew _ _ _ _ _ _ from by have := (M7.out.rest hk).drew; rw [hX] at this; exact this)
              have HX := Lib.hid hX
              clear hX
              have HSZ := Lib.hid (show w.heap.size ≤ w7.drew.heap.size from S7.out.bel.size)
-- REGION curfew/curfewlaw18.NetAll 15 nall15 14
              refine Hb.begin ?_
              refine Hb.take 0 54 rfl ?_ (fun w' hw' => by go_simp; first | done | rfl)
              refine Hb.take (v := .pointer (some ⟨gO, 1, none⟩)) 1 55 rfl ?_ (fun w' hw' => by go_simp; first | done | rfl | omega | exact wrap_in (by omega) (by omega) | exact Int.tmod_eq_emod_of_nonneg (by omega) | exact Int.tdiv_eq_ediv_of_nonneg (by omega) | (simp; omega))
              refine Hb.take (v := .int .i64 (k : Nat)) 2 56 rfl ?_ (fun w' hw' => by have hc := (Blk.past (show Blk w7.drew gO _ _ from KO7.out) hw').cell (i := 1) rfl; go_simp)
              refine Hb.take (v := .pointer (some ⟨gO, 1, none⟩)) 3 57 rfl ?_ (fun w' hw' => by go_simp; first | done | rfl | omega | exact wrap_in (by omega) (by omega) | exact Int.tmod_eq_emod_of_nonneg (by omega) | exact Int.tdiv_eq_ediv_of_nonneg (by omega) | (simp; omega))
              refine Hb.take (v := .int .i64 (k : Nat)) 4 58 rfl ?_ (fun w' hw' => by have hc := (Blk.past (show Blk w7.drew gO _ _ from KO7.out) hw').cell (i := 1) rfl; go_simp)
              refine Hb.take (v := .slice (some ⟨b, o, none⟩) k k) 5 59 rfl ?_ (fun w' hw' => by exact run_headOp 31 Tryd.underlying26 nMsg_info (by omega) rfl rfl rfl)
              refine Hb.take 6 60 rfl ?_ (fun w' hw' => by go_simp; first | done | rfl)
              refine Hb.take (v := .pointer (some ⟨gO, 1, none⟩)) 7 61 rfl ?_ (fun w' hw' => by go_simp; first | done | rfl | omega | exact wrap_in (by omega) (by omega) | exact Int.tmod_eq_emod_of_nonneg (by omega) | exact Int.tdiv_eq_ediv_of_nonneg (by omega) | (simp; omega))
              refine Hb.take (v := .int .i64 (k : Nat)) 8 62 rfl ?_ (fun w' hw' => by have hc := (Blk.past (show Blk w7.drew gO _ _ from KO7.out) hw').cell (i := 1) rfl; go_simp)
              refine Hb.take (v := .int .i64 ((k + 1 : Nat) : Int)) 9 63 rfl ?_ (fun w' hw' => by go_simp; first | done | rfl | omega | exact wrap_in (by omega) (by omega) | exact Int.tmod_eq_emod_of_nonneg (by omega) | exact Int.tdiv_eq_ediv_of_nonneg (by omega) | (simp; omega))
              refine Hb.take (v := .slice X (Q.length - (k + 1)) (c - (k + 1))) 10 64 rfl ?_ (fun w' hw' => by rw [← HX.out]; exact run_restOp 31 Tryd.underlying26 nMsg_info (by omega) (by omega) rfl rfl)
              refine Hb.only 11 (some 65) rfl ?_
              refine wpList_appH rfl (.tmp 59) (.tmp 64) 26 rfl w.heap.size 31 _ 13 120 Tryd.underlying26 nMsg_info rfl (by omega) (some ⟨b, o, none⟩) k k (mgs (Q.take k)) rfl HH7.out _ _ _ (Q.length - (k + 1)) (mgs (Q.drop (k + 1))) rfl HR7.out (mgs_oneCell _) (by unfold maxLen; omega) (by omega) HSZ.out rfl ?_
              intro A8 c8 w8 O8 g8
              have b8 := below_none g8
              refine Hb.next b8 b8.size ?_ (by simp only [Act.put, List.setIfInBounds_toArray, List.set_cons_succ, List.set_cons_zero]; rfl)
              refine Hb.take (v := .slice A8 (k + (Q.length - (k + 1)) : Nat) c8) 12 5 rfl ?_ (fun _ _ => rfl)
              refine Hb.done ?_
-- END
              have E8 := Lib.hid (show k + (Q.length - (k + 1)) = (Q.take k ++ Q.drop (k + 1)).length by simp; omega)
              have B8 := Lib.hid (show Below w7.heap.size w7 w8 from (Below.refl _ _).drew.trans b8)
              have NA8 := Lib.hid (show Na w w8 g A8 c8 (Q.take k ++ Q.drop (k + 1)) from ⟨by rw [← PNet.del_map]; exact S7.out.past B8.out, M7.out.del B8.out hk O8⟩)
              clear b8 O8 g8 S7 M7 HH7 HR7 KO7
              go_wp2_with fail
              refine (NA8.out.sn.len).mono ?_
              rw [List.length_map, ← E8.out]
              rintro y w9 ⟨rfl, rfl⟩
              go_wp2_with fail
              go_roundg (on - (i + 1))
              case measure => omega
              case rel => exact ⟨i + 1, A8, c8, Q.take k ++ Q.drop (k + 1), rfl, by omega, by omega, by go_num, by rw [← E8.out], by rw [← E8.out]; omega, NA8⟩
      · have t1 : ¬ (i : Int) < 50 := by omega
        as_aux_lemma =>
          go_wp2_with fail
          go_loopg [15] (Q.length + 2) (fun k s15 wy => ∃ v : Int, k = ((Q.length : Int) + 1 - v).toNat ∧ -1 ≤ v ∧ v ≤ (Q.length : Int) + 1 ∧ s15 = .int .i64 v ∧ Hid (Na w wy g A c Q))
          case atStart => exact ⟨-1, by omega, by omega, by omega, rfl, AS⟩
          case round =>
            clear AS
            obtain ⟨v, rfl, hv1, hv2, rfl, AS⟩ := hrel
            have hcap := AS.out.ms.cap
            by_cases hle : v ≤ (Q.length : Int)
            · by_cases h0 : 0 ≤ v
              · by_cases hlt : v < (Q.length : Int)
                · obtain ⟨j, rfl⟩ := Int.eq_ofNat_of_zero_le h0
                  have hj : j < Q.length := by omega
                  obtain ⟨b, o, q, rfl, -, hq0, -, hg, -⟩ := AS.out.ms.at_ hj
                  have HXM := Lib.hid (show (Q.map Mp.m)[j]? = some q.m by rw [List.getElem?_map, hq0]; rfl)
                  have c2 := hg 2 _ rfl
                  clear hq0 hg
                  go_wp2_with fail
                  refine (AS.out.sn.to_in HXM.out).mono ?_
                  rintro y w5 ⟨rfl, rfl⟩
                  go_wp2_with fail
                  go_roundg (((Q.length : Int) + 1 - ((j : Int) + 1)).toNat)
                  case measure => omega
                  case rel => exact ⟨(j : Int) + 1, rfl, by omega, by omega, by go_num, AS⟩
                · have h3 : (Q.length : Int) ≤ v := by omega
                  go_wp2_with fail
                  refine (AS.out.sn.to_out (i := v) (by rw [List.length_map]; omega)).mono ?_
                  rintro y w5 ⟨rfl, rfl⟩
                  go_wp2_with fail
                  go_roundg (((Q.length : Int) + 1 - (v + 1)).toNat)
                  case measure => omega
                  case rel => exact ⟨v + 1, rfl, by omega, by omega, by go_num, AS⟩
              · go_wp2_with fail
                refine (AS.out.sn.to_out (i := v) (by omega)).mono ?_
                rintro y w5 ⟨rfl, rfl⟩
                go_wp2_with fail
                go_roundg (((Q.length : Int) + 1 - (v + 1)).toNat)
                case measure => omega
                case rel => exact ⟨v + 1, rfl, by omega, by omega, by go_num, AS⟩
            · go_wp2_with fail
              go_ret
              exact ⟨rfl, AS.out.sn.bel⟩
    · as_aux_lemma =>
        go_wp2_with fail
        go_loopg [15] (Q.length + 2) (fun k s15 wy => ∃ v : Int, k = ((Q.length : Int) + 1 - v).toNat ∧ -1 ≤ v ∧ v ≤ (Q.length : Int) + 1 ∧ s15 = .int .i64 v ∧ Hid (Na w wy g A c Q))
        case atStart => exact ⟨-1, by omega, by omega, by omega, rfl, AS⟩
        case round =>
          clear AS
          obtain ⟨v, rfl, hv1, hv2, rfl, AS⟩ := hrel
          have hcap := AS.out.ms.cap
          by_cases hle : v ≤ (Q.length : Int)
          · by_cases h0 : 0 ≤ v
            · by_cases hlt : v < (Q.length : Int)
              · obtain ⟨j, rfl⟩ := Int.eq_ofNat_of_zero_le h0
                have hj : j < Q.length := by omega
                obtain ⟨b, o, q, rfl, -, hq0, -, hg, -⟩ := AS.out.ms.at_ hj
                have HXM := Lib.hid (show (Q.map Mp.m)[j]? = some q.m by rw [List.getElem?_map, hq0]; rfl)
                have c2 := hg 2 _ rfl
                clear hq0 hg
                go_wp2_with fail
                refine (AS.out.sn.to_in HXM.out).mono ?_
                rintro y w5 ⟨rfl, rfl⟩
                go_wp2_with fail
                go_roundg (((Q.length : Int) + 1 - ((j : Int) + 1)).toNat)
                case measure => omega
                case rel => exact ⟨(j : Int) + 1, rfl, by omega, by omega, by go_num, AS⟩
              · have h3 : (Q.length : Int) ≤ v := by omega
                go_wp2_with fail
                refine (AS.out.sn.to_out (i := v) (by rw [List.length_map]; omega)).mono ?_
                rintro y w5 ⟨rfl, rfl⟩
                go_wp2_with fail
                go_roundg (((Q.length : Int) + 1 - (v + 1)).toNat)
                case measure => omega
                case rel => exact ⟨v + 1, rfl, by omega, by omega, by go_num, AS⟩
            · go_wp2_with fail
              refine (AS.out.sn.to_out (i := v) (by omega)).mono ?_
              rintro y w5 ⟨rfl, rfl⟩
              go_wp2_with fail
              go_roundg (((Q.length : Int) + 1 - (v + 1)).toNat)
              case measure => omega
              case rel => exact ⟨v + 1, rfl, by omega, by omega, by go_num, AS⟩
          · go_wp2_with fail
            go_ret
            exact ⟨rfl, AS.out.sn.bel⟩
end Go.Proofs.YtkckibcfanaglaaDoor

