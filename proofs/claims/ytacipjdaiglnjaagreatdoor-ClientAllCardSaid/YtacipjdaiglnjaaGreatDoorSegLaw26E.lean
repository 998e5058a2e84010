/- The walk of ClientAll. -/
import Derived.Test.YtacipjdaiglnjaaGreatDoorSeg26
import Derived.Test.YtacipjdaiglnjaaGreatDoorSegCliO
import Derived.Deep.CutRange
import Derived.Deep.CutBlock
import Derived.Deep.MidRow
namespace Go.Proofs.YtacipjdaiglnjaaGreatDoor
open Go.RowKit PNode

theorem Sw.le {j j' : Nat} {p : Np} (s : Sw j p) (h : j ≤ j') : Sw j' p := by
  induction h with
  | refl => exact s
  | step _ ih => exact ih.more
theorem lostC_in {l er : Int} {j : Nat} (h : 0 ≤ l ∧ l ≤ j) : 0 ≤ lostC l er ∧ lostC l er ≤ (j + 1 : Nat) := by unfold lostC; split <;> omega
theorem tls_cons (l : List PReady.Tl) : ∀ u ∈ tls l, u.oneCell' = true := tls_one l
/-- A process, who asks it, and what he polled. -/
structure Av (w0 w : World) (x d g : Nat) (p : Np) (j : Nat) (k l : Int) (AA : Option Addr) (nn cc : Nat) : Prop where
  la : La w0 w x d g (bl AA) p k l
  s : Sw j p
  k : (nn : Int) = k
  kT : nn ≤ p.T.length
  l : 0 ≤ l ∧ l ≤ j
  ow : Ow w w0.heap.size 95 8 AA nn cc (tls (p.T.take nn))
section
variable {w0 w w' : World} {x d g j : Nat} {p p' : Np} {k l : Int} {AA : Option Addr} {nn cc : Nat}
theorem pre_take {T T' : List PReady.Tl} {n : Nat} (h : T <+: T') (hn : n ≤ T.length) : T'.take n = T.take n := by
  obtain ⟨u, rfl⟩ := h
  exact List.take_append_of_le_length hn
theorem Av.go {l' : Int} {j' : Nat} (h : Av w0 w x d g p j k l AA nn cc) (h1 : La w0 w' x d g (bl AA) p' k l') (h2 : Sty (bl AA) w w') (h3 : Sw j' p') (h4 : p.T <+: p'.T) (h5 : 0 ≤ l' ∧ l' ≤ j') : Av w0 w' x d g p' j' k l' AA nn cc :=
  ⟨h1, h3, h.k, Nat.le_trans h.kT h4.length_le, h5, by rw [pre_take h4 h.kT]; exact h2.ow (fun b hb => hb) h.ow⟩
theorem Av.past (h : Av w0 w x d g p j k l AA nn cc) (hb : Below w.heap.size w w') : Av w0 w' x d g p j k l AA nn cc := ⟨h.la.past hb, h.s, h.k, h.kT, h.l, h.ow.past hb⟩
theorem Av.bel (h : Av w0 w x d g p j k l AA nn cc) : Below w0.heap.size w0 w := h.la.bel
theorem Av.more (h : Av w0 w x d g p j k l AA nn cc) {j' : Nat} (hj : Sw j' p) (hjj : j ≤ j') : Av w0 w x d g p j' k l AA nn cc := ⟨h.la, hj, h.k, h.kT, by have := h.l; omega, h.ow⟩
/-- Another block of the law's own was written. -/
theorem Av.other (h : Av w0 w x d g p j k l AA nn cc) {b : Nat} {t : TypeId} {ys : List Value} (K : Blk w b t ys) (h1 : okN t = false) (h2 : 89 ≠ t) (h3 : 95 ≠ t) (hb : w0.heap.size ≤ b) (T : Touch [b] w w') : Av w0 w' x d g p j k l AA nn cc := by
  obtain ⟨F, f1, f2, f3⟩ := h.la.ex
  have hF : b ∉ F := f1.off K h1
  have hg : g ∉ [b] := fun hm => Blk.ne h.la.cl K h2 (List.mem_singleton.1 hm)
  have hA : bk AA ≠ some b := h.ow.ne K h3
  refine ⟨⟨⟨F, f1.touch T (fun z hz => by rw [List.mem_singleton.1 hz]; exact hF), f2, f3⟩, Blk.touch h.la.cl T hg, h.la.gl, h.la.gB, fun z hz => Nat.lt_of_lt_of_le (h.la.hB z hz) T.size, h.la.bel.trans (T.below (fun z hz => by rw [List.mem_singleton.1 hz]; exact hb) h.la.bel.size)⟩, h.s, h.k, h.kT, h.l, h.ow.touch T (fun z hz => by rw [List.mem_singleton.1 hz]; exact hA)⟩
/-- What was polled is put behind. -/
theorem Av.app {T2 : World} (h : Av w0 w x d g p j k l AA nn cc) {AA' : Option Addr} {cc' : Nat} (h1 : La w0 w' x d g (bl AA) p p.T.length l)
    (o : Ow T2 w0.heap.size 95 8 AA' (nn + (p.T.drop nn).length) cc' (tls (p.T.take nn) ++ tls (p.T.drop nn))) (gr : w'.grownBy T2 (bk AA)) (hg : ∀ z, bk AA' = some z → bk AA = some z ∨ w'.heap.size ≤ z) :
    Av w0 T2 x d g p j p.T.length l AA' (nn + (p.T.drop nn).length) cc' := by
  have e1 : nn + (p.T.drop nn).length = p.T.length := by rw [List.length_drop]; have := h.kT; omega
  have e2 : tls (p.T.take nn) ++ tls (p.T.drop nn) = tls p.T := by rw [← tls_append, List.take_append_drop]
  rw [e1, e2] at o
  rw [e1]
  refine ⟨h1.beside (Touch.of_bk gr) (fun s hs => ⟨h.ow.low s (mem_bl.1 hs), hs⟩) (fun b hb => ?_), h.s, rfl, Nat.le_refl _, h.l, by rw [List.take_length]; exact o⟩
  rcases hg b (mem_bl.1 hb) with h2 | h2
  · exact .inl (mem_bl.2 h2)
  · exact .inr ⟨h2, o.hi b (mem_bl.1 hb)⟩
end

set_option maxHeartbeats 16000000 in
set_option maxRecDepth 100000 in
theorem ClientAll_w (w : World) (ht : Tab w) (A0 : Option Addr) (n c0 : Nat) (z : List Value) (h0 : Rd w w.heap.size A0 c0 19 n z) (hz : AllL w z) :
    Calls Tryz.prog 3 #[.slice A0 n c0] w fun e w' => e = .returned (.bool true) ∧ Below w.heap.size w w' := by
  have HT := Lib.hid ht
  have R0 := Lib.hid h0
  have Z0 := Lib.hid hz
  clear ht h0 hz
  go_enter Tryz.func3, Tryz.ntmps3
  go_wp2_with fail
  refine (bgn_c w HT.out).mono ?_
  rintro e w1 ⟨rfl, b1⟩
  have T1 := Lib.hid (HT.out.past b1)
  have B1 := Lib.hid b1
  clear b1
  go_wp2_with fail
  refine (trio_c w1 T1.out).mono ?_
  rintro e w2 ⟨x, d, g, rfl, h2, hr⟩
  have H2 := Lib.hid (show Av w1 w2 x d g stI (4 * 0) 0 0 none 0 0 from ⟨h2, .inl ⟨_, ld0 hr⟩, rfl, Nat.zero_le _, by simp, Ow.nil _ _ _ _⟩)
  clear h2 hr
  go_wp2_with fail
  go_loopw [6, 7, 8] (fun s6 s7 s8 wr => ∃ (i : Nat) (p : Np) (k l : Int) (AA : Option Addr) (nn cc : Nat), s6 = .int .i64 l ∧ s7 = .slice AA nn cc ∧ s8 = .int .i64 (i : Int) ∧ i ≤ n ∧ i ≤ 40 ∧ Hid (Av w1 wr x d g p (4 * i) k l AA nn cc)) (fun _ _ s8 _ => (40 - intOf s8).toNat)
  case atStart => exact ⟨0, stI, 0, 0, none, 0, 0, rfl, rfl, rfl, Nat.zero_le _, Nat.zero_le _, H2⟩
  case round =>
    obtain ⟨i, p, k, l, AA, nn, cc, rfl, rfl, rfl, hi, hi2, H4⟩ := hrel
    clear H2
    by_cases hlt : i < n ∧ i < 40
    · obtain ⟨hlt, hlt2⟩ := hlt
      obtain ⟨bo, oo, kd, kk, m, MA, mc, fit, ord, lev, dt, hA, hrg, hdt⟩ := R0.out.lop Z0.out (B1.out.trans (H4.out.bel.mono B1.out.size)) hlt
      subst hA
      have HRG := Lib.hid (show wr.rangeAt bo (oo + i * 19) [.int .i64 kd, .int .i64 kk, .int .i64 m.kind, .int .i64 m.fr, .int .i64 m.dst, .int .i64 m.boot, .int .i64 m.view, .int .i64 m.last, .int .i64 m.mem, .int .i64 m.pos, .slice MA m.es.length mc, .int .i64 m.com, .int .i64 m.num, .int .i64 m.clk, .bool m.yes, .bool fit, .int .i64 ord, .int .i64 lev, .string dt] from hrg)
      have K0 := Blk.new wr #[.int .i64 0, .int .i64 0, .int .i64 0, .int .i64 0, .int .i64 0, .int .i64 0, .int .i64 0, .int .i64 0, .int .i64 0, .int .i64 0, .slice none 0 0, .int .i64 0, .int .i64 0, .int .i64 0, .bool false, .bool false, .int .i64 0, .int .i64 0, .string ⟨#[]⟩] 33
      have b0 := (Below.refl wr.heap.size wr).alloc (Nat.le_refl _) (.cells #[.int .i64 0, .int .i64 0, .int .i64 0, .int .i64 0, .int .i64 0, .int .i64 0, .int .i64 0, .int .i64 0, .int .i64 0, .int .i64 0, .slice none 0 0, .int .i64 0, .int .i64 0, .int .i64 0, .bool false, .bool false, .int .i64 0, .int .i64 0, .string ⟨#[]⟩] 33)
      have b4 := b0.trans (grown_below (grown_row (wr.alloc (.cells #[.int .i64 0, .int .i64 0, .int .i64 0, .int .i64 0, .int .i64 0, .int .i64 0, .int .i64 0, .int .i64 0, .int .i64 0, .int .i64 0, .slice none 0 0, .int .i64 0, .int .i64 0, .int .i64 0, .bool false, .bool false, .int .i64 0, .int .i64 0, .string ⟨#[]⟩] 33)) wr.heap.size #[.int .i64 kd, .int .i64 kk, .int .i64 m.kind, .int .i64 m.fr, .int .i64 m.dst, .int .i64 m.boot, .int .i64 m.view, .int .i64 m.last, .int .i64 m.mem, .int .i64 m.pos, .slice MA m.es.length mc, .int .i64 m.com, .int .i64 m.num, .int .i64 m.clk, .bool m.yes, .bool fit, .int .i64 ord, .int .i64 lev, .string dt]) (Nat.le_refl _) b0.size)
      have KZ := Lib.hid K0
      have KO4 := Lib.hid (show Blk ((wr.alloc (.cells #[.int .i64 0, .int .i64 0, .int .i64 0, .int .i64 0, .int .i64 0, .int .i64 0, .int .i64 0, .int .i64 0, .int .i64 0, .int .i64 0, .slice none 0 0, .int .i64 0, .int .i64 0, .int .i64 0, .bool false, .bool false, .int .i64 0, .int .i64 0, .string ⟨#[]⟩] 33)).setRow wr.heap.size #[.int .i64 kd, .int .i64 kk, .int .i64 m.kind, .int .i64 m.fr, .int .i64 m.dst, .int .i64 m.boot, .int .i64 m.view, .int .i64 m.last, .int .i64 m.mem, .int .i64 m.pos, .slice MA m.es.length mc, .int .i64 m.com, .int .i64 m.num, .int .i64 m.clk, .bool m.yes, .bool fit, .int .i64 ord, .int .i64 lev, .string dt]) wr.heap.size 33 (lopc kd kk m MA mc fit ord lev dt) from K0.row #[.int .i64 kd, .int .i64 kk, .int .i64 m.kind, .int .i64 m.fr, .int .i64 m.dst, .int .i64 m.boot, .int .i64 m.view, .int .i64 m.last, .int .i64 m.mem, .int .i64 m.pos, .slice MA m.es.length mc, .int .i64 m.com, .int .i64 m.num, .int .i64 m.clk, .bool m.yes, .bool fit, .int .i64 ord, .int .i64 lev, .string dt])
      have H5 := Lib.hid (H4.out.past b4)
      have t1 : (i : Int) < 40 := by omega
      have hw1 := H4.out.bel.size
      clear b0 K0 b4 hrg H4
      have ko := KO4.out.cell (i := 0) rfl
      go_upto_block 2 with (first | ((with_reducible show wpList _ _ _ ((⟨none, Op.store 33 (.tmp 9) _, _, _, _, _⟩ : Oper) :: _) _ _); go_must (refine wpList_store_row rfl 33 (.tmp 9) (.tmp 43) rfl wr.heap.size _ rfl rfl _ _ KZ.out (by kernel_rfl) (by rfl) (by kernel_rfl) ?_)) | ((with_reducible show wpList _ _ _ ((⟨some 43, Op.load _ _, _, _, _, _⟩ : Oper) :: _) _ _); go_must (refine wpList_load_mid rfl 33 (.tmp 42) rfl bo (oo + i * 19) rfl ([.int .i64 kd, .int .i64 kk, .int .i64 m.kind, .int .i64 m.fr, .int .i64 m.dst, .int .i64 m.boot, .int .i64 m.view, .int .i64 m.last, .int .i64 m.mem, .int .i64 m.pos, .slice MA m.es.length mc, .int .i64 m.com, .int .i64 m.num, .int .i64 m.clk, .bool m.yes, .bool fit, .int .i64 ord, .int .i64 lev, .string dt]) _ HRG.out Tryz.underlying33 rfl (by kernel_rfl) ?_)))
      clear KZ HRG ko
      generalize (wr.alloc (.cells #[.int .i64 0, .int .i64 0, .int .i64 0, .int .i64 0, .int .i64 0, .int .i64 0, .int .i64 0, .int .i64 0, .int .i64 0, .int .i64 0, .slice none 0 0, .int .i64 0, .int .i64 0, .int .i64 0, .bool false, .bool false, .int .i64 0, .int .i64 0, .string ⟨#[]⟩] 33)).setRow wr.heap.size #[.int .i64 kd, .int .i64 kk, .int .i64 m.kind, .int .i64 m.fr, .int .i64 m.dst, .int .i64 m.boot, .int .i64 m.view, .int .i64 m.last, .int .i64 m.mem, .int .i64 m.pos, .slice MA m.es.length mc, .int .i64 m.com, .int .i64 m.num, .int .i64 m.clk, .bool m.yes, .bool fit, .int .i64 ord, .int .i64 lev, .string dt] = w4 at *
      have HGO := Lib.hid (show w1.heap.size ≤ wr.heap.size from hw1)
      clear hw1
      generalize wr.heap.size = gO at *
      go_cut [6] from 46 to 193 (fun s6 wx => ∃ (p' : Np) (l' : Int), s6 = .int .i64 l' ∧ Hid (Av w1 wx x d g p' (4 * i + 2) k l' AA nn cc))
      case first =>
        as_aux_lemma =>
          have hl5 := H5.out.l
          have hl50 := hl5.1
          have hl51 : l ≤ 1000 := by omega
          by_cases k0 : kd = 0
          · subst k0
            go_wp2_with fail
            refine (H5.out.la.post (fun F hF => hF.tickW H5.out.s (by omega))).mono ?_
            rintro e w6 ⟨Q, p6, A6, c6, ⟨q1, q2, q3⟩, rfl, o6, h6, y6⟩
            have H6 := Lib.hid (H5.out.go (j' := 4 * i + 2) h6 y6 (q1.le (by omega)) q2 (by omega))
            clear q1 q2 q3 o6 h6 y6 H5 KO4
            go_wp2_with fail
            go_meet
            case rel => exact ⟨p6, l, rfl, H6⟩
          · by_cases k1 : kd = 1
            · subst k1
              go_wp2_with fail
              refine (H5.out.la.post (fun F hF => hF.tickW H5.out.s (by omega))).mono ?_
              rintro e w6 ⟨Q, p6, A6, c6, ⟨q1, q2, q3⟩, rfl, o6, h6, y6⟩
              have H6 := Lib.hid (H5.out.go (j' := 4 * i + 1) h6 y6 q1 q2 (by omega))
              have O6 := Lib.hid o6
              have Q6 := Lib.hid q3
              clear q1 q2 q3 o6 h6 y6 H5 KO4
              go_wp2_with fail
              refine (H6.out.la.acksW H6.out.s (by omega) T1.out O6.out Q6.out).mono ?_
              rintro e w7 ⟨p7, rfl, s7, x7, h7, y7⟩
              have H7 := Lib.hid (H6.out.go (j' := 4 * i + 2) h7 y7 s7 x7 (by omega))
              clear s7 x7 h7 y7 H6 O6 Q6
              go_wp2_with fail
              go_meet
              case rel => exact ⟨p7, l, rfl, H7⟩
            · have k0' : (kd == 0) = false := by simpa using k0
              have k1' : (kd == 1) = false := by simpa using k1
              have k16 := KO4.out.cell (i := 16) rfl
              have k17 := KO4.out.cell (i := 17) rfl
              have k18 := KO4.out.cell (i := 18) rfl
              have f18 := KO4.out.free 18
              by_cases hs : 20 < dt.size
              · have hs' : (20 : Int) < (dt.size : Int) := by omega
                have KX := Lib.hid (KO4.out.set 18 (.string (dt.extract 0 20)))
                have H5x := Lib.hid (H5.out.other KO4.out rfl (by decide) (by decide) HGO.out ((Touch.refl [gO] w4).cell (g := gO) (by simp) 18 (.string (dt.extract 0 20))))
                have x16 := KX.out.cell (i := 16) rfl
                have x17 := KX.out.cell (i := 17) rfl
                have x18 := KX.out.cell (i := 18) rfl
                clear H5
                go_wp2_with fail
                clear x16 x17 x18 k16 k17 k18 f18 KX KO4
                generalize (w4.setCell ⟨gO, 18, none⟩ (.string (dt.extract 0 20))) = w5 at *
                refine (H5x.out.la.cast ord lev (dt.extract 0 20) hl50 (by omega)).mono ?_
                rintro e w6 ⟨er, p6, q6, rfl, h6, y6⟩
                obtain ⟨s6, e6⟩ := H5x.out.s.cast q6
                have H6 := Lib.hid (H5x.out.go (j' := 4 * i + 2) h6 y6 (s6.le (by omega)) (by rw [e6]; exact List.prefix_refl _) (by have := lostC_in (er := er) hl5; omega))
                clear q6 h6 y6 s6 e6 H5x
                by_cases he : er = 0
                · subst he
                  go_wp2_with fail
                  go_meet
                  case rel => exact ⟨p6, l, rfl, H6⟩
                · have he' : (er != 0) = true := by simpa using he
                  have H7 := Lib.hid (show Av w1 w6 x d g p6 (4 * i + 2) k (l + 1) AA nn cc from by have := H6.out; unfold lostC at this; rw [if_neg he] at this; exact this)
                  clear H6
                  go_wp2_with fail
                  go_meet
                  case rel => exact ⟨p6, l + 1, rfl, H7⟩
              · have hs' : ¬ (20 : Int) < (dt.size : Int) := by omega
                go_wp2_with fail
                refine (H5.out.la.cast ord lev dt hl50 (by omega)).mono ?_
                rintro e w6 ⟨er, p6, q6, rfl, h6, y6⟩
                obtain ⟨s6, e6⟩ := H5.out.s.cast q6
                have H6 := Lib.hid (H5.out.go (j' := 4 * i + 2) h6 y6 (s6.le (by omega)) (by rw [e6]; exact List.prefix_refl _) (by have := lostC_in (er := er) hl5; omega))
                clear q6 h6 y6 s6 e6 H5 KO4 k16 k17 k18 f18
                by_cases he : er = 0
                · subst he
                  go_wp2_with fail
                  go_meet
                  case rel => exact ⟨p6, l, rfl, H6⟩
                · have he' : (er != 0) = true := by simpa using he
                  have H7 := Lib.hid (show Av w1 w6 x d g p6 (4 * i + 2) k (l + 1) AA nn cc from by have := H6.out; unfold lostC at this; rw [if_neg he] at this; exact this)
                  clear H6
                  go_wp2_with fail
                  go_meet
                  case rel => exact ⟨p6, l + 1, rfl, H7⟩
      case rest =>
        clear H5 KO4
        obtain ⟨p', l', rfl, H5⟩ := hcut
        obtain ⟨r3, hr3⟩ : ∃ r, Int.tmod (i : Int) 3 = r := ⟨_, rfl⟩
        go_upto_if 77 with fail
        go_cut [7] from 78 to 193 (fun s7 wx => ∃ (k' : Int) (AA' : Option Addr) (nn' cc' : Nat), s7 = .slice AA' nn' cc' ∧ Hid (Av w1 wx x d g p' (4 * i + 2) k' l' AA' nn' cc'))
        case first =>
          as_aux_lemma =>
            by_cases h3 : r3 = 0
            · subst h3
              have hTl := H5.out.s.len
              have hk := H5.out.k
              have hkT := H5.out.kT
              have OA := Lib.hid H5.out.ow
              have HB5 := Lib.hid H5.out.bel.size
              go_wp2_with fail
              refine (H5.out.la.poll (by omega) (by omega)).mono ?_
              obtain ⟨mP, hmP⟩ : ∃ mP, (p'.T.drop nn).length = mP := ⟨_, rfl⟩
              have HMP := Lib.hid hmP
              rw [show k.toNat = nn by omega, hmP]
              have hlP : mP ≤ 60000 := by rw [← hmP, List.length_drop]; omega
              clear hmP
              rintro e w6 ⟨AP, cP, rfl, oP, h6, y6, -⟩
              have HA6 := Lib.hid h6
              have RP := Lib.hid oP.rd
              have Y6 := Lib.hid y6
              have OA := Lib.hid (y6.ow (fun b hb => hb) OA.out)
              have HB5 := Lib.hid h6.bel.size
              clear oP h6 y6 hk
              go_wp2_with (at_builtin; go_must (refine wpList_app2 rfl (.tmp 78) (.tmp 80) 28 rfl w1.heap.size 95 _ 8 72 Tryz.underlying28 told_info rfl (by omega) AA nn cc (tls (p'.T.take nn)) rfl OA.out _ AP cP _ (tls (p'.T.drop nn)) rfl RP.out (tls_one _) ?c1 ?c2 HB5.out ?_))
              case c1 => unfold maxLen; omega
              case c2 => omega
              intro AA' cc' w7 o7 g7 hg7
              have e7 := H5.out.app HA6.out (by rw [HMP.out]; exact o7) g7 hg7
              rw [HMP.out] at e7
              have H7 := Lib.hid e7
              clear o7 g7 hg7 e7 HA6 RP Y6 OA HB5 H5 hTl hkT
              go_wp2_with fail
              go_meet
              case rel => exact ⟨_, AA', nn + mP, cc', rfl, H7⟩
            · have h3' : (r3 == 0) = false := by simpa using h3
              go_wp2_with fail
              go_meet
              case rel => exact ⟨k, AA, nn, cc, rfl, H5⟩
        case rest =>
          obtain ⟨k', AA', nn', cc', rfl, H6⟩ := hcut
          have hTl := H6.out.s.len
          have hT9 : p'.T.length ≤ 900000 := by omega
          clear H5 hr3 hTl
          obtain ⟨iv, hiv⟩ : ∃ v, inV p' = v := ⟨_, rfl⟩
          obtain ⟨gd, hgd⟩ : ∃ v, gdO p' = v := ⟨_, rfl⟩
          obtain ⟨vw, hvw⟩ : ∃ v, vwO p' = v := ⟨_, rfl⟩
          obtain ⟨nL, hnL⟩ : ∃ v, p'.L.length = v := ⟨_, rfl⟩
          obtain ⟨cm, hcm⟩ : ∃ v, p'.com = v := ⟨_, rfl⟩
          obtain ⟨nT, hnT⟩ : ∃ v, p'.T.length = v := ⟨_, rfl⟩
          obtain ⟨nP, hnP⟩ : ∃ v, p'.pend.length = v := ⟨_, rfl⟩
          have HIV := Lib.hid hiv
          have HGD := Lib.hid hgd
          have HVW := Lib.hid hvw
          have HNL := Lib.hid hnL
          have HCM := Lib.hid hcm
          have HNT := Lib.hid hnT
          have HNP := Lib.hid hnP
          have HT9 := Lib.hid hT9
          have HST := Lib.hid (show stv p' = .agg #[.bool true, .bool iv, .bool gd, .int .i64 vw, .int .i64 nL, .int .i64 cm, .int .i64 nT, .int .i64 nP] from by unfold stv; rw [hiv, hgd, hvw, hnL, hcm, hnT, hnP])
          clear hiv hgd hvw hnL hcm hnT hnP hT9
          go_wp2_with fail
          refine H6.out.la.status.mono ?_
          rw [HST.out]
          rintro e w7 ⟨rfl, b7⟩
          have H7 := Lib.hid (H6.out.past b7)
          clear b7 H6
          have H8 := Lib.hid (H7.out.past ((Below.refl w7.heap.size w7).alloc (Nat.le_refl _) (.cells #[.bool true, .bool iv, .bool gd, .int .i64 vw, .int .i64 nL, .int .i64 cm, .int .i64 nT, .int .i64 nP] 41)))
          have KS := Lib.hid (show Blk (w7.alloc (.cells #[.bool true, .bool iv, .bool gd, .int .i64 vw, .int .i64 nL, .int .i64 cm, .int .i64 nT, .int .i64 nP] 41)) w7.heap.size 41 [.bool true, .bool iv, .bool gd, .int .i64 vw, .int .i64 nL, .int .i64 cm, .int .i64 nT, .int .i64 nP] from Blk.new w7 #[.bool true, .bool iv, .bool gd, .int .i64 vw, .int .i64 nL, .int .i64 cm, .int .i64 nT, .int .i64 nP] 41)
          clear H7
          go_wp2_with fail
          generalize (w7.alloc (.cells #[.bool true, .bool iv, .bool gd, .int .i64 vw, .int .i64 nL, .int .i64 cm, .int .i64 nT, .int .i64 nP] 41)) = w8 at *
          generalize w7.heap.size = st at *
          refine H8.out.la.view.mono ?_
          rw [HIV.out, HVW.out]
          rintro e w9 ⟨m9, rfl, b9⟩
          have H9 := Lib.hid (H8.out.past b9)
          have KS := Lib.hid (show Blk w9.drew st 41 [.bool true, .bool iv, .bool gd, .int .i64 vw, .int .i64 nL, .int .i64 cm, .int .i64 nT, .int .i64 nP] from (KS.out.past b9).drew)
          have HLa := Lib.hid H9.out.la.drew
          have BX := Lib.hid (Below.refl w9.heap.size w9).drew
          clear b9 H8
          go_wp2_with fail
-- REGION curfew/curfewlaw26.ClientAll 26 clall26 10
          refine Hb.begin ?_
          refine Hb.take (v := .pointer (some ⟨st, 0, none⟩)) 0 90 rfl ?_ (fun w' hw' => by go_simp; first | done | rfl | (simp; omega))
          refine Hb.take (v := .bool true) 1 91 rfl ?_ (fun w' hw' => by exact ldBool (Blk.cell (i := 0) (Blk.past KS.out hw') rfl) rfl)
          refine Hb.take (v := .bool false) 2 92 rfl ?_ (fun w' hw' => by go_simp; first | done | rfl | omega | exact wrap_in (by omega) (by omega) | exact Int.tmod_eq_emod_of_nonneg (by omega) | exact Int.tdiv_eq_ediv_of_nonneg (by omega) | (simp; omega))
          refine Hb.take (v := .bool false) 3 93 rfl ?_ (fun _ _ => rfl)
          refine Hb.take (v := .pointer (some ⟨st, 1, none⟩)) 4 94 rfl ?_ (fun w' hw' => by go_simp; first | done | rfl | (simp; omega))
          refine Hb.take (v := .bool iv) 5 95 rfl ?_ (fun w' hw' => by exact ldBool (Blk.cell (i := 1) (Blk.past KS.out hw') rfl) rfl)
          refine Hb.take (v := .bool iv) 6 96 rfl ?_ (fun _ _ => rfl)
          refine Hb.take (v := .bool false) 7 97 rfl ?_ (fun w' hw' => by go_simp; first | done | rfl | omega | exact wrap_in (by omega) (by omega) | exact Int.tmod_eq_emod_of_nonneg (by omega) | exact Int.tdiv_eq_ediv_of_nonneg (by omega) | (simp; omega))
          refine Hb.take (v := .bool false) 8 98 rfl ?_ (fun _ _ => rfl)
          refine Hb.take (v := .bool false) 9 99 rfl ?_ (fun _ _ => rfl)
          refine Hb.take (v := .pointer (some ⟨st, 3, none⟩)) 10 100 rfl ?_ (fun w' hw' => by go_simp; first | done | rfl | (simp; omega))
          refine Hb.take (v := .int .i64 vw) 11 101 rfl ?_ (fun w' hw' => by exact ldI64 (Blk.cell (i := 3) (Blk.past KS.out hw') rfl) rfl)
          refine Hb.take (v := .int .i64 vw) 12 102 rfl ?_ (fun _ _ => rfl)
          refine Hb.take (v := .bool false) 13 103 rfl ?_ (fun w' hw' => by go_simp; first | done | rfl | omega | exact wrap_in (by omega) (by omega) | exact Int.tmod_eq_emod_of_nonneg (by omega) | exact Int.tdiv_eq_ediv_of_nonneg (by omega) | (simp; omega))
          refine Hb.take (v := .bool false) 14 104 rfl ?_ (fun _ _ => rfl)
          refine Hb.take (v := .bool false) 15 105 rfl ?_ (fun _ _ => rfl)
          refine Hb.take (v := .pointer (some ⟨st, 2, none⟩)) 16 106 rfl ?_ (fun w' hw' => by go_simp; first | done | rfl | (simp; omega))
          refine Hb.take (v := .bool gd) 17 107 rfl ?_ (fun w' hw' => by exact ldBool (Blk.cell (i := 2) (Blk.past KS.out hw') rfl) rfl)
          refine Hb.take (v := .pointer (some ⟨x, 0, none⟩)) 18 108 rfl ?_ (fun _ _ => rfl)
          refine Hb.call (f := 16) (args := #[.pointer (some ⟨x, 0, none⟩)]) 19 109 rfl ?_ (run_callf Tryz.func16 (by kernel_rfl) (by kernel_rfl) (by simp only [List.map_toArray, List.map_cons, List.map_nil]; rfl))
          refine HLa.out.good.mono ?_
          rw [HGD.out]
          rintro e w21 ⟨rfl, b21⟩
          have KS := Lib.hid (KS.out.past b21)
          have HLa := Lib.hid (HLa.out.past b21)
          have BX := Lib.hid (BX.out.trans (b21.mono BX.out.size))
          refine Hb.back b21 b21.size ?_
          refine Hb.take (v := .bool false) 20 110 rfl ?_ (fun w' hw' => by go_simp; first | done | rfl | omega | exact wrap_in (by omega) (by omega) | exact Int.tmod_eq_emod_of_nonneg (by omega) | exact Int.tdiv_eq_ediv_of_nonneg (by omega) | (simp; omega))
          refine Hb.take (v := .bool false) 21 111 rfl ?_ (fun _ _ => rfl)
          refine Hb.take (v := .bool false) 22 112 rfl ?_ (fun _ _ => rfl)
          refine Hb.take (v := .pointer (some ⟨st, 4, none⟩)) 23 113 rfl ?_ (fun w' hw' => by go_simp; first | done | rfl | (simp; omega))
          refine Hb.take (v := .int .i64 nL) 24 114 rfl ?_ (fun w' hw' => by exact ldInt (Blk.cell (i := 4) (Blk.past KS.out hw') rfl) rfl)
          refine Hb.take (v := .pointer (some ⟨x, 0, none⟩)) 25 115 rfl ?_ (fun _ _ => rfl)
          refine Hb.call (f := 17) (args := #[.pointer (some ⟨x, 0, none⟩)]) 26 116 rfl ?_ (run_callf Tryz.func17 (by kernel_rfl) (by kernel_rfl) (by simp only [List.map_toArray, List.map_cons, List.map_nil]; rfl))
          refine HLa.out.log.mono ?_
          rw [HNL.out]
          rintro e w22 ⟨A22, c22, rfl, b22⟩
          have KS := Lib.hid (KS.out.past b22)
          have HLa := Lib.hid (HLa.out.past b22)
          have BX := Lib.hid (BX.out.trans (b22.mono BX.out.size))
          refine Hb.back b22 b22.size ?_
          refine Hb.take (v := .int .i64 nL) 27 117 rfl ?_ (fun w' hw' => by go_simp; first | done | rfl | omega | exact wrap_in (by omega) (by omega) | exact Int.tmod_eq_emod_of_nonneg (by omega) | exact Int.tdiv_eq_ediv_of_nonneg (by omega) | (simp; omega))
          refine Hb.take (v := .bool false) 28 118 rfl ?_ (fun w' hw' => by go_simp; first | done | rfl | omega | exact wrap_in (by omega) (by omega) | exact Int.tmod_eq_emod_of_nonneg (by omega) | exact Int.tdiv_eq_ediv_of_nonneg (by omega) | (simp; omega))
          refine Hb.take (v := .bool false) 29 119 rfl ?_ (fun _ _ => rfl)
          refine Hb.take (v := .bool false) 30 120 rfl ?_ (fun _ _ => rfl)
          refine Hb.take (v := .pointer (some ⟨st, 5, none⟩)) 31 121 rfl ?_ (fun w' hw' => by go_simp; first | done | rfl | (simp; omega))
          refine Hb.take (v := .int .i64 cm) 32 122 rfl ?_ (fun w' hw' => by exact ldInt (Blk.cell (i := 5) (Blk.past KS.out hw') rfl) rfl)
          refine Hb.take (v := .pointer (some ⟨x, 0, none⟩)) 33 123 rfl ?_ (fun _ _ => rfl)
          refine Hb.call (f := 18) (args := #[.pointer (some ⟨x, 0, none⟩)]) 34 124 rfl ?_ (run_callf Tryz.func18 (by kernel_rfl) (by kernel_rfl) (by simp only [List.map_toArray, List.map_cons, List.map_nil]; rfl))
          refine HLa.out.commit.mono ?_
          rw [HCM.out]
          rintro e w23 ⟨rfl, rfl⟩
          refine Hb.back (Below.refl _ _) (Nat.le_refl _) ?_
          refine Hb.take (v := .bool false) 35 125 rfl ?_ (fun w' hw' => by go_simp; first | done | rfl | omega | exact wrap_in (by omega) (by omega) | exact Int.tmod_eq_emod_of_nonneg (by omega) | exact Int.tdiv_eq_ediv_of_nonneg (by omega) | (simp; omega))
          refine Hb.take (v := .bool false) 36 126 rfl ?_ (fun _ _ => rfl)
          refine Hb.take (v := .bool false) 37 127 rfl ?_ (fun _ _ => rfl)
          refine Hb.take (v := .pointer (some ⟨st, 6, none⟩)) 38 128 rfl ?_ (fun w' hw' => by go_simp; first | done | rfl | (simp; omega))
          refine Hb.take (v := .int .i64 nT) 39 129 rfl ?_ (fun w' hw' => by exact ldInt (Blk.cell (i := 6) (Blk.past KS.out hw') rfl) rfl)
          refine Hb.take (v := .pointer (some ⟨x, 0, none⟩)) 40 130 rfl ?_ (fun _ _ => rfl)
          refine Hb.call (f := 19) (args := #[.pointer (some ⟨x, 0, none⟩)]) 41 131 rfl ?_ (run_callf Tryz.func19 (by kernel_rfl) (by kernel_rfl) (by simp only [List.map_toArray, List.map_cons, List.map_nil]; rfl))
          refine HLa.out.told.mono ?_
          rw [HNT.out]
          rintro e w24 ⟨A24, c24, rfl, -, b24⟩
          have KS := Lib.hid (KS.out.past b24)
          have HLa := Lib.hid (HLa.out.past b24)
          have BX := Lib.hid (BX.out.trans (b24.mono BX.out.size))
          refine Hb.back b24 b24.size ?_
          refine Hb.take (v := .int .i64 nT) 42 132 rfl ?_ (fun w' hw' => by go_simp; first | done | rfl | omega | exact wrap_in (by omega) (by omega) | exact Int.tmod_eq_emod_of_nonneg (by omega) | exact Int.tdiv_eq_ediv_of_nonneg (by omega) | (simp; omega))
          refine Hb.take (v := .bool false) 43 133 rfl ?_ (fun w' hw' => by go_simp; first | done | rfl | omega | exact wrap_in (by omega) (by omega) | exact Int.tmod_eq_emod_of_nonneg (by omega) | exact Int.tdiv_eq_ediv_of_nonneg (by omega) | (simp; omega))
          refine Hb.take (v := .bool false) 44 134 rfl ?_ (fun _ _ => rfl)
          refine Hb.take (v := .bool false) 45 135 rfl ?_ (fun _ _ => rfl)
          refine Hb.take (v := .pointer (some ⟨st, 7, none⟩)) 46 136 rfl ?_ (fun w' hw' => by go_simp; first | done | rfl | (simp; omega))
          refine Hb.take (v := .int .i64 nP) 47 137 rfl ?_ (fun w' hw' => by exact ldInt (Blk.cell (i := 7) (Blk.past KS.out hw') rfl) rfl)
          refine Hb.take (v := .pointer (some ⟨x, 0, none⟩)) 48 138 rfl ?_ (fun _ _ => rfl)
          refine Hb.call (f := 20) (args := #[.pointer (some ⟨x, 0, none⟩)]) 49 139 rfl ?_ (run_callf Tryz.func20 (by kernel_rfl) (by kernel_rfl) (by simp only [List.map_toArray, List.map_cons, List.map_nil]; rfl))
          refine HLa.out.waits.mono ?_
          rw [HNP.out]
          rintro e w25 ⟨rfl, rfl⟩
          refine Hb.back (Below.refl _ _) (Nat.le_refl _) ?_
          refine Hb.take (v := .bool false) 50 140 rfl ?_ (fun w' hw' => by go_simp; first | done | rfl | omega | exact wrap_in (by omega) (by omega) | exact Int.tmod_eq_emod_of_nonneg (by omega) | exact Int.tdiv_eq_ediv_of_nonneg (by omega) | (simp; omega))
          refine Hb.take (v := .bool false) 51 141 rfl ?_ (fun _ _ => rfl)
          refine Hb.take (v := .bool false) 52 142 rfl ?_ (fun _ _ => rfl)
          refine Hb.take (v := .pointer (some ⟨g, 0, none⟩)) 53 143 rfl ?_ (fun _ _ => rfl)
          refine Hb.take (v := .int .i64 l') 55 145 rfl ?_ (fun _ _ => rfl)
          refine Hb.call (f := 21) (args := #[.pointer (some ⟨g, 0, none⟩)]) 54 144 rfl ?_ (run_callf Tryz.func21 (by kernel_rfl) (by kernel_rfl) (by simp only [List.map_toArray, List.map_cons, List.map_nil]; rfl))
          refine (clLost_c HLa.out.cl).mono ?_
          rintro e w26 ⟨rfl, rfl⟩
          refine Hb.back (Below.refl _ _) (Nat.le_refl _) ?_
          refine Hb.take (v := .bool false) 56 146 rfl ?_ (fun w' hw' => by go_simp; first | done | rfl | omega | exact wrap_in (by omega) (by omega) | exact Int.tmod_eq_emod_of_nonneg (by omega) | exact Int.tdiv_eq_ediv_of_nonneg (by omega) | (simp; omega))
          refine Hb.take (v := .bool false) 57 147 rfl ?_ (fun _ _ => rfl)
          refine Hb.done ?_
-- END
          have H10 := Lib.hid (H9.out.past BX.out)
          clear H9 HLa BX
          cases iv
          · as_aux_lemma =>
              have HGO' := Lib.hid (show getO p' ⟨#[97]⟩ = (⟨#[]⟩, 6) from by unfold getO; rw [HIV.out]; rfl)
              go_wp2_with fail
              refine (H10.out.la.get HT9.out ⟨#[97]⟩ (by decide)).mono ?_
              rw [HGO'.out]
              rintro e w11 ⟨rfl, b11⟩
              have H11 := Lib.hid (H10.out.past b11)
              have KS := Lib.hid (KS.out.past b11)
              clear b11 H10
              go_wp2_with fail
              refine (H11.out.la.table HT9.out).mono ?_
              rintro e w12 ⟨g4, F4, c4, rfl, t4, b12⟩
              have H12 := Lib.hid (H11.out.past b12)
              have KS := Lib.hid (KS.out.past b12)
              have T4 := Lib.hid t4
              clear b12 H11 t4
              go_wp2_with fail
              refine (tbGet_c w12 g4 F4 c4 _ T4.out ⟨#[97]⟩ (by unfold maxLen; decide)).mono ?_
              obtain ⟨tw, htw⟩ : ∃ v, (PTab.get (copT p'.tab) ⟨#[97]⟩).getD ⟨#[]⟩ = v := ⟨_, rfl⟩
              obtain ⟨tb, htb⟩ : ∃ v, (PTab.get (copT p'.tab) ⟨#[97]⟩).isSome = v := ⟨_, rfl⟩
              rw [htw, htb]
              clear htw htb
              rintro e w13 ⟨rfl, b13⟩
              have H13 := Lib.hid (H12.out.past b13)
              have KS := Lib.hid (KS.out.past b13)
              have kg := KS.out.cell (i := 2) rfl
              clear b13 H12 T4
              go_wp2_with fail
              refine (H13.out.la.get HT9.out ⟨#[97]⟩ (by decide)).mono ?_
              rw [HGO'.out]
              rintro e w14 ⟨rfl, b14⟩
              have H14 := Lib.hid (H13.out.past b14)
              clear b14 H13 kg
              go_wp2_with fail
              go_roundw
              case rel => exact ⟨i + 1, p', k', l', AA', nn', cc', rfl, rfl, by go_num, by omega, by omega, Lib.hid (H14.out.more (H14.out.s.le (by omega)) (by omega))⟩
              case measure => simp [intOf]; omega
          · cases gd
            · as_aux_lemma =>
                have HGO' := Lib.hid (show getO p' ⟨#[97]⟩ = (⟨#[]⟩, 7) from by unfold getO; rw [HIV.out, HGD.out]; rfl)
                go_wp2_with fail
                refine (H10.out.la.get HT9.out ⟨#[97]⟩ (by decide)).mono ?_
                rw [HGO'.out]
                rintro e w11 ⟨rfl, b11⟩
                have H11 := Lib.hid (H10.out.past b11)
                have KS := Lib.hid (KS.out.past b11)
                clear b11 H10
                go_wp2_with fail
                refine (H11.out.la.table HT9.out).mono ?_
                rintro e w12 ⟨g4, F4, c4, rfl, t4, b12⟩
                have H12 := Lib.hid (H11.out.past b12)
                have KS := Lib.hid (KS.out.past b12)
                have T4 := Lib.hid t4
                clear b12 H11 t4
                go_wp2_with fail
                refine (tbGet_c w12 g4 F4 c4 _ T4.out ⟨#[97]⟩ (by unfold maxLen; decide)).mono ?_
                obtain ⟨tw, htw⟩ : ∃ v, (PTab.get (copT p'.tab) ⟨#[97]⟩).getD ⟨#[]⟩ = v := ⟨_, rfl⟩
                obtain ⟨tb, htb⟩ : ∃ v, (PTab.get (copT p'.tab) ⟨#[97]⟩).isSome = v := ⟨_, rfl⟩
                rw [htw, htb]
                clear htw htb
                rintro e w13 ⟨rfl, b13⟩
                have H13 := Lib.hid (H12.out.past b13)
                have KS := Lib.hid (KS.out.past b13)
                have kg := KS.out.cell (i := 2) rfl
                clear b13 H12 T4
                go_wp2_with fail
                refine (H13.out.la.get HT9.out ⟨#[97]⟩ (by decide)).mono ?_
                rw [HGO'.out]
                rintro e w14 ⟨rfl, b14⟩
                have H14 := Lib.hid (H13.out.past b14)
                clear b14 H13 kg
                go_wp2_with fail
                go_roundw
                case rel => exact ⟨i + 1, p', k', l', AA', nn', cc', rfl, rfl, by go_num, by omega, by omega, Lib.hid (H14.out.more (H14.out.s.le (by omega)) (by omega))⟩
                case measure => simp [intOf]; omega
            · cases hq : PTab.get (copT p'.tab) ⟨#[97]⟩ with
              | none =>
                as_aux_lemma =>
                  have HGO' := Lib.hid (show getO p' ⟨#[97]⟩ = (⟨#[]⟩, 8) from by unfold getO; rw [HIV.out, HGD.out, hq]; rfl)
                  have HQ := Lib.hid hq
                  clear hq
                  go_wp2_with fail
                  refine (H10.out.la.get HT9.out ⟨#[97]⟩ (by decide)).mono ?_
                  rw [HGO'.out]
                  rintro e w11 ⟨rfl, b11⟩
                  have H11 := Lib.hid (H10.out.past b11)
                  have KS := Lib.hid (KS.out.past b11)
                  clear b11 H10
                  go_wp2_with fail
                  refine (H11.out.la.table HT9.out).mono ?_
                  rintro e w12 ⟨g4, F4, c4, rfl, t4, b12⟩
                  have H12 := Lib.hid (H11.out.past b12)
                  have KS := Lib.hid (KS.out.past b12)
                  have T4 := Lib.hid t4
                  clear b12 H11 t4
                  go_wp2_with fail
                  refine (tbGet_c w12 g4 F4 c4 _ T4.out ⟨#[97]⟩ (by unfold maxLen; decide)).mono ?_
                  rw [HQ.out]
                  simp only [Option.getD_none, Option.isSome_none]
                  rintro e w13 ⟨rfl, b13⟩
                  have H13 := Lib.hid (H12.out.past b13)
                  have KS := Lib.hid (KS.out.past b13)
                  have kg := KS.out.cell (i := 2) rfl
                  clear b13 H12 T4
                  go_wp2_with fail
                  refine (H13.out.la.get HT9.out ⟨#[97]⟩ (by decide)).mono ?_
                  rw [HGO'.out]
                  rintro e w14 ⟨rfl, b14⟩
                  have H14 := Lib.hid (H13.out.past b14)
                  clear b14 H13 kg
                  go_wp2_with fail
                  go_roundw
                  case rel => exact ⟨i + 1, p', k', l', AA', nn', cc', rfl, rfl, by go_num, by omega, by omega, Lib.hid (H14.out.more (H14.out.s.le (by omega)) (by omega))⟩
                  case measure => simp [intOf]; omega
              | some v =>
                as_aux_lemma =>
                  have HGO' := Lib.hid (show getO p' ⟨#[97]⟩ = (v, 0) from by unfold getO; rw [HIV.out, HGD.out, hq]; rfl)
                  have HQ := Lib.hid hq
                  clear hq
                  go_wp2_with fail
                  refine (H10.out.la.get HT9.out ⟨#[97]⟩ (by decide)).mono ?_
                  rw [HGO'.out]
                  rintro e w11 ⟨rfl, b11⟩
                  have H11 := Lib.hid (H10.out.past b11)
                  have KS := Lib.hid (KS.out.past b11)
                  clear b11 H10
                  go_wp2_with fail
                  refine (H11.out.la.table HT9.out).mono ?_
                  rintro e w12 ⟨g4, F4, c4, rfl, t4, b12⟩
                  have H12 := Lib.hid (H11.out.past b12)
                  have KS := Lib.hid (KS.out.past b12)
                  have T4 := Lib.hid t4
                  clear b12 H11 t4
                  go_wp2_with fail
                  refine (tbGet_c w12 g4 F4 c4 _ T4.out ⟨#[97]⟩ (by unfold maxLen; decide)).mono ?_
                  rw [HQ.out]
                  simp only [Option.getD_some, Option.isSome_some]
                  rintro e w13 ⟨rfl, b13⟩
                  have H13 := Lib.hid (H12.out.past b13)
                  have KS := Lib.hid (KS.out.past b13)
                  have kg := KS.out.cell (i := 2) rfl
                  clear b13 H12 T4
                  go_wp2_with fail
                  refine (H13.out.la.get HT9.out ⟨#[97]⟩ (by decide)).mono ?_
                  rw [HGO'.out]
                  rintro e w14 ⟨rfl, b14⟩
                  have H14 := Lib.hid (H13.out.past b14)
                  clear b14 H13 kg
                  go_wp2_with fail
                  go_roundw
                  case rel => exact ⟨i + 1, p', k', l', AA', nn', cc', rfl, rfl, by go_num, by omega, by omega, Lib.hid (H14.out.more (H14.out.s.le (by omega)) (by omega))⟩
                  case measure => simp [intOf]; omega
    · have hTl := H4.out.s.len
      have hk := H4.out.k
      have hkT := H4.out.kT
      have OA := Lib.hid H4.out.ow
      have HB5 := Lib.hid H4.out.bel.size
      rcases (by omega : i = n ∨ (i < n ∧ i = 40)) with rfl | ⟨hlt2, rfl⟩
      all_goals
        as_aux_lemma =>
          go_wp2_with fail
          refine (H4.out.la.poll (by omega) (by omega)).mono ?_
          obtain ⟨mP, hmP⟩ : ∃ mP, (p.T.drop nn).length = mP := ⟨_, rfl⟩
          have HMP := Lib.hid hmP
          rw [show k.toNat = nn by omega, hmP]
          have hlP : mP ≤ 60000 := by rw [← hmP, List.length_drop]; omega
          have HLE := Lib.hid (show nn + mP = p.T.length by rw [← hmP, List.length_drop]; omega)
          clear hmP
          rintro e w6 ⟨AP, cP, rfl, oP, h6, y6, -⟩
          have HA6 := Lib.hid h6
          have RP := Lib.hid oP.rd
          have Y6 := Lib.hid y6
          have OA := Lib.hid (y6.ow (fun b hb => hb) OA.out)
          have HB5 := Lib.hid h6.bel.size
          clear oP h6 y6 hk
          go_wp2_with (at_builtin; go_must (refine wpList_app2 rfl (.tmp 194) (.tmp 196) 28 rfl w1.heap.size 95 _ 8 72 Tryz.underlying28 told_info rfl (by omega) AA nn cc (tls (p.T.take nn)) rfl OA.out _ AP cP _ (tls (p.T.drop nn)) rfl RP.out (tls_one _) ?c1 ?c2 HB5.out ?_))
          case c1 => unfold maxLen; omega
          case c2 => omega
          intro AA' cc' w7 o7 g7 hg7
          have e7 := H4.out.app HA6.out (by rw [HMP.out]; exact o7) g7 hg7
          rw [HMP.out, HLE.out] at e7
          rw [HLE.out]
          have H7 := Lib.hid e7
          clear o7 g7 hg7 HA6 RP Y6 OA HB5 H4 hTl hkT hlP HLE e7
          go_wp2_with fail
          refine H7.out.la.told.mono ?_
          rintro e w8 ⟨A8, c8, rfl, o8, b8⟩
          have H8 := Lib.hid (H7.out.past b8)
          have O8 := Lib.hid o8.rd
          clear o8 b8 H7
          go_wp2_with fail
          refine (EqTold_c w8 _ _ AA' A8 cc' c8 p.T.length p.T (by have := H8.out.ow.rd; rw [List.take_length] at this; exact this) O8.out).mono ?_
          rintro e w9 ⟨rfl, b9⟩
          have B9 := Lib.hid (B1.out.trans ((H8.out.bel.trans (b9.mono H8.out.bel.size)).mono B1.out.size))
          clear b9 H8 O8
          go_wp2_with fail
          go_ret
          exact ⟨rfl, B9.out⟩
end Go.Proofs.YtacipjdaiglnjaaGreatDoor

