/- The walk of ProofAll. -/
import Derived.Test.YtfppngeldlpjiaaPrfK
import Derived.Test.YtfppngeldlpjiaaPrfR
import Derived.Test.YtfppngeldlpjiaaFlat
import Derived.WalkSmall
import Derived.Deep.CutRange
import Derived.Deep.CutBlock
import Derived.Deep.LoopGhost
namespace Go.Proofs.Ytfppngeldlpjiaa
open Go.RowKit PProof

theorem Ro.drew {w : World} {base g c m : Nat} {Aq : Option Addr} {last num rk rc : Int} {A : List Int} (h : Ro w base g Aq c last m A num rk rc) : Ro w.drew base g Aq c last m A num rk rc := h.past (Below.refl _ _).drew
theorem Ro.beside {w w' : World} {base g g2 c m : Nat} {Aq : Option Addr} {last num rk rc last2 cl ck cm : Int} {A A2 : List Int} {p : Bool} (h : Ro w base g Aq c last m A num rk rc) (hp : Pf w g2 last2 cl A2 p ck cm) (ht : Touch [g2] w w') : Ro w' base g Aq c last m A num rk rc :=
  h.touch ht (fun s hs => by rw [List.mem_singleton.1 hs]; exact h.out hp (by decide) (by decide))
/-- The program's proof and the document's side by side. -/
structure Az (w0 w : World) (g g2 : Nat) (last cl : Int) (A : List Int) (p : Bool) (ck cm : Int) (m : Nat) (num rk rc : Int) : Prop where
  s : Sp w0 w g last cl A p ck cm
  r : Rp w w0.heap.size g2 last m A num rk rc
  l : Rel last cl p ck cm m num rk rc
  k : 0 ≤ rk ∧ rk ≤ 2199023255552
section
variable {w0 w w' w5 w6 : World} {g g2 m m' c : Nat} {Aq : Option Addr} {last cl ck cm num rk rc last' cl' ck' cm' num' rk' rc' : Int} {A A' : List Int} {p p' : Bool}
theorem Az.past (h : Az w0 w g g2 last cl A p ck cm m num rk rc) (b : Below w.heap.size w w') : Az w0 w' g g2 last cl A p ck cm m num rk rc := by
  obtain ⟨Aq, c, ro⟩ := h.r
  exact ⟨h.s.past b, ⟨Aq, c, ro.past b⟩, h.l, h.k⟩
theorem Az.drew (h : Az w0 w g g2 last cl A p ck cm m num rk rc) : Az w0 w.drew g g2 last cl A p ck cm m num rk rc := h.past (Below.refl _ _).drew
theorem Az.both (h : Az w0 w g g2 last cl A p ck cm m num rk rc) (ro : Ro w w0.heap.size g2 Aq c last m A num rk rc) (s5 : Sp w0 w5 g last' cl' A' p' ck' cm') (t5 : Touch [g] w w5) (r6 : Rp w6 w0.heap.size g2 last' m' A' num' rk' rc') (t6 : Touch (g2 :: bl Aq) w5 w6)
    (l : Rel last' cl' p' ck' cm' m' num' rk' rc') (k : 0 ≤ rk' ∧ rk' ≤ 2199023255552) : Az w0 w6 g g2 last' cl' A' p' ck' cm' m' num' rk' rc' := by
  have ro5 := ro.beside h.s.f t5
  exact ⟨⟨s5.bel.trans (t6.below (fun s hs => (ro5.blks s hs).1) s5.bel.size), s5.own, s5.f.touch t6 (ro5.out s5.f (by decide) (by decide)), s5.k⟩, r6, l, k⟩
/-- Behind a write of another block of the law's own. -/
theorem Az.aside (h : Az w0 w g g2 last cl A p ck cm m num rk rc) {k : Nat} {t : TypeId} {ys : List Value} (ht : Touch [k] w w') (hB : Blk w k t ys) (h1 : t ≠ 43) (h2 : t ≠ 29) (h3 : t ≠ 47) (hk : w0.heap.size ≤ k) :
    Az w0 w' g g2 last cl A p ck cm m num rk rc := by
  obtain ⟨Aq, c, ro⟩ := h.r
  exact ⟨h.s.far ht hk (hB.ne h.s.f h1).symm, ⟨Aq, c, ro.touch ht (fun s hs => by rw [List.mem_singleton.1 hs]; exact ro.out hB h2 h3)⟩, h.l, h.k⟩
theorem Az.rleft (h : Az w0 w g g2 last cl A p ck cm m num rk rc) (t c : Int) (ht : 0 ≤ t ∧ t ≤ 2199023255552) {v : Int} (hv : left p ck cm t c = v) :
    Calls Try.prog 18 #[.pointer (some ⟨g2, 0, none⟩), .int .i64 t, .int .i64 c] w fun e w' => e = .returned (.int .i64 v) ∧ w = w' := by
  obtain ⟨Aq, cc, ro⟩ := h.r
  have := rpleft_c w w0.heap.size g2 last m A num rk rc ro h.k t c ht
  rw [h.l.left t c, hv] at this
  exact this
end

set_option maxHeartbeats 4000000 in
set_option maxRecDepth 100000 in
theorem ProofAll_w (w : World) (b : Int) (A0 : Option Addr) (len c0 : Nat) (xs : List Value) (clk cmt : Int) (h0 : Rd w w.heap.size A0 c0 4 len xs) (hI : AllI xs) : Calls Try.prog 3 #[.int .i64 b, .slice A0 len c0, .int .i64 clk, .int .i64 cmt] w fun e w' => e = .returned (.bool true) ∧ Below w.heap.size w w' := by
  have HR := Lib.hid h0
  have HI := Lib.hid hI
  clear h0 hI
  rcases (by omega : (b < 0) ∨ (0 ≤ b ∧ 1099511627776 < b) ∨ (0 ≤ b ∧ b ≤ 1099511627776 ∧ clk < 0) ∨ (0 ≤ b ∧ b ≤ 1099511627776 ∧ 0 ≤ clk ∧ 1099511627776 < clk) ∨ (0 ≤ b ∧ b ≤ 1099511627776 ∧ 0 ≤ clk ∧ clk ≤ 1099511627776)) with k0 | ⟨k0, k1⟩ | ⟨k0, k1, k2⟩ | ⟨k0, k1, k2, k3⟩ | ⟨k0, k1, k2, k3⟩
  · go_enter Try.func3, Try.ntmps3
    go_wp2_with fail
    refine (begunP_c w).mono ?_
    rintro e w1 ⟨rfl, b1⟩
    go_wp2_with fail
    go_ret
    exact ⟨rfl, b1⟩
  · go_enter Try.func3, Try.ntmps3
    go_wp2_with fail
    refine (begunP_c w).mono ?_
    rintro e w1 ⟨rfl, b1⟩
    go_wp2_with fail
    go_ret
    exact ⟨rfl, b1⟩
  · go_enter Try.func3, Try.ntmps3
    go_wp2_with fail
    refine (begunP_c w).mono ?_
    rintro e w1 ⟨rfl, b1⟩
    go_wp2_with fail
    go_ret
    exact ⟨rfl, b1⟩
  · go_enter Try.func3, Try.ntmps3
    go_wp2_with fail
    refine (begunP_c w).mono ?_
    rintro e w1 ⟨rfl, b1⟩
    go_wp2_with fail
    go_ret
    exact ⟨rfl, b1⟩
  · have HC := Lib.hid (show 0 ≤ clk ∧ clk ≤ 2199023255552 by omega)
    go_enter Try.func3, Try.ntmps3
    go_wp2_with fail
    refine (begunP_c w).mono ?_
    rintro e w1 ⟨rfl, b1⟩
    go_wp2_with fail
    refine (Sp.new b1 b (by omega) (by omega)).mono ?_
    rintro e w2 ⟨rfl, s, -⟩
    have HS0 := Lib.hid (show Az w (w2.alloc (.cells #[.slice none 0 0, .int .i64 b, .int .i64 0, .int .i64 0, .int .i64 0] 29)) w1.heap.size w2.heap.size b b (List.replicate 64 0) false 0 0 0 0 0 0 from
      ⟨s.past ((Below.refl _ _).alloc (Nat.le_refl _) _), ⟨none, 0, s.bel.size, Blk.new w2 _ _, Og.nil _ _ _ _⟩, Rel.new (by omega), by omega⟩)
    clear s b1
    generalize w1.heap.size = g at *
    go_wp2_with fail
    generalize w2.alloc (.cells #[.slice none 0 0, .int .i64 b, .int .i64 0, .int .i64 0, .int .i64 0] 29) = w3 at *
    generalize w2.heap.size = g2 at *
    generalize List.replicate 64 (0 : Int) = Z at *
    go_loopg [12] len (fun k s12 wr => ∃ (i : Nat) (last cl : Int) (A : List Int) (p : Bool) (ck cm : Int) (m : Nat) (num rk rc : Int), k = len - i ∧ i ≤ len ∧ i ≤ 90 ∧ last ≤ b + i ∧ s12 = .int .i64 i ∧ Hid (Az w wr g g2 last cl A p ck cm m num rk rc))
    case atStart => exact ⟨0, b, b, Z, false, 0, 0, 0, 0, 0, 0, by omega, by omega, by omega, by omega, rfl, HS0⟩
    case round =>
      clear HS0
      obtain ⟨i, last, cl, A, p, ck, cm, m, num, rk, rc, rfl, hin, hi90, hlast, rfl, HS⟩ := hrel
      by_cases h1 : i < len
      · by_cases h2 : i < 90
        · obtain ⟨bo, oo, rfl, -, hc⟩ := (HR.out.below HS.out.s.bel).flatI HI.out h1 (by omega)
          obtain ⟨kd, o0⟩ := hc 0 (by omega)
          obtain ⟨co, o1⟩ := hc 1 (by omega)
          obtain ⟨nu, o2⟩ := hc 2 (by omega)
          obtain ⟨x0, o3⟩ := hc 3 (by omega)
          rw [Nat.add_zero] at o0
          clear hc
          have KO := Lib.hid (Blk.new wr #[.int .i64 kd, .int .i64 co, .int .i64 nu, .int .i64 x0] 31)
          have HS1 := Lib.hid (HS.out.past ((Below.refl _ _).alloc (Nat.le_refl _) (.cells #[.int .i64 kd, .int .i64 co, .int .i64 nu, .int .i64 x0] 31)))
          have HGO := Lib.hid HS.out.s.bel.size
          go_upto_region 12 with fail
          clear o0 o1 o2 o3 HS
          generalize wr.heap.size = gO at *
          generalize wr.alloc (.cells #[.int .i64 kd, .int .i64 co, .int .i64 nu, .int .i64 x0] 31) = w4 at *
          have q3 := KO.out.cell (i := 3) rfl
          have f3 := KO.out.free 3
          go_cut [57] from 36 to 115 (fun s57 wx => ∃ bb : Bool, s57 = .bool bb ∧ Hid (bb = true ∨ 0 ≤ x0 ∧ x0 ≤ 1099511627776) ∧ wx = w4)
          case first =>
            rcases (by omega : x0 < 0 ∨ (0 ≤ x0 ∧ 1099511627776 < x0) ∨ (0 ≤ x0 ∧ x0 ≤ 1099511627776)) with k | ⟨k, k2⟩ | ⟨k, k2⟩
            · have hh := Lib.hid (show true = true ∨ 0 ≤ x0 ∧ x0 ≤ 1099511627776 from .inl rfl)
              go_wp2_with fail
              go_meet
              case rel => exact ⟨true, rfl, Lib.hid (.inl rfl), rfl⟩
            · have hh := Lib.hid (show true = true ∨ 0 ≤ x0 ∧ x0 ≤ 1099511627776 from .inl rfl)
              go_wp2_with fail
              go_meet
              case rel => exact ⟨true, rfl, Lib.hid (.inl rfl), rfl⟩
            · have hh := Lib.hid (And.intro k k2)
              go_wp2_with fail
              go_meet
              case rel => exact ⟨false, by simp; omega, Lib.hid (.inr hh.out), rfl⟩
          case rest =>
          obtain ⟨bb, rfl, HBB, rfl⟩ := hcut
          go_upto_if 57 with fail
          go_cut [] from 36 to 115 (fun wx => ∃ x : Int, 0 ≤ x ∧ x ≤ 1099511627776 ∧ Hid (Blk wx gO 31 [.int .i64 kd, .int .i64 co, .int .i64 nu, .int .i64 x]) ∧ Hid (Az w wx g g2 last cl A p ck cm m num rk rc))
          case first =>
            cases bb
            · have HX0 := Lib.hid (show 0 ≤ x0 ∧ x0 ≤ 1099511627776 from HBB.out.elim (fun h => by cases h) id)
              clear HBB
              go_wp2_with fail
              go_meet
              case rel => exact ⟨x0, HX0.out.1, HX0.out.2, KO, HS1⟩
            · have T := Lib.hid (Touch.of_grown (grown_set wc gO 3 (.int .i64 3)))
              have KO2 := Lib.hid (show Blk (wc.setCell ⟨gO, 3, none⟩ (.int .i64 3)) gO 31 [.int .i64 kd, .int .i64 co, .int .i64 nu, .int .i64 3] from KO.out.set 3 _)
              have HS2 := Lib.hid (HS1.out.aside T.out KO.out (by decide) (by decide) (by decide) HGO.out)
              go_wp2_with fail
              go_meet
              case rel => exact ⟨3, by omega, by omega, KO2, HS2⟩
          case rest =>
            clear KO HS1 q3 f3
            obtain ⟨x, hx0, hx1, KO, AZ⟩ := hcut
            obtain ⟨Aq, cq, ro⟩ := AZ.out.r
            have RO := Lib.hid ro
            clear ro
            have NG1 := Lib.hid (show gO ∉ [g] from fun hm => KO.out.ne AZ.out.s.f (by decide) (List.mem_singleton.1 hm))
            have NG2 := Lib.hid (show gO ∉ g2 :: bl Aq from RO.out.out KO.out (by decide) (by decide))
            have NG := Lib.hid (show gO ∉ g :: g2 :: bl Aq from fun hm => (List.mem_cons.1 hm).elim (fun h => NG1.out (by rw [h]; exact List.mem_singleton.2 rfl)) NG2.out)
            have q0 := KO.out.cell (i := 0) rfl
            go_upto_block 2 with fail
            go_cut [] from 36 to 115 (fun wx => ∃ (last cl : Int) (A : List Int) (p : Bool) (ck cm : Int) (m : Nat) (num rk rc : Int), last ≤ b + i + 1 ∧ Hid (Blk wx gO 31 [.int .i64 kd, .int .i64 co, .int .i64 nu, .int .i64 x]) ∧ Hid (Az w wx g g2 last cl A p ck cm m num rk rc))
            case first =>
              by_cases hk0 : kd = 0
              · subst hk0
                go_upto_region 18 with fail
-- REGION curfew/curfewlaw22.ProofAll 18 pall18 16
                refine Hs.begin ((g :: g2 :: bl Aq)) ?_
                refine Hs.take (v := .pointer (some ⟨g, 0, none⟩)) 0 67 rfl ?_ (fun _ _ => rfl)
                refine Hs.take (v := .pointer (some ⟨gO, 3, none⟩)) 1 68 rfl ?_ (fun w' hw' => by go_simp; first | done | rfl | omega | exact wrap_in (by omega) (by omega) | exact Int.tmod_eq_emod_of_nonneg (by omega) | exact Int.tdiv_eq_ediv_of_nonneg (by omega) | (simp; omega))
                refine Hs.take (v := .int .i64 x) 2 69 rfl ?_ (fun w' hw' => by have cc := ((show Blk wc.drew gO _ _ from KO.out).touch hw' NG.out).cell (i := 3) rfl; go_simp)
                refine Hs.take (v := .pointer (some ⟨g2, 0, none⟩)) 4 71 rfl ?_ (fun _ _ => rfl)
                refine Hs.take (v := .pointer (some ⟨gO, 3, none⟩)) 5 72 rfl ?_ (fun w' hw' => by go_simp; first | done | rfl | omega | exact wrap_in (by omega) (by omega) | exact Int.tmod_eq_emod_of_nonneg (by omega) | exact Int.tdiv_eq_ediv_of_nonneg (by omega) | (simp; omega))
                refine Hs.take (v := .int .i64 x) 6 73 rfl ?_ (fun w' hw' => by have cc := ((show Blk wc.drew gO _ _ from KO.out).touch hw' NG.out).cell (i := 3) rfl; go_simp)
                refine Hs.call (f := 11) (args := #[.pointer (some ⟨g, 0, none⟩), .int .i64 x]) 3 70 rfl ?_ (run_callf Try.func11 (by kernel_rfl) (by kernel_rfl) (by simp only [List.map_toArray, List.map_cons, List.map_nil]; rfl))
                refine (AZ.out.drew.s.ask x (by omega) (by omega)).mono ?_
                rintro e w5 ⟨rfl, s5, t5⟩
                have R5 := Lib.hid (RO.out.drew.beside AZ.out.drew.s.f t5)
                have S5 := Lib.hid s5
                have T5 := Lib.hid t5
                clear s5 t5
                refine Hs.back (T5.out.wide (by simp)) ?_
                refine Hs.call (f := 12) (args := #[.pointer (some ⟨g2, 0, none⟩), .int .i64 x]) 7 74 rfl ?_ (run_callf Try.func12 (by kernel_rfl) (by kernel_rfl) (by simp only [List.map_toArray, List.map_cons, List.map_nil]; rfl))
                refine (rpask_c w5 _ g2 last m A num rk rc R5.out AZ.out.l.m6.1 AZ.out.l.m6.2 AZ.out.s.k.len (by omega) x).mono ?_
                rintro e w6 ⟨rfl, r6, t6⟩
                have AZ6 := Lib.hid (AZ.out.drew.both RO.out.drew S5.out T5.out r6 t6 AZ.out.l.ask AZ.out.k)
                have K6 := Lib.hid (((show Blk wc.drew gO _ _ from KO.out).touch T5.out NG1.out).touch t6 NG2.out)
                refine Hs.back (t6.wide (fun k hk => List.mem_cons_of_mem _ hk)) ?_
                clear r6 t6
                refine Hs.take (v := .bool false) 8 75 rfl ?_ (fun w' hw' => by go_simp; first | done | rfl | omega | exact wrap_in (by omega) (by omega) | exact Int.tmod_eq_emod_of_nonneg (by omega) | exact Int.tdiv_eq_ediv_of_nonneg (by omega) | (simp; omega))
                refine Hs.done ?_
-- END
                go_wp2_with fail
                go_meet
                case rel => exact ⟨last + 1, cl, askA A last x, p, ck, cm, nx m, num, rk, rc, by omega, K6, AZ6⟩
              · have e0 : (kd == 0) = false := by simpa using hk0
                by_cases hk1 : kd = 1
                · subst hk1
                  clear hk0 e0
                  cases ho : opn last cl nu
                  · have HOP := Lib.hid ho
                    clear ho
                    go_upto_region 21 with fail
-- REGION curfew/curfewlaw22.ProofAll 21 pall21f 20
                    refine Hs.begin ((g :: g2 :: bl Aq)) ?_
                    refine Hs.take (v := .pointer (some ⟨g, 0, none⟩)) 0 78 rfl ?_ (fun _ _ => rfl)
                    refine Hs.take (v := .pointer (some ⟨gO, 2, none⟩)) 1 79 rfl ?_ (fun w' hw' => by go_simp; first | done | rfl | omega | exact wrap_in (by omega) (by omega) | exact Int.tmod_eq_emod_of_nonneg (by omega) | exact Int.tdiv_eq_ediv_of_nonneg (by omega) | (simp; omega))
                    refine Hs.take (v := .int .i64 nu) 2 80 rfl ?_ (fun w' hw' => by have cc := ((show Blk wc.drew gO _ _ from KO.out).touch hw' NG.out).cell (i := 2) rfl; go_simp)
                    refine Hs.take (v := .pointer (some ⟨gO, 1, none⟩)) 3 81 rfl ?_ (fun w' hw' => by go_simp; first | done | rfl | omega | exact wrap_in (by omega) (by omega) | exact Int.tmod_eq_emod_of_nonneg (by omega) | exact Int.tdiv_eq_ediv_of_nonneg (by omega) | (simp; omega))
                    refine Hs.take (v := .int .i64 co) 4 82 rfl ?_ (fun w' hw' => by have cc := ((show Blk wc.drew gO _ _ from KO.out).touch hw' NG.out).cell (i := 1) rfl; go_simp)
                    refine Hs.take (v := .pointer (some ⟨g2, 0, none⟩)) 6 84 rfl ?_ (fun _ _ => rfl)
                    refine Hs.take (v := .pointer (some ⟨gO, 2, none⟩)) 7 85 rfl ?_ (fun w' hw' => by go_simp; first | done | rfl | omega | exact wrap_in (by omega) (by omega) | exact Int.tmod_eq_emod_of_nonneg (by omega) | exact Int.tdiv_eq_ediv_of_nonneg (by omega) | (simp; omega))
                    refine Hs.take (v := .int .i64 nu) 8 86 rfl ?_ (fun w' hw' => by have cc := ((show Blk wc.drew gO _ _ from KO.out).touch hw' NG.out).cell (i := 2) rfl; go_simp)
                    refine Hs.take (v := .pointer (some ⟨gO, 1, none⟩)) 9 87 rfl ?_ (fun w' hw' => by go_simp; first | done | rfl | omega | exact wrap_in (by omega) (by omega) | exact Int.tmod_eq_emod_of_nonneg (by omega) | exact Int.tdiv_eq_ediv_of_nonneg (by omega) | (simp; omega))
                    refine Hs.take (v := .int .i64 co) 10 88 rfl ?_ (fun w' hw' => by have cc := ((show Blk wc.drew gO _ _ from KO.out).touch hw' NG.out).cell (i := 1) rfl; go_simp)
                    refine Hs.call (f := 13) (args := #[.pointer (some ⟨g, 0, none⟩), .int .i64 nu, .int .i64 co]) 5 83 rfl ?_ (run_callf Try.func13 (by kernel_rfl) (by kernel_rfl) (by simp only [List.map_toArray, List.map_cons, List.map_nil]; rfl))
                    refine (AZ.out.drew.s.got nu co HOP.out).mono ?_
                    rintro e w5 ⟨rfl, rfl⟩
                    refine Hs.back (Touch.refl _ _) ?_
                    refine Hs.call (f := 14) (args := #[.pointer (some ⟨g2, 0, none⟩), .int .i64 nu, .int .i64 co]) 11 89 rfl ?_ (run_callf Try.func14 (by kernel_rfl) (by kernel_rfl) (by simp only [List.map_toArray, List.map_cons, List.map_nil]; rfl))
                    refine (rpget_no _ _ g2 last m A num rk rc RO.out.drew AZ.out.l.m6.1 nu co ((AZ.out.l.op nu).trans HOP.out)).mono ?_
                    rintro e w6 ⟨rfl, rfl⟩
                    refine Hs.back (Touch.refl _ _) ?_
                    refine Hs.take (v := .bool false) 12 90 rfl ?_ (fun w' hw' => by go_simp; first | done | rfl | omega | exact wrap_in (by omega) (by omega) | exact Int.tmod_eq_emod_of_nonneg (by omega) | exact Int.tdiv_eq_ediv_of_nonneg (by omega) | (simp; omega))
                    refine Hs.done ?_
-- END
                    have AZ6 := Lib.hid AZ.out.drew
                    have K6 := Lib.hid (show Blk wc.drew gO _ _ from KO.out)
                    go_wp2_with fail
                    go_meet
                    case rel => exact ⟨last, cl, A, p, ck, cm, m, num, rk, rc, by omega, K6, AZ6⟩
                  · have HOP := Lib.hid ho
                    clear ho
                    go_upto_region 21 with fail
-- REGION curfew/curfewlaw22.ProofAll 21 pall21t 20
                    refine Hs.begin ((g :: g2 :: bl Aq)) ?_
                    refine Hs.take (v := .pointer (some ⟨g, 0, none⟩)) 0 78 rfl ?_ (fun _ _ => rfl)
                    refine Hs.take (v := .pointer (some ⟨gO, 2, none⟩)) 1 79 rfl ?_ (fun w' hw' => by go_simp; first | done | rfl | omega | exact wrap_in (by omega) (by omega) | exact Int.tmod_eq_emod_of_nonneg (by omega) | exact Int.tdiv_eq_ediv_of_nonneg (by omega) | (simp; omega))
                    refine Hs.take (v := .int .i64 nu) 2 80 rfl ?_ (fun w' hw' => by have cc := ((show Blk wc.drew gO _ _ from KO.out).touch hw' NG.out).cell (i := 2) rfl; go_simp)
                    refine Hs.take (v := .pointer (some ⟨gO, 1, none⟩)) 3 81 rfl ?_ (fun w' hw' => by go_simp; first | done | rfl | omega | exact wrap_in (by omega) (by omega) | exact Int.tmod_eq_emod_of_nonneg (by omega) | exact Int.tdiv_eq_ediv_of_nonneg (by omega) | (simp; omega))
                    refine Hs.take (v := .int .i64 co) 4 82 rfl ?_ (fun w' hw' => by have cc := ((show Blk wc.drew gO _ _ from KO.out).touch hw' NG.out).cell (i := 1) rfl; go_simp)
                    refine Hs.take (v := .pointer (some ⟨g2, 0, none⟩)) 6 84 rfl ?_ (fun _ _ => rfl)
                    refine Hs.take (v := .pointer (some ⟨gO, 2, none⟩)) 7 85 rfl ?_ (fun w' hw' => by go_simp; first | done | rfl | omega | exact wrap_in (by omega) (by omega) | exact Int.tmod_eq_emod_of_nonneg (by omega) | exact Int.tdiv_eq_ediv_of_nonneg (by omega) | (simp; omega))
                    refine Hs.take (v := .int .i64 nu) 8 86 rfl ?_ (fun w' hw' => by have cc := ((show Blk wc.drew gO _ _ from KO.out).touch hw' NG.out).cell (i := 2) rfl; go_simp)
                    refine Hs.take (v := .pointer (some ⟨gO, 1, none⟩)) 9 87 rfl ?_ (fun w' hw' => by go_simp; first | done | rfl | omega | exact wrap_in (by omega) (by omega) | exact Int.tmod_eq_emod_of_nonneg (by omega) | exact Int.tdiv_eq_ediv_of_nonneg (by omega) | (simp; omega))
                    refine Hs.take (v := .int .i64 co) 10 88 rfl ?_ (fun w' hw' => by have cc := ((show Blk wc.drew gO _ _ from KO.out).touch hw' NG.out).cell (i := 1) rfl; go_simp)
                    refine Hs.call (f := 13) (args := #[.pointer (some ⟨g, 0, none⟩), .int .i64 nu, .int .i64 co]) 5 83 rfl ?_ (run_callf Try.func13 (by kernel_rfl) (by kernel_rfl) (by simp only [List.map_toArray, List.map_cons, List.map_nil]; rfl))
                    refine (AZ.out.drew.s.get nu co HOP.out).mono ?_
                    rintro e w5 ⟨rfl, s5, t5⟩
                    have R5 := Lib.hid (RO.out.drew.beside AZ.out.drew.s.f t5)
                    have S5 := Lib.hid s5
                    have T5 := Lib.hid t5
                    clear s5 t5
                    refine Hs.back (T5.out.wide (by simp)) ?_
                    refine Hs.call (f := 14) (args := #[.pointer (some ⟨g2, 0, none⟩), .int .i64 nu, .int .i64 co]) 11 89 rfl ?_ (run_callf Try.func14 (by kernel_rfl) (by kernel_rfl) (by simp only [List.map_toArray, List.map_cons, List.map_nil]; rfl))
                    refine (rpget_yes w5 _ g2 last m A num rk rc R5.out AZ.out.l.m6.1 nu co ((AZ.out.l.op nu).trans HOP.out)).mono ?_
                    rintro e w6 ⟨rfl, r6, t6⟩
                    have AZ6 := Lib.hid (AZ.out.drew.both RO.out.drew S5.out T5.out r6 t6 (AZ.out.l.get A nu co HOP.out AZ.out.s.k.c0) (tm_in AZ.out.s.k nu))
                    have K6 := Lib.hid (((show Blk wc.drew gO _ _ from KO.out).touch T5.out NG1.out).touch t6 NG2.out)
                    refine Hs.back (t6.wide (fun k hk => List.mem_cons_of_mem _ hk)) ?_
                    clear r6 t6
                    refine Hs.take (v := .bool false) 12 90 rfl ?_ (fun w' hw' => by go_simp; first | done | rfl | omega | exact wrap_in (by omega) (by omega) | exact Int.tmod_eq_emod_of_nonneg (by omega) | exact Int.tdiv_eq_ediv_of_nonneg (by omega) | (simp; omega))
                    refine Hs.done ?_
-- END
                    go_wp2_with fail
                    go_meet
                    case rel => exact ⟨last, nu, A, true, tm A nu, co, m, nu, tm A nu, co, by omega, K6, AZ6⟩
                · have e1 : (kd == 1) = false := by simpa using hk1
                  clear hk0 hk1
                  go_wp2_with fail
                  refine AZ.out.s.drop.mono ?_
                  rintro e w5 ⟨rfl, s5, t5⟩
                  have R5 := Lib.hid (RO.out.beside AZ.out.s.f t5)
                  have S5 := Lib.hid s5
                  have T5 := Lib.hid t5
                  clear s5 t5
                  go_wp2_with fail
                  refine (rpdrop_c w5 _ g2 last m A num rk rc R5.out).mono ?_
                  rintro e w6 ⟨rfl, r6, t6⟩
                  have AZ6 := Lib.hid (AZ.out.both RO.out S5.out T5.out r6 t6 (AZ.out.l.drop 0 0) (by omega))
                  have K6 := Lib.hid ((KO.out.touch T5.out NG1.out).touch t6 NG2.out)
                  clear r6 t6
                  go_wp2_with fail
                  go_meet
                  case rel => exact ⟨last, last, A, false, ck, cm, 0, 0, 0, 0, by omega, K6, AZ6⟩
            case rest =>
              clear NG NG1 NG2 RO AZ KO q0 hlast
              obtain ⟨last, cl, A, p, ck, cm, m, num, rk, rc, hlast, KO, AZ⟩ := hcut
              have LG := Lib.hid KO.out.lt
              have HX := Lib.hid (show 0 ≤ x ∧ x ≤ 2199023255552 by omega)
              obtain ⟨V, hV⟩ : ∃ V, left p ck cm clk cmt = V := ⟨_, rfl⟩
              obtain ⟨U, hU⟩ : ∃ U, left p ck cm x co = U := ⟨_, rfl⟩
              have HV := Lib.hid hV
              have HU2 := Lib.hid hU
              have HU := Lib.hid (show decide (0 < left p ck cm x co) = decide (0 < U) by rw [hU])
              clear hV hU
              go_upto_region 23 with fail
-- REGION curfew/curfewlaw22.ProofAll 23 pall23 14
              refine Hb.begin ?_
              refine Hb.take (v := .pointer (some ⟨g, 0, none⟩)) 0 91 rfl ?_ (fun _ _ => rfl)
              refine Hb.take (v := .int .i64 clk) 1 92 rfl ?_ (fun _ _ => rfl)
              refine Hb.take (v := .int .i64 cmt) 2 93 rfl ?_ (fun _ _ => rfl)
              refine Hb.take (v := .pointer (some ⟨g2, 0, none⟩)) 4 95 rfl ?_ (fun _ _ => rfl)
              refine Hb.take (v := .int .i64 clk) 5 96 rfl ?_ (fun _ _ => rfl)
              refine Hb.take (v := .int .i64 cmt) 6 97 rfl ?_ (fun _ _ => rfl)
              refine Hb.call (f := 17) (args := #[.pointer (some ⟨g, 0, none⟩), .int .i64 clk, .int .i64 cmt]) 3 94 rfl ?_ (run_callf Try.func17 (by kernel_rfl) (by kernel_rfl) (by simp only [List.map_toArray, List.map_cons, List.map_nil]; rfl))
              refine (AZ.out.drew.s.left clk cmt HC.out HV.out).mono ?_
              rintro e w5 ⟨rfl, rfl⟩
              refine Hb.back (Below.refl _ _) (Nat.le_refl _) ?_
              refine Hb.call (f := 18) (args := #[.pointer (some ⟨g2, 0, none⟩), .int .i64 clk, .int .i64 cmt]) 7 98 rfl ?_ (run_callf Try.func18 (by kernel_rfl) (by kernel_rfl) (by simp only [List.map_toArray, List.map_cons, List.map_nil]; rfl))
              refine (AZ.out.drew.rleft clk cmt HC.out HV.out).mono ?_
              rintro e w5 ⟨rfl, rfl⟩
              refine Hb.back (Below.refl _ _) (Nat.le_refl _) ?_
              refine Hb.take (v := .bool false) 8 99 rfl ?_ (fun w' hw' => by go_simp; first | done | rfl | omega | exact wrap_in (by omega) (by omega) | exact Int.tmod_eq_emod_of_nonneg (by omega) | exact Int.tdiv_eq_ediv_of_nonneg (by omega) | (simp; omega))
              refine Hb.take (v := .bool false) 9 100 rfl ?_ (fun _ _ => rfl)
              refine Hb.take (v := .pointer (some ⟨g, 0, none⟩)) 10 101 rfl ?_ (fun _ _ => rfl)
              refine Hb.take (v := .pointer (some ⟨gO, 3, none⟩)) 11 102 rfl ?_ (fun w' hw' => by go_simp; first | done | rfl | omega | exact wrap_in (by omega) (by omega) | exact Int.tmod_eq_emod_of_nonneg (by omega) | exact Int.tdiv_eq_ediv_of_nonneg (by omega) | (simp; omega))
              refine Hb.take (v := .int .i64 x) 12 103 rfl ?_ (fun w' hw' => by have cc := ((show Blk wc.drew gO _ _ from KO.out).below hw' LG.out).cell (i := 3) rfl; go_simp)
              refine Hb.take (v := .pointer (some ⟨gO, 1, none⟩)) 13 104 rfl ?_ (fun w' hw' => by go_simp; first | done | rfl | omega | exact wrap_in (by omega) (by omega) | exact Int.tmod_eq_emod_of_nonneg (by omega) | exact Int.tdiv_eq_ediv_of_nonneg (by omega) | (simp; omega))
              refine Hb.take (v := .int .i64 co) 14 105 rfl ?_ (fun w' hw' => by have cc := ((show Blk wc.drew gO _ _ from KO.out).below hw' LG.out).cell (i := 1) rfl; go_simp)
              refine Hb.take (v := .pointer (some ⟨g2, 0, none⟩)) 16 107 rfl ?_ (fun _ _ => rfl)
              refine Hb.take (v := .pointer (some ⟨gO, 3, none⟩)) 17 108 rfl ?_ (fun w' hw' => by go_simp; first | done | rfl | omega | exact wrap_in (by omega) (by omega) | exact Int.tmod_eq_emod_of_nonneg (by omega) | exact Int.tdiv_eq_ediv_of_nonneg (by omega) | (simp; omega))
              refine Hb.take (v := .int .i64 x) 18 109 rfl ?_ (fun w' hw' => by have cc := ((show Blk wc.drew gO _ _ from KO.out).below hw' LG.out).cell (i := 3) rfl; go_simp)
              refine Hb.take (v := .pointer (some ⟨gO, 1, none⟩)) 19 110 rfl ?_ (fun w' hw' => by go_simp; first | done | rfl | omega | exact wrap_in (by omega) (by omega) | exact Int.tmod_eq_emod_of_nonneg (by omega) | exact Int.tdiv_eq_ediv_of_nonneg (by omega) | (simp; omega))
              refine Hb.take (v := .int .i64 co) 20 111 rfl ?_ (fun w' hw' => by have cc := ((show Blk wc.drew gO _ _ from KO.out).below hw' LG.out).cell (i := 1) rfl; go_simp)
              refine Hb.call (f := 19) (args := #[.pointer (some ⟨g, 0, none⟩), .int .i64 x, .int .i64 co]) 15 106 rfl ?_ (run_callf Try.func19 (by kernel_rfl) (by kernel_rfl) (by simp only [List.map_toArray, List.map_cons, List.map_nil]; rfl))
              refine (AZ.out.drew.s.good x co HX.out HU.out).mono ?_
              rintro e w5 ⟨rfl, rfl⟩
              refine Hb.back (Below.refl _ _) (Nat.le_refl _) ?_
              refine Hb.call (f := 18) (args := #[.pointer (some ⟨g2, 0, none⟩), .int .i64 x, .int .i64 co]) 21 112 rfl ?_ (run_callf Try.func18 (by kernel_rfl) (by kernel_rfl) (by simp only [List.map_toArray, List.map_cons, List.map_nil]; rfl))
              refine (AZ.out.drew.rleft x co HX.out HU2.out).mono ?_
              rintro e w5 ⟨rfl, rfl⟩
              refine Hb.back (Below.refl _ _) (Nat.le_refl _) ?_
              refine Hb.take (v := .bool (decide (0 < U))) 22 113 rfl ?_ (fun w' hw' => by go_simp; first | done | rfl | omega | exact wrap_in (by omega) (by omega) | exact Int.tmod_eq_emod_of_nonneg (by omega) | exact Int.tdiv_eq_ediv_of_nonneg (by omega) | (simp; omega))
              refine Hb.take (v := .bool false) 23 114 rfl ?_ (fun w' hw' => by cases decide (0 < U) <;> go_simp)
              refine Hb.take (v := .bool false) 24 115 rfl ?_ (fun _ _ => rfl)
              refine Hb.done ?_
-- END
              have AZ := Lib.hid AZ.out.drew
              go_wp2_with fail
              go_roundg (len - (i + 1))
              case measure => omega
              case rel => exact ⟨i + 1, last, cl, A, p, ck, cm, m, num, rk, rc, rfl, by omega, by omega, by omega, by go_num, AZ⟩
        · obtain rfl : i = 90 := by omega
          go_wp2_with fail
          go_ret
          exact ⟨rfl, HS.out.s.bel⟩
      · obtain rfl : i = len := by omega
        go_wp2_with fail
        go_ret
        exact ⟨rfl, HS.out.s.bel⟩
end Go.Proofs.Ytfppngeldlpjiaa
