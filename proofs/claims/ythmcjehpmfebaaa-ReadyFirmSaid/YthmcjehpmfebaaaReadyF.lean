/- Contract of the queue's least. -/
import Derived.Test.YthmcjehpmfebaaaReadyE
namespace Go.Proofs.Ythmcjehpmfebaaa
open Go.RowKit PReady

theorem lets_def (u : Fl) (a c n : Int) (e : Ent) : lets u a c n e = (level u a c e.lev && order u n e.ord e.stamp) := rfl
/-- The loop's state. -/
structure LS (w wr : World) (n i : Nat) (u : Fl) (g : Nat) (F : List Nat) (T : List Tl) (commit now : Int) (l : List Ent) : Prop where
  eq : least commit now T 0 Fl.none l = least commit now T i u (l.drop i)
  blk : Blk wr w.heap.size 72 (ucs u)
  bel : Below w.heap.size w wr
  qu : Qu wr g F T

set_option maxHeartbeats 8000000 in
set_option maxRecDepth 100000 in
theorem least_c (w : World) (g : Nat) (F : List Nat) (T : List Tl) (h : Qu w g F T) (A : Option Addr) (c n : Nat) (l : List Ent) (R : Rd w w.heap.size A c 7 n (els l)) (hfit : ∀ e ∈ l, PEnt.Fit e) (commit now : Int) :
    Calls Try.prog 27 #[.pointer (some ⟨g, 0, none⟩), .slice A n c, .int .i64 commit, .int .i64 now] w fun x w' => x = .returned (.int .i64 (spot (least commit now T 0 Fl.none l))) ∧ Below w.heap.size w w' := by
  have hcap := R.cap
  have hle := R.le
  have hn : n ≤ 9223372036854775807 := by unfold maxLen at hcap; omega
  have HL := Lib.hid R.elen
  have R0 := Lib.hid R
  have HF := Lib.hid hfit
  have B0 := (Below.refl w.heap.size w).alloc (Nat.le_refl _) (.cells #[.bool false, .bool false, .bool false] 72)
  have K0 := Blk.new w #[.bool false, .bool false, .bool false] 72
  have ST := Lib.hid (show LS w (w.alloc (.cells #[.bool false, .bool false, .bool false] 72)) n 0 Fl.none g F T commit now l from ⟨rfl, K0, B0, h.alloc _⟩)
  have HNF := Lib.hid (show w.heap.size ∉ F from fun hm => Nat.lt_irrefl _ (h.hi _ hm))
  clear R hcap hle hfit h B0 K0
  go_enter Try.func27, Try.ntmps27
  go_wp2_with fail
  go_loopw [15] (fun s15 wr => ∃ (i : Nat) (u : Fl), s15 = .int .i64 i ∧ i ≤ n ∧ Hid (LS w wr n i u g F T commit now l)) (fun s15 _ => n - (intOf s15).toNat)
  case atStart => exact ⟨0, Fl.none, rfl, by omega, ST⟩
  case round =>
    obtain ⟨i, u, rfl, hi, HS⟩ := hrel
    clear ST
    by_cases hlt : i < n
    · obtain ⟨b, o, e, rfl, hb, he, hmem, d0, d1, d2, d3, d4, d5, d6⟩ := (R0.out.below HS.out.bel).ent hlt
      have HE := Lib.hid he
      have HFe := Lib.hid (HF.out e hmem)
      have HLS := Lib.hid (least_step (commit := commit) (now := now) (T := T) (u := u) he)
      clear hb he hmem
      have B1 := Lib.hid (HS.out.bel.alloc HS.out.bel.size (.cells #[.int .i64 e.fr, .int .i64 e.boot, .int .i64 e.seq, .int .i64 e.ord, .int .i64 e.lev, .int .i64 e.stamp, .string e.data] 39))
      have K1 := Lib.hid (HS.out.blk.alloc (.cells #[.int .i64 e.fr, .int .i64 e.boot, .int .i64 e.seq, .int .i64 e.ord, .int .i64 e.lev, .int .i64 e.stamp, .string e.data] 39))
      have Q1 := Lib.hid (HS.out.qu.alloc (.cells #[.int .i64 e.fr, .int .i64 e.boot, .int .i64 e.seq, .int .i64 e.ord, .int .i64 e.lev, .int .i64 e.stamp, .string e.data] 39))
      have KE := Lib.hid (Blk.newEnt wr 39 e)
      have EQ := Lib.hid HS.out.eq
      clear HS
      go_wp2_with fail
      clear d0 d1 d2 d3 d4 d5 d6
      generalize (wr.alloc (.cells #[.int .i64 e.fr, .int .i64 e.boot, .int .i64 e.seq, .int .i64 e.ord, .int .i64 e.lev, .int .i64 e.stamp, .string e.data] 39)) = w1 at *
      refine (Has_c w1 g F T Q1.out e HFe.out).mono ?_
      cases hh : has T e
      · have HX := Lib.hid (show least commit now T 0 Fl.none l = if lets u ((i : Int) + 1) commit now e then some ((i : Int) + 1, e) else least commit now T (i + 1) (u.add e.ord) (l.drop (i + 1)) by rw [EQ.out, HLS.out, hh]; simp)
        clear hh EQ HLS
        rintro x w2 ⟨rfl, b2⟩
        have B2 := Lib.hid (B1.out.trans (b2.mono B1.out.size))
        have K2 := Lib.hid (K1.out.past b2)
        have Q2 := Lib.hid (Q1.out.past b2)
        have KE2 := Lib.hid (KE.out.past b2)
        clear b2 B1 K1 Q1 KE
        obtain ⟨d0, d1, d2, d3, d4, d5, d6⟩ := KE2.out.ent
        have c0 := K2.out.cell (i := 0) rfl
        have c1 := K2.out.cell (i := 1) rfl
        have c2 := K2.out.cell (i := 2) rfl
        go_wp2_with fail
        clear c0 c1 c2 d0 d1 d2 d3 d4 d5 d6
        refine (show Calls Try.prog _ #[_, .int .i64 ((i : Int) + 1), _, .agg #[.bool u.so, .bool u.tot, .bool u.tim]] w2 _ from levelLets_c w2 e.lev ((i : Int) + 1) commit u).mono ?_
        cases hv : level u ((i : Int) + 1) commit e.lev
        · have HY := Lib.hid (show least commit now T 0 Fl.none l = least commit now T (i + 1) (u.add e.ord) (l.drop (i + 1)) from HX.out.trans (if_neg (by rw [lets_def, hv]; simp)))
          clear hv HX
          rintro x w3 ⟨rfl, b3⟩
          have B3 := Lib.hid (B2.out.trans (b3.mono B2.out.size))
          have K3 := Lib.hid (K2.out.past b3)
          have Q3 := Lib.hid (Q2.out.past b3)
          have KE3 := Lib.hid (KE2.out.past b3)
          clear b3 B2 K2 Q2 KE2
          obtain ⟨d0, d1, d2, d3, d4, d5, d6⟩ := KE3.out.ent
          go_wp2_with fail
          clear d0 d1 d2 d3 d4 d5 d6
          refine (add_c w3 w.heap.size u K3.out e.ord).mono ?_
          rintro x w9 ⟨rfl, rfl⟩
          have LT := (show w.heap.size < w3.heap.size from K3.out.lt)
          have G9 := W3.grown w3 w.heap.size (u.add e.ord).tot (u.add e.ord).tim
          have NE := HNF.out
          have NX := Lib.hid (show LS w (W3 w3 w.heap.size (u.add e.ord).tot (u.add e.ord).tim) n (i + 1) (u.add e.ord) g F T commit now l from
            ⟨HY.out, W3.blk K3.out _ _, B3.out.grown G9 B3.out.size (fun k hk => by cases hk; exact Nat.le_refl _), Q3.out.touch (Touch.of_grown G9) (fun s hs => by rw [List.mem_singleton.1 hs]; exact NE)⟩)
          clear LT G9 NE B3 K3 Q3 KE3 HY
          generalize W3 w3 w.heap.size (u.add e.ord).tot (u.add e.ord).tim = w9 at *
          go_wp2_with fail
          go_roundw
          case rel => exact ⟨i + 1, u.add e.ord, by go_num, by omega, NX⟩
          case measure => simp [intOf]; omega
        rintro x w3 ⟨rfl, b3⟩
        have B3 := Lib.hid (B2.out.trans (b3.mono B2.out.size))
        have K3 := Lib.hid (K2.out.past b3)
        have Q3 := Lib.hid (Q2.out.past b3)
        have KE3 := Lib.hid (KE2.out.past b3)
        clear b3 B2 K2 Q2 KE2
        obtain ⟨d0, d1, d2, d3, d4, d5, d6⟩ := KE3.out.ent
        have c0 := K3.out.cell (i := 0) rfl
        have c1 := K3.out.cell (i := 1) rfl
        have c2 := K3.out.cell (i := 2) rfl
        go_wp2_with fail
        clear c0 c1 c2 d0 d1 d2 d3 d4 d5 d6
        refine (show Calls Try.prog _ #[.agg #[.int .i64 e.fr, .int .i64 e.boot, .int .i64 e.seq, .int .i64 e.ord, .int .i64 e.lev, .int .i64 e.stamp, .string e.data], _, .agg #[.bool u.so, .bool u.tot, .bool u.tim]] w3 _ from orderLets_c w3 e now u HFe.out).mono ?_
        cases ho : order u now e.ord e.stamp
        · have HY := Lib.hid (show least commit now T 0 Fl.none l = least commit now T (i + 1) (u.add e.ord) (l.drop (i + 1)) from HX.out.trans (if_neg (by rw [lets_def, ho]; simp)))
          clear ho hv HX
          rintro x w4 ⟨rfl, b4⟩
          have B4 := Lib.hid (B3.out.trans (b4.mono B3.out.size))
          have K4 := Lib.hid (K3.out.past b4)
          have Q4 := Lib.hid (Q3.out.past b4)
          have KE4 := Lib.hid (KE3.out.past b4)
          clear b4 B3 K3 Q3 KE3
          obtain ⟨d0, d1, d2, d3, d4, d5, d6⟩ := KE4.out.ent
          go_wp2_with fail
          clear d0 d1 d2 d3 d4 d5 d6
          refine (add_c w4 w.heap.size u K4.out e.ord).mono ?_
          rintro x w9 ⟨rfl, rfl⟩
          have LT := (show w.heap.size < w4.heap.size from K4.out.lt)
          have G9 := W3.grown w4 w.heap.size (u.add e.ord).tot (u.add e.ord).tim
          have NE := HNF.out
          have NX := Lib.hid (show LS w (W3 w4 w.heap.size (u.add e.ord).tot (u.add e.ord).tim) n (i + 1) (u.add e.ord) g F T commit now l from
            ⟨HY.out, W3.blk K4.out _ _, B4.out.grown G9 B4.out.size (fun k hk => by cases hk; exact Nat.le_refl _), Q4.out.touch (Touch.of_grown G9) (fun s hs => by rw [List.mem_singleton.1 hs]; exact NE)⟩)
          clear LT G9 NE B4 K4 Q4 KE4 HY
          generalize W3 w4 w.heap.size (u.add e.ord).tot (u.add e.ord).tim = w9 at *
          go_wp2_with fail
          go_roundw
          case rel => exact ⟨i + 1, u.add e.ord, by go_num, by omega, NX⟩
          case measure => simp [intOf]; omega
        · have HY := Lib.hid (show least commit now T 0 Fl.none l = some ((i : Int) + 1, e) from HX.out.trans (if_pos (by rw [lets_def, hv, ho]; rfl)))
          clear ho hv HX
          rintro x w4 ⟨rfl, b4⟩
          go_wp2_with fail
          go_ret
          exact ⟨by rw [HY.out]; rfl, B3.out.trans (b4.mono B3.out.size)⟩
      · have HX := Lib.hid (show least commit now T 0 Fl.none l = least commit now T (i + 1) u (l.drop (i + 1)) by rw [EQ.out, HLS.out, hh]; simp)
        clear hh EQ HLS
        rintro x w2 ⟨rfl, b2⟩
        have NX := Lib.hid (show LS w w2 n (i + 1) u g F T commit now l from ⟨HX.out, K1.out.past b2, B1.out.trans (b2.mono B1.out.size), Q1.out.past b2⟩)
        clear b2 B1 K1 Q1 KE HX
        go_wp2_with fail
        go_roundw
        case rel => exact ⟨i + 1, u, by go_num, by omega, NX⟩
        case measure => simp [intOf]; omega
    · obtain rfl : i = n := by omega
      have HY := Lib.hid (show least commit now T 0 Fl.none l = none by rw [HS.out.eq]; exact least_done (by rw [HL.out]; exact Nat.le_refl _))
      go_wp2_with fail
      go_ret
      exact ⟨by rw [HY.out]; rfl, HS.out.bel⟩
end Go.Proofs.Ythmcjehpmfebaaa
