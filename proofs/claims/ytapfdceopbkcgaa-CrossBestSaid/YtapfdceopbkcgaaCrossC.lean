/- endsOf: the lows and the highs of those that have times, each sorted. -/
import Derived.Test.YtapfdceopbkcgaaCrossB
import Derived.Deep.CutRange
namespace Go.Proofs.Ytapfdceopbkcgaa
open Go.RowKit
open PDrift (pr)

theorem i64_info : (Try.prog.info? 2).map (fun i => (i.zero, i.size, i.bytes)) = some (some (.int .i64 0), 1, 8) := by kernel_rfl

/-- The state of endsOf: the box of e (block b0 + 1), the result's (block b0), two rows of the call's own that are two. -/
structure Es (w0 w : World) (A1 : Option Addr) (n1 c1 : Nat) (lo : List Int) (A2 : Option Addr) (n2 c2 : Nat) (hi : List Int) : Prop where
  e : Blk w (w0.heap.size + 1) 47 [.slice A1 n1 c1, .slice A2 n2 c2]
  r : Blk w w0.heap.size 47 [.slice none 0 0, .slice none 0 0]
  l : Ow w w0.heap.size 2 1 A1 n1 c1 (is lo)
  h : Ow w w0.heap.size 2 1 A2 n2 c2 (is hi)
  d : ∀ g, bk A1 = some g → bk A2 ≠ some g
  b : Below w0.heap.size w0 w

section
variable {w0 w w' : World} {A1 A2 A' : Option Addr} {n1 c1 n2 c2 n' c' : Nat} {lo hi xs : List Int}
theorem Es.past (s : Es w0 w A1 n1 c1 lo A2 n2 c2 hi) (hb : Below w.heap.size w w') : Es w0 w' A1 n1 c1 lo A2 n2 c2 hi :=
  ⟨s.e.past hb, s.r.past hb, s.l.past hb, s.h.past hb, s.d, s.b.trans (hb.mono s.b.size)⟩
theorem Es.notL (s : Es w0 w A1 n1 c1 lo A2 n2 c2 hi) {g : Nat} {e : TypeId} {ys : List Value} (hg : Blk w g e ys) (he : 2 ≠ e) : g ∉ bl A1 := fun hm => s.l.ne hg he (mem_bl.1 hm)
theorem Es.notH (s : Es w0 w A1 n1 c1 lo A2 n2 c2 hi) {g : Nat} {e : TypeId} {ys : List Value} (hg : Blk w g e ys) (he : 2 ≠ e) : g ∉ bl A2 := fun hm => s.h.ne hg he (mem_bl.1 hm)
theorem bl_low {base : Nat} (h : Ow w base 2 1 A1 n1 c1 (is lo)) : ∀ k ∈ bl A1, base ≤ k := fun k hk => h.low k (mem_bl.1 hk)
theorem disj (h : ∀ g, bk A1 = some g → bk A2 ≠ some g) : ∀ g ∈ bl A1, bk A2 ≠ some g := fun g hg => h g (mem_bl.1 hg)
theorem disj' (h : ∀ g, bk A1 = some g → bk A2 ≠ some g) : ∀ g ∈ bl A2, bk A1 ≠ some g := fun g hg hm => h g hm (mem_bl.1 hg)
/-- Behind an append to the lows, stored. -/
theorem Es.low (s : Es w0 w A1 n1 c1 lo A2 n2 c2 hi) (O : Ow w' w0.heap.size 2 1 A' n' c' (is xs)) (hg : w.grownBy w' (bk A1)) (hn : ∀ g, bk A' = some g → bk A1 = some g ∨ w.heap.size ≤ g) :
    Es w0 (w'.setCell ⟨w0.heap.size + 1, 0, none⟩ (.slice A' n' c')) A' n' c' xs A2 n2 c2 hi := by
  have T := Touch.of_bk hg
  have e' := s.e.touch T (s.notL s.e (by decide))
  have T2 : Touch [w0.heap.size + 1] w' (w'.setCell ⟨w0.heap.size + 1, 0, none⟩ (.slice A' n' c')) := Touch.of_grown (grown_set _ _ _ _)
  have h' := s.h.touch T (disj s.d)
  have b' := s.b.trans (T.below (bl_low s.l) s.b.size)
  refine ⟨e'.set 0 _, (s.r.touch T (s.notL s.r (by decide))).touch T2 (by simp), O.touch T2 (by simpa using O.ne e' (by decide)), h'.touch T2 (by simpa using h'.ne e' (by decide)), fun g h1 h2 => ?_, b'.trans (T2.below (by simp) b'.size)⟩
  rcases hn g h1 with h3 | h3
  · exact s.d g h3 h2
  · have := s.h.hi g h2; omega
/-- Behind an append to the highs, stored. -/
theorem Es.high (s : Es w0 w A1 n1 c1 lo A2 n2 c2 hi) (O : Ow w' w0.heap.size 2 1 A' n' c' (is xs)) (hg : w.grownBy w' (bk A2)) (hn : ∀ g, bk A' = some g → bk A2 = some g ∨ w.heap.size ≤ g) :
    Es w0 (w'.setCell ⟨w0.heap.size + 1, 1, none⟩ (.slice A' n' c')) A1 n1 c1 lo A' n' c' xs := by
  have T := Touch.of_bk hg
  have e' := s.e.touch T (s.notH s.e (by decide))
  have T2 : Touch [w0.heap.size + 1] w' (w'.setCell ⟨w0.heap.size + 1, 1, none⟩ (.slice A' n' c')) := Touch.of_grown (grown_set _ _ _ _)
  have l' := s.l.touch T (disj' s.d)
  have b' := s.b.trans (T.below (bl_low s.h) s.b.size)
  refine ⟨e'.set 1 _, (s.r.touch T (s.notH s.r (by decide))).touch T2 (by simp), l'.touch T2 (by simpa using l'.ne e' (by decide)), O.touch T2 (by simpa using O.ne e' (by decide)), fun g h1 h2 => ?_, b'.trans (T2.below (by simp) b'.size)⟩
  rcases hn g h2 with h3 | h3
  · exact s.d g h1 h3
  · have := s.l.hi g h1; omega
/-- Behind a sort. -/
theorem Es.sortL (s : Es w0 w A1 n1 c1 lo A2 n2 c2 hi) (O : Ow w' w0.heap.size 2 1 A1 n1 c1 (is xs)) (T : Touch (bl A1) w w') : Es w0 w' A1 n1 c1 xs A2 n2 c2 hi :=
  ⟨s.e.touch T (s.notL s.e (by decide)), s.r.touch T (s.notL s.r (by decide)), O, s.h.touch T (disj s.d), s.d, s.b.trans (T.below (bl_low s.l) s.b.size)⟩
theorem Es.sortH (s : Es w0 w A1 n1 c1 lo A2 n2 c2 hi) (O : Ow w' w0.heap.size 2 1 A2 n2 c2 (is xs)) (T : Touch (bl A2) w w') : Es w0 w' A1 n1 c1 lo A2 n2 c2 xs :=
  ⟨s.e.touch T (s.notH s.e (by decide)), s.r.touch T (s.notH s.r (by decide)), s.l.touch T (disj' s.d), O, s.d, s.b.trans (T.below (bl_low s.h) s.b.size)⟩
end

def lows (l : List (Int × Int)) : List Int := (PCross.good l).map Prod.fst
def highs (l : List (Int × Int)) : List Int := (PCross.good l).map Prod.snd
theorem lows_step {l : List (Int × Int)} {i : Nat} (h : i < l.length) {x y : Int} (hp : pr l i = (x, y)) : lows (l.take (i + 1)) = if x ≤ y then lows (l.take i) ++ [x] else lows (l.take i) := by
  unfold lows
  rw [PCross.good_step l h, hp]
  by_cases e : x ≤ y <;> simp [e]
theorem highs_step {l : List (Int × Int)} {i : Nat} (h : i < l.length) {x y : Int} (hp : pr l i = (x, y)) : highs (l.take (i + 1)) = if x ≤ y then highs (l.take i) ++ [y] else highs (l.take i) := by
  unfold highs
  rw [PCross.good_step l h, hp]
  by_cases e : x ≤ y <;> simp [e]

set_option maxHeartbeats 2000000 in
set_option maxRecDepth 100000 in
theorem endsOf_c (w : World) (A : Option Addr) (c n : Nat) (l : List (Int × Int)) (h : Rd w w.heap.size A c 2 n (tcs l)) (hn : n ≤ 1000) :
    Calls Try.prog 17 #[.slice A n c] w fun e w' => ∃ A1 c1 A2 c2 m, e = .returned (ev A1 c1 A2 c2 m) ∧ m ≤ n ∧ Below w.heap.size w w' ∧ ∃ S T, PCross.Ends l S T ∧ Rd w' w'.heap.size A1 c1 1 m (is S) ∧ Rd w' w'.heap.size A2 c2 1 m (is T) := by
  have hln := h.plen
  have R0 := h
  clear h
  go_enter Try.func17, Try.ntmps17
  go_wp2_with fail
  have b1 := ((Below.refl w.heap.size w).alloc (Nat.le_refl _) (.cells #[.slice none 0 0, .slice none 0 0] 47)).alloc (by simp) (.cells #[.slice none 0 0, .slice none 0 0] 47)
  have K0 := (Blk.new w #[.slice none 0 0, .slice none 0 0] 47).alloc (.cells #[.slice none 0 0, .slice none 0 0] 47)
  have K1 := Blk.new (w.alloc (.cells #[.slice none 0 0, .slice none 0 0] 47)) #[.slice none 0 0, .slice none 0 0] 47
  rw [show (w.alloc (.cells #[.slice none 0 0, .slice none 0 0] 47)).heap.size = w.heap.size + 1 by simp] at K1
  have R1 := (R0.alloc (.cells #[.slice none 0 0, .slice none 0 0] 47)).alloc (.cells #[.slice none 0 0, .slice none 0 0] 47)
  generalize (w.alloc (.cells #[.slice none 0 0, .slice none 0 0] 47)).alloc (.cells #[.slice none 0 0, .slice none 0 0] 47) = w1 at *
  have S1 := Lib.hid (show Es w w1 none 0 0 (lows (l.take 0)) none 0 0 (highs (l.take 0)) from ⟨K1, K0, Ow.nil _ _ _ _, Ow.nil _ _ _ _, fun g hg => (by cases hg), b1⟩)
  have R1 := Lib.hid R1
  clear K0 K1 b1 R0
  go_loopw [8] (fun s8 wr => ∃ (i m : Nat) (A1 : Option Addr) (c1 : Nat) (A2 : Option Addr) (c2 : Nat), i ≤ n ∧ m ≤ i ∧ s8 = .int .i64 i ∧ Hid (Es w wr A1 m c1 (lows (l.take i)) A2 m c2 (highs (l.take i))) ∧ Hid (Rd wr w.heap.size A c 2 n (tcs l))) (fun s8 _ => n - (intOf s8).toNat)
  case atStart => exact ⟨0, 0, none, 0, none, 0, by omega, by omega, rfl, S1, R1⟩
  case round =>
    clear S1 R1
    obtain ⟨i, m, A1, c1, A2, c2, hi, hmi, rfl, SE, RT⟩ := hrel
    by_cases hin : i < n
    · obtain ⟨b, o, hA, hbB, k1, k2⟩ := RT.out.pairB hin
      subst hA
      obtain ⟨x, hx⟩ : ∃ x, x = (pr l i).1 := ⟨_, rfl⟩
      obtain ⟨y, hy⟩ : ∃ y, y = (pr l i).2 := ⟨_, rfl⟩
      rw [← hx] at k1
      rw [← hy] at k2
      have HP := Lib.hid (show pr l i = (x, y) by rw [hx, hy])
      have hil : i < l.length := by omega
      clear hx hy
      have bel := (Below.refl wr.heap.size wr).alloc (Nat.le_refl _) (.cells #[.int .i64 x, .int .i64 y] 28)
      by_cases hg : x ≤ y
      · have HL := Lib.hid (show lows (l.take (i + 1)) = lows (l.take i) ++ [x] by rw [lows_step hil HP.out, if_pos hg])
        have HH := Lib.hid (show highs (l.take (i + 1)) = highs (l.take i) ++ [y] by rw [highs_step hil HP.out, if_pos hg])
        have S2 := SE.out.past bel
        have e0 := SE.out.e.cell (i := 0) rfl
        have bel2 := (Below.refl (wr.alloc (.cells #[.int .i64 x, .int .i64 y] 28)).heap.size _).alloc (Nat.le_refl _) (.cells #[.int .i64 x] 2)
        have S3 := S2.past bel2
        have KR := (Blk.new wr #[.int .i64 x, .int .i64 y] 28).past bel2
        have RN := Rd.new (wr.alloc (.cells #[.int .i64 x, .int .i64 y] 28)) #[.int .i64 x] 2 1 1 rfl (by simp [maxLen])
        rw [show (wr.alloc (.cells #[.int .i64 x, .int .i64 y] 28)).heap.size = wr.heap.size + 1 by simp] at RN
        have O3 := S3.l
        have hsz := S3.b.size
        clear S2
        have hlt := SE.out.e.lt
        go_wp2_with (at_builtin; go_must (refine wpList_app2 rfl (.tmp 18) (.tmp 21) 45 rfl w.heap.size 2 _ 1 8 Try.underlying45 i64_info rfl (by omega) A1 m c1 (is (lows (l.take i))) rfl O3 _ _ 1 1 _ rfl RN (is_one [x]) ?c2 ?c3 hsz ?_))
        case c2 => unfold maxLen; omega
        case c3 => omega
        intro A6 c6 w6 O6 g6 n6
        have T6 := Touch.of_bk g6
        have E6 := S3.e.touch T6 (S3.notL S3.e (by decide))
        have KR6 := Lib.hid (KR.touch T6 (S3.notL KR (by decide)))
        have RT6 := RT.out.below ((bel.mono SE.out.b.size).trans ((bel2.mono (Nat.le_trans SE.out.b.size (by simp))).trans (T6.below (bl_low S3.l) S3.b.size)))
        have S7 := Lib.hid (S3.low (xs := lows (l.take i) ++ [x]) (by rw [is_append]; exact O6) g6 (fun g hg => (n6 g hg).imp_right (fun h => by simp; omega)))
        have RT7 := Lib.hid (RT6.setCell (p := ⟨w.heap.size + 1, 0, none⟩) (by simp) (.slice A6 (m + 1) c6))
        have KR7 := KR6.out.far (grown_set w6 (w.heap.size + 1) 0 (.slice A6 (m + 1) c6)) (by omega)
        have e0 := E6.cell (i := 0) rfl
        have f0 := E6.free 0
        clear S3 O3 KR RN T6 E6 O6 g6 n6 bel bel2 hsz RT6 k1 k2
        go_upto_region 7 with fail
        generalize w6.setCell ⟨w.heap.size + 1, 0, none⟩ (.slice A6 (m + 1) c6) = w7 at *
        clear e0 f0
        have e1 := S7.out.e.cell (i := 1) rfl
        have r1 := KR7.cell (i := 1) rfl
        have bel2 := (Below.refl w7.heap.size w7).alloc (Nat.le_refl _) (.cells #[.int .i64 y] 2)
        have S8 := S7.out.past bel2
        have RN := Rd.new w7 #[.int .i64 y] 2 1 1 rfl (by simp [maxLen])
        have O8 := S8.h
        have hsz := S8.b.size
        go_wp2_with (at_builtin; go_must (refine wpList_app2 rfl (.tmp 25) (.tmp 28) 45 rfl w.heap.size 2 _ 1 8 Try.underlying45 i64_info rfl (by omega) A2 m c2 (is (highs (l.take i))) rfl O8 _ _ 1 1 _ rfl RN (is_one [y]) ?c2 ?c3 hsz ?_))
        case c2 => unfold maxLen; omega
        case c3 => omega
        intro A9 c9 w9 O9 g9 n9
        have T9 := Touch.of_bk g9
        have E9 := S8.e.touch T9 (S8.notH S8.e (by decide))
        have RT9 := RT7.out.below ((bel2.mono S7.out.b.size).trans (T9.below (bl_low S8.h) S8.b.size))
        have SA := Lib.hid (S8.high (xs := highs (l.take i) ++ [y]) (by rw [is_append]; exact O9) g9 (fun g hg => (n9 g hg).imp_right (fun h => by simp; omega)))
        rw [← HL.out, ← HH.out] at SA
        have RTA := Lib.hid (RT9.setCell (p := ⟨w.heap.size + 1, 1, none⟩) (by simp) (.slice A9 (m + 1) c9))
        have e1 := E9.cell (i := 1) rfl
        have f1 := E9.free 1
        clear S8 O8 RN T9 E9 O9 g9 n9 bel2 hsz RT9 HL HH S7 KR7 RT7
        go_wp2_with fail
        go_roundw
        case rel => exact ⟨i + 1, m + 1, A6, c6, A9, c9, by omega, by omega, by go_num, SA, RTA⟩
        case measure => simp [intOf]; omega
      · have HL := Lib.hid (show lows (l.take (i + 1)) = lows (l.take i) by rw [lows_step hil HP.out, if_neg hg])
        have HH := Lib.hid (show highs (l.take (i + 1)) = highs (l.take i) by rw [highs_step hil HP.out, if_neg hg])
        have S2 := Lib.hid (SE.out.past bel)
        rw [← HL.out, ← HH.out] at S2
        have RT2 := Lib.hid (RT.out.below (bel.mono SE.out.b.size))
        clear bel SE RT HL HH
        go_wp2_with fail
        go_roundw
        case rel => exact ⟨i + 1, m, A1, c1, A2, c2, by omega, by omega, by go_num, S2, RT2⟩
        case measure => simp [intOf]; omega
    · obtain rfl : i = n := by omega
      have hl0 : l.take i = l := List.take_of_length_le (by omega)
      rw [hl0] at SE
      have e0 := SE.out.e.cell (i := 0) rfl
      go_wp2_with fail
      refine (srt_c wr w.heap.size A1 c1 m (lows l) SE.out.l (by omega)).mono ?_
      rintro e w2 ⟨rfl, S, p1, q1, O2, t2⟩
      have SE2 := Lib.hid (SE.out.sortL O2 t2)
      have e1 := SE2.out.e.cell (i := 1) rfl
      clear O2 t2 e0
      go_wp2_with fail
      refine (srt_c w2 w.heap.size A2 c2 m (highs l) SE2.out.h (by omega)).mono ?_
      rintro e w3 ⟨rfl, T, p2, q2, O3, t3⟩
      have SE3 := Lib.hid (SE2.out.sortH O3 t3)
      have HE := Lib.hid (PCross.ends_of p1 p2 q1 q2)
      have e1 := SE3.out.e.cell (i := 0) rfl
      have e2 := SE3.out.e.cell (i := 1) rfl
      clear O3 t3 p1 p2 q1 q2 SE2 SE RT
      go_wp2_with ((with_reducible show wpList _ _ _ ((⟨none, Op.store _ _ _, _, _, _, _⟩ : Oper) :: _) _ _); go_must (refine wpList_store_row rfl 47 _ _ rfl w.heap.size _ rfl rfl _ _ SE3.out.r (by kernel_rfl) (by rfl) (by kernel_rfl) ?_))
      have hgr := grown_row w3 w.heap.size #[.slice A1 m c1, .slice A2 m c2]
      have KF := SE3.out.r.row #[.slice A1 m c1, .slice A2 m c2]
      have BF := Lib.hid (SE3.out.b.trans (grown_below hgr (Nat.le_refl _) SE3.out.b.size))
      have RA := SE3.out.l.touch (Touch.of_grown hgr) (by simpa using SE3.out.l.ne SE3.out.r (by decide))
      have RB := SE3.out.h.touch (Touch.of_grown hgr) (by simpa using SE3.out.h.ne SE3.out.r (by decide))
      go_wp2_with fail
      refine bodyPost_ret (v := ev A1 c1 A2 c2 m) (results_cell_row rfl _ _ w.heap.size _ _ _ _ rfl KF Try.underlying47 rfl (by kernel_rfl)) rfl ⟨A1, c1, A2, c2, m, rfl, hmi, BF.out, S, T, HE.out, RA.rd, RB.rd⟩
end Go.Proofs.Ytapfdceopbkcgaa
