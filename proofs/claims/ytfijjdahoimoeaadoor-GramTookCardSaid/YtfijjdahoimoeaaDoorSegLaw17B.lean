/- The walk of GramTook. -/
import Derived.Test.YtfijjdahoimoeaaDoorSeg13
namespace Go.Proofs.YtfijjdahoimoeaaDoor
open Go.RowKit

def tMsg (kind fr num there : Int) : Msg := ⟨kind, fr, 1, 1, 0, 0, 0, 0, [], 0, num, there, false⟩
theorem took_same {s c x : Int} (h1 : 0 ≤ s) (h2 : s ≤ 1073741824) (h3 : s ≤ c) (h4 : c ≤ 2147483648) (h5 : 0 ≤ x) (h6 : x ≤ 1099511627776) : PDelay.bound s x x c 0 = (c - s, true) := by
  have hw := PDelay.went_of (x := s) (y := c) (by omega) (by omega) (by omega) (by omega) (by omega) (by omega)
  have hk := PDelay.went_of (x := x) (y := x) (by omega) (by omega) (by omega) (by omega) (by omega) (by omega)
  rw [PDelay.bound_in hw hk (by unfold PDelay.Rate; omega) (by omega), PDelay.raw_zero]
  congr 1
  omega

set_option maxHeartbeats 4000000 in
set_option maxRecDepth 100000 in
theorem GramTook_w (w : World) (ht : Tab w) (sent came num other there : Int) : Calls Tryd.prog 6 #[.int .i64 sent, .int .i64 came, .int .i64 num, .int .i64 other, .int .i64 there] w fun e w' => e = .returned (.bool true) ∧ Below w.heap.size w w' := by
  have HT := Lib.hid ht
  clear ht
  rcases Int.lt_or_le sent 0 with cb | g1
  · go_enter Tryd.func6, Tryd.ntmps6
    go_wp2_with fail
    refine (begunG_c w HT.out).mono ?_
    rintro x w1 ⟨rfl, b1⟩
    go_wp2_with fail
    go_ret
    exact ⟨rfl, b1⟩
  rcases Int.lt_or_le 1073741824 sent with cb | g2
  · go_enter Tryd.func6, Tryd.ntmps6
    go_wp2_with fail
    refine (begunG_c w HT.out).mono ?_
    rintro x w1 ⟨rfl, b1⟩
    go_wp2_with fail
    go_ret
    exact ⟨rfl, b1⟩
  rcases Int.lt_or_le came sent with cb | g3
  · go_enter Tryd.func6, Tryd.ntmps6
    go_wp2_with fail
    refine (begunG_c w HT.out).mono ?_
    rintro x w1 ⟨rfl, b1⟩
    go_wp2_with fail
    go_ret
    exact ⟨rfl, b1⟩
  rcases Int.lt_or_le 2147483648 came with cb | g4
  · go_enter Tryd.func6, Tryd.ntmps6
    go_wp2_with fail
    refine (begunG_c w HT.out).mono ?_
    rintro x w1 ⟨rfl, b1⟩
    go_wp2_with fail
    go_ret
    exact ⟨rfl, b1⟩
  rcases Int.lt_or_le num 0 with cb | g5
  · go_enter Tryd.func6, Tryd.ntmps6
    go_wp2_with fail
    refine (begunG_c w HT.out).mono ?_
    rintro x w1 ⟨rfl, b1⟩
    go_wp2_with fail
    go_ret
    exact ⟨rfl, b1⟩
  rcases Int.lt_or_le 1099511627776 num with cb | g6
  · go_enter Tryd.func6, Tryd.ntmps6
    go_wp2_with fail
    refine (begunG_c w HT.out).mono ?_
    rintro x w1 ⟨rfl, b1⟩
    go_wp2_with fail
    go_ret
    exact ⟨rfl, b1⟩
  rcases Int.lt_or_le other 0 with cb | g7
  · go_enter Tryd.func6, Tryd.ntmps6
    go_wp2_with fail
    refine (begunG_c w HT.out).mono ?_
    rintro x w1 ⟨rfl, b1⟩
    go_wp2_with fail
    go_ret
    exact ⟨rfl, b1⟩
  rcases Int.lt_or_le 1099511627776 other with cb | g8
  · go_enter Tryd.func6, Tryd.ntmps6
    go_wp2_with fail
    refine (begunG_c w HT.out).mono ?_
    rintro x w1 ⟨rfl, b1⟩
    go_wp2_with fail
    go_ret
    exact ⟨rfl, b1⟩
  rcases Int.lt_or_le there 0 with cb | g9
  · go_enter Tryd.func6, Tryd.ntmps6
    go_wp2_with fail
    refine (begunG_c w HT.out).mono ?_
    rintro x w1 ⟨rfl, b1⟩
    go_wp2_with fail
    go_ret
    exact ⟨rfl, b1⟩
  rcases Int.lt_or_le 1099511627776 there with cb | g10
  · go_enter Tryd.func6, Tryd.ntmps6
    go_wp2_with fail
    refine (begunG_c w HT.out).mono ?_
    rintro x w1 ⟨rfl, b1⟩
    go_wp2_with fail
    go_ret
    exact ⟨rfl, b1⟩
  have h1 := took_same g1 g2 g3 g4 g9 g10
  have HT1 := Lib.hid (show PGram.took (PGram.sentL PGram.zeroL 2 num sent) (tMsg 13 2 other there) came 0 = if num = other then (came - sent, true) else (0, false) by
    rw [← h1]
    show (if PGram.isId 2 = true ∧ (13 : Int) = 13 ∧ true = true ∧ num = other then PDelay.bound sent there there came 0 else (0, false)) = _
    by_cases e : num = other
    · rw [if_pos ⟨by decide, rfl, rfl, e⟩, if_pos e]
    · rw [if_neg (fun x => e x.2.2.2), if_neg e])
  have HT2 := Lib.hid (show PGram.took (PGram.sentL PGram.zeroL 2 num sent) (tMsg 13 3 num there) came 0 = (0, false) from if_neg (fun x => by have := x.2.2.1; revert this; show false = true → False; decide))
  have HT3 := Lib.hid (show PGram.took (PGram.sentL PGram.zeroL 2 num sent) (tMsg 12 2 num there) came 0 = (0, false) from if_neg (fun x => by have := x.2.1; revert this; show (12 : Int) = 13 → False; decide))
  clear h1
  by_cases e : num = other
  · rw [if_pos e] at HT1
    have t1 : (num == other) = true := by simp [e]
    clear e
    go_enter Tryd.func6, Tryd.ntmps6
    go_wp2_with fail
    refine (begunG_c w HT.out).mono ?_
    rintro x w1 ⟨rfl, b1⟩
    go_wp2_with fail
    refine (gNew_gs b1 1 (by decide)).mono ?_
    rintro x w2 ⟨rfl, g2', -⟩
    have G2 := Lib.hid g2'
    clear g2' b1
    generalize w1.heap.size = g at *
    go_wp2_with fail
    refine (sent_c w2 g 1 PGram.zeroL G2.out.gm 2 num sent).mono ?_
    rintro x w3 ⟨rfl, g3', t3⟩
    have G3 := Lib.hid (G2.out.go g3' t3)
    clear g3' t3 G2
    generalize PGram.sentL PGram.zeroL 2 num sent = L at *
    go_wp2_with fail
    have e1 := took_c w3 g 1 L G3.out.gm (tMsg 13 2 other there) none 0 came 0
    rw [HT1.out] at e1
    refine (show Calls _ _ #[_, .agg #[.int .i64 13, .int .i64 2, .int .i64 1, .int .i64 1, .int .i64 0, .int .i64 0, .int .i64 0, .int .i64 0, .slice none 0 0, .int .i64 0, .int .i64 other, .int .i64 there, .bool false], _, _] w3 _ from e1).mono ?_
    clear e1
    rintro x w4 ⟨rfl, b4⟩
    have G4 := Lib.hid (G3.out.past b4)
    clear b4 G3
    go_wp2_with fail
    have e1 := took_c w4 g 1 L G4.out.gm (tMsg 13 3 num there) none 0 came 0
    rw [HT2.out] at e1
    refine (show Calls _ _ #[_, .agg #[.int .i64 13, .int .i64 3, .int .i64 1, .int .i64 1, .int .i64 0, .int .i64 0, .int .i64 0, .int .i64 0, .slice none 0 0, .int .i64 0, .int .i64 num, .int .i64 there, .bool false], _, _] w4 _ from e1).mono ?_
    clear e1
    rintro x w5 ⟨rfl, b5⟩
    have G5 := Lib.hid (G4.out.past b5)
    clear b5 G4
    go_wp2_with fail
    have e1 := took_c w5 g 1 L G5.out.gm (tMsg 12 2 num there) none 0 came 0
    rw [HT3.out] at e1
    refine (show Calls _ _ #[_, .agg #[.int .i64 12, .int .i64 2, .int .i64 1, .int .i64 1, .int .i64 0, .int .i64 0, .int .i64 0, .int .i64 0, .slice none 0 0, .int .i64 0, .int .i64 num, .int .i64 there, .bool false], _, _] w5 _ from e1).mono ?_
    clear e1
    rintro x w6 ⟨rfl, b6⟩
    have G6 := Lib.hid (G5.out.past b6)
    clear b6 G5
    go_wp2_with fail
    go_ret
    exact ⟨rfl, G6.out.bel⟩
  · rw [if_neg e] at HT1
    have t1 : (num == other) = false := by simp [e]
    clear e
    go_enter Tryd.func6, Tryd.ntmps6
    go_wp2_with fail
    refine (begunG_c w HT.out).mono ?_
    rintro x w1 ⟨rfl, b1⟩
    go_wp2_with fail
    refine (gNew_gs b1 1 (by decide)).mono ?_
    rintro x w2 ⟨rfl, g2', -⟩
    have G2 := Lib.hid g2'
    clear g2' b1
    generalize w1.heap.size = g at *
    go_wp2_with fail
    refine (sent_c w2 g 1 PGram.zeroL G2.out.gm 2 num sent).mono ?_
    rintro x w3 ⟨rfl, g3', t3⟩
    have G3 := Lib.hid (G2.out.go g3' t3)
    clear g3' t3 G2
    generalize PGram.sentL PGram.zeroL 2 num sent = L at *
    go_wp2_with fail
    have e1 := took_c w3 g 1 L G3.out.gm (tMsg 13 2 other there) none 0 came 0
    rw [HT1.out] at e1
    refine (show Calls _ _ #[_, .agg #[.int .i64 13, .int .i64 2, .int .i64 1, .int .i64 1, .int .i64 0, .int .i64 0, .int .i64 0, .int .i64 0, .slice none 0 0, .int .i64 0, .int .i64 other, .int .i64 there, .bool false], _, _] w3 _ from e1).mono ?_
    clear e1
    rintro x w4 ⟨rfl, b4⟩
    have G4 := Lib.hid (G3.out.past b4)
    clear b4 G3
    go_wp2_with fail
    have e1 := took_c w4 g 1 L G4.out.gm (tMsg 13 3 num there) none 0 came 0
    rw [HT2.out] at e1
    refine (show Calls _ _ #[_, .agg #[.int .i64 13, .int .i64 3, .int .i64 1, .int .i64 1, .int .i64 0, .int .i64 0, .int .i64 0, .int .i64 0, .slice none 0 0, .int .i64 0, .int .i64 num, .int .i64 there, .bool false], _, _] w4 _ from e1).mono ?_
    clear e1
    rintro x w5 ⟨rfl, b5⟩
    have G5 := Lib.hid (G4.out.past b5)
    clear b5 G4
    go_wp2_with fail
    have e1 := took_c w5 g 1 L G5.out.gm (tMsg 12 2 num there) none 0 came 0
    rw [HT3.out] at e1
    refine (show Calls _ _ #[_, .agg #[.int .i64 12, .int .i64 2, .int .i64 1, .int .i64 1, .int .i64 0, .int .i64 0, .int .i64 0, .int .i64 0, .slice none 0 0, .int .i64 0, .int .i64 num, .int .i64 there, .bool false], _, _] w5 _ from e1).mono ?_
    clear e1
    rintro x w6 ⟨rfl, b6⟩
    have G6 := Lib.hid (G5.out.past b6)
    clear b6 G5
    go_wp2_with fail
    go_ret
    exact ⟨rfl, G6.out.bel⟩
end Go.Proofs.YtfijjdahoimoeaaDoor

