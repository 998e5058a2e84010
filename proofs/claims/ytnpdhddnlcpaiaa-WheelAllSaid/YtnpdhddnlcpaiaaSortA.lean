/- A row of ints that is sorted in place: its cells; contracts of slices.swapRangeCmpFunc, rotateCmpFunc. -/
import Derived.Test.YtnpdhddnlcpaiaaInt
import Derived.Test.YtnpdhddnlcpaiaaTouch
import Derived.Test.YtnpdhddnlcpaiaaPlainSort
import Derived.BigQuiet
import Derived.BigRegion
import Derived.Deep.QuietTactic
namespace Go.Proofs.Ytnpdhddnlcpaiaa
open Go.RowKit

/-- Block g holds the ints L, and Z behind them. -/
def Sl (w : World) (g : Nat) (Z : List Value) (L : List Int) : Prop := Blk w g 3 (is L ++ Z)
section
variable {w w' : World} {g : Nat} {Z : List Value} {L U V W : List Int} {x y : Int}
theorem Sl.cell (h : Sl w g Z L) {i : Nat} (hi : i < L.length) : w.cell? ⟨g, i, none⟩ = some (.int .i64 (L.getD i 0)) := by
  refine Blk.cell h ?_
  rw [List.getElem?_append_left (by rw [is_length]; exact hi)]
  simp [is, List.getD, List.getElem?_eq_getElem hi]
theorem Sl.free (h : Sl w g Z L) (i : Nat) : w.frozen? ⟨g, i, none⟩ = false := Blk.free h i
theorem Sl.set (h : Sl w g Z L) {i : Nat} (hi : i < L.length) (x : Int) : Sl (w.setCell ⟨g, i, none⟩ (.int .i64 x)) g Z (L.set i x) := by
  have := Blk.set h i (.int .i64 x)
  rwa [List.set_append_left _ _ (by rw [is_length]; exact hi), show (is L).set i (.int .i64 x) = is (L.set i x) by simp [is, List.map_set]] at this
theorem Sl.drewN (h : Sl w g Z L) (n : Nat) : Sl (w.drewN n) g Z L := h
theorem Sl.drew (h : Sl w g Z L) : Sl w.drew g Z L := h
theorem Touch.drewN {S : List Nat} {a w : World} (h : Touch S a w) (n : Nat) : Touch S a (w.drewN n) := ⟨h.os, h.tape, h.output, h.size, h.block⟩

/-- Two places of a row. -/
theorem two_at (U V W : List Int) (x y : Int) : (U ++ x :: (V ++ y :: W)).getD U.length 0 = x ∧ (U ++ x :: (V ++ y :: W)).getD (U.length + 1 + V.length) 0 = y ∧
    ((U ++ x :: (V ++ y :: W)).set U.length y).set (U.length + 1 + V.length) x = U ++ y :: (V ++ x :: W) ∧
    ((U ++ x :: (V ++ y :: W)).set (U.length + 1 + V.length) x).set U.length y = U ++ y :: (V ++ x :: W) := by
  have e : ∀ (z : Int), U ++ z :: (V ++ y :: W) = (U ++ z :: V) ++ y :: W := fun z => by simp
  have e2 : ∀ (z : Int), U ++ z :: (V ++ x :: W) = (U ++ z :: V) ++ x :: W := fun z => by simp
  have l : ∀ (z : Int), U.length + 1 + V.length = (U ++ z :: V).length := fun z => by simp; omega
  have s1 : ∀ (T : List Int) (p q : Int) (R : List Int), (T ++ p :: R).set T.length q = T ++ q :: R := fun T p q R => by simp
  refine ⟨by simp [List.getD], ?_, ?_, ?_⟩
  · rw [e x, l x]; simp [List.getD]
  · rw [s1, e y, l y, s1, e2 y]
  · rw [e x, l x, s1, ← e2 x, s1]
theorem Sl.two (h : Sl w g Z (U ++ x :: (V ++ y :: W))) {p q : Nat} (hp : U.length = p) (hq : U.length + 1 + V.length = q) :
    w.cell? ⟨g, p, none⟩ = some (.int .i64 x) ∧ w.cell? ⟨g, q, none⟩ = some (.int .i64 y) ∧ w.frozen? ⟨g, p, none⟩ = false ∧ w.frozen? ⟨g, q, none⟩ = false ∧
    (∀ w', Sl w' g Z (U ++ x :: (V ++ y :: W)) → Sl ((w'.setCell ⟨g, p, none⟩ (.int .i64 y)).setCell ⟨g, q, none⟩ (.int .i64 x)) g Z (U ++ y :: (V ++ x :: W))) ∧
    (∀ w', Sl w' g Z (U ++ x :: (V ++ y :: W)) → Sl ((w'.setCell ⟨g, q, none⟩ (.int .i64 x)).setCell ⟨g, p, none⟩ (.int .i64 y)) g Z (U ++ y :: (V ++ x :: W))) := by
  subst hp hq
  obtain ⟨a, b, c, d⟩ := two_at U V W x y
  have c1 := h.cell (i := U.length) (by simp)
  have c2 := h.cell (i := U.length + 1 + V.length) (by simp; omega)
  rw [a] at c1
  rw [b] at c2
  refine ⟨c1, c2, h.free _, h.free _, fun w' h' => ?_, fun w' h' => ?_⟩
  · have := (h'.set (i := U.length) (by simp) y).set (i := U.length + 1 + V.length) (by simp; omega) x
    rwa [c] at this
  · have := (h'.set (i := U.length + 1 + V.length) (by simp; omega) x).set (i := U.length) (by simp) y
    rwa [d] at this
end

theorem len5 {a n b N : Nat} {P X Q Y R : List Int} (ha : P.length = a) (hX : X.length = n) (hY : Y.length = n) (hb : a + n + Q.length = b) (hN : N = (P ++ (X ++ (Q ++ (Y ++ R)))).length) : b + n ≤ N := by
  subst hN; simp; omega

set_option maxHeartbeats 1600000 in
set_option maxRecDepth 100000 in
theorem swapRange_c (w : World) (g c N a b n : Nat) (Z : List Value) (P X Q Y R : List Int) (F : Value) (ha : P.length = a) (hX : X.length = n) (hY : Y.length = n) (hb : a + n + Q.length = b)
    (hN : N = (P ++ (X ++ (Q ++ (Y ++ R)))).length) (hS : Sl w g Z (P ++ (X ++ (Q ++ (Y ++ R))))) (hbig : N < 4611686018427387904) :
    Calls Try.prog 33 #[.slice (some ⟨g, 0, none⟩) N c, .int .i64 a, .int .i64 b, .int .i64 n, F] w fun e w' => e = .returned (.tuple #[]) ∧ Sl w' g Z (P ++ (Y ++ (Q ++ (X ++ R)))) ∧ Touch [g] w w' := by
  have hlen := len5 ha hX hY hb hN
  have HN := Lib.hid hN; clear hN
  have HX := Lib.hid (And.intro hX (And.intro hY (And.intro ha hb))); clear hX hY ha
  have hab : a + n ≤ b := by omega
  clear hb
  have S0 := Lib.hid hS
  clear hS
  go_enter Try.func33, Try.ntmps33
  go_wp2_with fail
  go_loopw [10] (fun s10 wr => ∃ i : Nat, i ≤ n ∧ s10 = .int .i64 i ∧ Hid (Sl wr g Z (P ++ ((Y.take i ++ X.drop i) ++ (Q ++ ((X.take i ++ Y.drop i) ++ R))))) ∧ Touch [g] w wr) (fun s10 _ => n - (intOf s10).toNat)
  case atStart => exact ⟨0, by omega, rfl, Lib.hid (by simpa using S0.out), Touch.refl _ _⟩
  case round =>
    obtain ⟨i, hi, rfl, SI, hT⟩ := hrel
    by_cases hlt : i < n
    · obtain ⟨hX, hY, ha, hb⟩ := HX.out
      obtain ⟨x, hx⟩ : ∃ x, X.drop i = x :: X.drop (i + 1) := ⟨_, List.drop_eq_getElem_cons (by omega)⟩
      obtain ⟨y, hy⟩ : ∃ y, Y.drop i = y :: Y.drop (i + 1) := ⟨_, List.drop_eq_getElem_cons (by omega)⟩
      have tx : X.take (i + 1) = X.take i ++ [x] := by
        rw [List.take_add, hx]; simp
      have ty : Y.take (i + 1) = Y.take i ++ [y] := by
        rw [List.take_add, hy]; simp
      have e1 : P ++ ((Y.take i ++ X.drop i) ++ (Q ++ ((X.take i ++ Y.drop i) ++ R))) = (P ++ Y.take i) ++ x :: ((X.drop (i + 1) ++ (Q ++ X.take i)) ++ y :: (Y.drop (i + 1) ++ R)) := by
        rw [hx, hy]; simp
      have e2 : P ++ ((Y.take (i + 1) ++ X.drop (i + 1)) ++ (Q ++ ((X.take (i + 1) ++ Y.drop (i + 1)) ++ R))) = (P ++ Y.take i) ++ y :: ((X.drop (i + 1) ++ (Q ++ X.take i)) ++ x :: (Y.drop (i + 1) ++ R)) := by
        rw [tx, ty]; simp
      have SI' := SI.out
      rw [e1] at SI'
      obtain ⟨p, hp⟩ : ∃ p, p = a + i := ⟨_, rfl⟩
      obtain ⟨q, hq⟩ : ∃ q, q = b + i := ⟨_, rfl⟩
      obtain ⟨c1, c2, f1, f2, s1, s2⟩ := SI'.two (p := p) (q := q) (by simp; omega) (by simp; omega)
      have E2 := Lib.hid e2
      have S1 := Lib.hid s1
      have S2 := Lib.hid s2
      have SI2 := Lib.hid SI'
      clear e1 e2 tx ty hx hy s1 s2 SI' SI hX hY hb
      have ep : ((a : Int) + (i : Int)).toNat = p := by omega
      have eq : ((b : Int) + (i : Int)).toNat = q := by omega
      have hpq : p ≠ q := by omega
      have hpN : (a : Int) + (i : Int) < (N : Int) := by omega
      have hqN : (b : Int) + (i : Int) < (N : Int) := by omega
      have HP := Lib.hid (And.intro hp hq)
      clear hp hq
      go_wp2_with fail
      go_big_region
      all_goals go_wp2_with fail
      go_roundw
      case rel => exact ⟨i + 1, by omega, by go_num, Lib.hid (by rw [E2.out]; exact (S1.out wr SI2.out).drew), ((hT.cell (by simp) _ _).cell (by simp) _ _).drew⟩
      case measure => simp [intOf]; omega
    · obtain rfl : i = n := by omega
      have e : P ++ ((Y.take i ++ X.drop i) ++ (Q ++ ((X.take i ++ Y.drop i) ++ R))) = P ++ (Y ++ (Q ++ (X ++ R))) := by
        obtain ⟨hX, hY, _, _⟩ := HX.out
        rw [List.take_of_length_le (by omega), List.drop_of_length_le (by omega), List.take_of_length_le (by omega), List.drop_of_length_le (by omega)]; simp
      have SI' := SI.out
      rw [e] at SI'
      have SE := Lib.hid SI'
      clear e SI SI'
      go_wp2
      go_end0
      exact ⟨rfl, SE.out, hT⟩

theorem swapRange_i (w : World) (g c N a b n : Nat) (Z : List Value) (P X Q Y R : List Int) (F : Value) (A B M : Int) (eA : A = a) (eB : B = b) (eM : M = n) (ha : P.length = a) (hX : X.length = n) (hY : Y.length = n) (hb : a + n + Q.length = b)
    (hN : N = (P ++ (X ++ (Q ++ (Y ++ R)))).length) (hS : Sl w g Z (P ++ (X ++ (Q ++ (Y ++ R))))) (hbig : N < 4611686018427387904) :
    Calls Try.prog 33 #[.slice (some ⟨g, 0, none⟩) N c, .int .i64 A, .int .i64 B, .int .i64 M, F] w fun e w' => e = .returned (.tuple #[]) ∧ Sl w' g Z (P ++ (Y ++ (Q ++ (X ++ R)))) ∧ Touch [g] w w' := by
  subst eA eB eM
  exact swapRange_c w g c N a b n Z P X Q Y R F ha hX hY hb hN hS hbig

/-- A turn that is under way: what lies there, and what is left to be turned. -/
def Turn (N a m : Nat) (P X Y R : List Int) (i j : Nat) (L : List Int) : Prop :=
  ∃ D X' Y' E : List Int, X'.length = i ∧ Y'.length = j ∧ 0 < i ∧ 0 < j ∧ P.length + D.length + i = m ∧ D ++ (Y' ++ (X' ++ E)) = Y ++ X ∧ L = P ++ (D ++ (X' ++ (Y' ++ (E ++ R)))) ∧ N = L.length ∧ a ≤ m
theorem Turn.more {N a m : Nat} {P X Y R L : List Int} {i j : Nat} (h : Turn N a m P X Y R i j L) (hij : j < i) :
    ∃ P' X1 Q Y1 R', P'.length = m - i ∧ X1.length = j ∧ Y1.length = j ∧ (m - i) + j + Q.length = m ∧ L = P' ++ (X1 ++ (Q ++ (Y1 ++ R'))) ∧ Turn N a m P X Y R (i - j) j (P' ++ (Y1 ++ (Q ++ (X1 ++ R')))) := by
  obtain ⟨D, X', Y', E, h1, h2, h3, h4, h5, h6, h7, h8, h9⟩ := h
  subst h7
  refine ⟨P ++ D, X'.take j, X'.drop j, Y', E ++ R, by simp; omega, by simp; omega, h2, by simp; omega, by
    conv => lhs; rw [← List.take_append_drop j X']
    simp only [List.append_assoc], ?_⟩
  refine ⟨D ++ Y', X'.drop j, X'.take j, E, by simp; omega, by simp; omega, by omega, h4, by simp; omega, ?_, by simp only [List.append_assoc], ?_, h9⟩
  · rw [← h6]
    conv => rhs; rw [← List.take_append_drop j X']
    simp only [List.append_assoc]
  · rw [h8]; simp; omega
theorem Turn.less {N a m : Nat} {P X Y R L : List Int} {i j : Nat} (h : Turn N a m P X Y R i j L) (hij : i < j) :
    ∃ P' X1 Q Y1 R', P'.length = m - i ∧ X1.length = i ∧ Y1.length = i ∧ (m - i) + i + Q.length = m + j - i ∧ L = P' ++ (X1 ++ (Q ++ (Y1 ++ R'))) ∧ Turn N a m P X Y R i (j - i) (P' ++ (Y1 ++ (Q ++ (X1 ++ R')))) := by
  obtain ⟨D, X', Y', E, h1, h2, h3, h4, h5, h6, h7, h8, h9⟩ := h
  subst h7
  refine ⟨P ++ D, X', Y'.take (j - i), Y'.drop (j - i), E ++ R, by simp; omega, h1, by simp; omega, by simp; omega, by
    conv => lhs; rw [← List.take_append_drop (j - i) Y']
    simp only [List.append_assoc], ?_⟩
  refine ⟨D, Y'.drop (j - i), Y'.take (j - i), X' ++ E, by simp; omega, by simp; omega, h3, by omega, by omega, ?_, by simp only [List.append_assoc], ?_, h9⟩
  · rw [← h6]
    conv => rhs; rw [← List.take_append_drop (j - i) Y']
    simp only [List.append_assoc]
  · rw [h8]; simp; omega
theorem Turn.done {N a m : Nat} {P X Y R L : List Int} {i : Nat} (h : Turn N a m P X Y R i i L) :
    ∃ P' X1 Y1 R', P'.length = m - i ∧ X1.length = i ∧ Y1.length = i ∧ (m - i) + i + ([] : List Int).length = m ∧ L = P' ++ (X1 ++ ([] ++ (Y1 ++ R'))) ∧ P' ++ (Y1 ++ ([] ++ (X1 ++ R'))) = P ++ (Y ++ (X ++ R)) := by
  obtain ⟨D, X', Y', E, h1, h2, h3, h4, h5, h6, h7, h8, h9⟩ := h
  subst h7
  refine ⟨P ++ D, X', Y', E ++ R, by simp; omega, h1, h2, by simp; omega, by simp, ?_⟩
  have : P ++ (Y ++ (X ++ R)) = P ++ ((Y ++ X) ++ R) := by simp
  rw [this, ← h6]; simp
theorem Turn.at_ {N a m : Nat} {P X Y R L : List Int} {i j : Nat} (h : Turn N a m P X Y R i j L) : 0 < i ∧ 0 < j ∧ i ≤ m ∧ m + j ≤ N ∧ N = L.length ∧ a ≤ m := by
  obtain ⟨D, X', Y', E, h1, h2, h3, h4, h5, h6, h7, h8, h9⟩ := h
  refine ⟨h3, h4, by omega, ?_, h8, h9⟩
  rw [h8, h7]; simp; omega

set_option maxHeartbeats 1600000 in
set_option maxRecDepth 100000 in
theorem rotate_c (w : World) (g c N a m b : Nat) (Z : List Value) (P X Y R : List Int) (F : Value) (ha : P.length = a) (hm : a + X.length = m) (hb : m + Y.length = b) (h1 : a < m) (h2 : m < b)
    (hN : N = (P ++ (X ++ (Y ++ R))).length) (hS : Sl w g Z (P ++ (X ++ (Y ++ R)))) (hbig : N < 4611686018427387904) :
    Calls Try.prog 32 #[.slice (some ⟨g, 0, none⟩) N c, .int .i64 a, .int .i64 m, .int .i64 b, F] w fun e w' => e = .returned (.tuple #[]) ∧ Sl w' g Z (P ++ (Y ++ (X ++ R))) ∧ Touch [g] w w' := by
  have t0 : Turn N a m P X Y R (m - a) (b - m) (P ++ (X ++ (Y ++ R))) := ⟨[], X, Y, [], by omega, by omega, by omega, by omega, by simp; omega, by simp, by simp, hN, by omega⟩
  have T0 := Lib.hid (And.intro t0 hS)
  have hmN : b ≤ N := by rw [hN]; simp; omega
  clear t0 hS hm hb ha hN
  go_enter Try.func32, Try.ntmps32
  go_wp2_with fail
  go_loopw [10, 11] (fun s10 s11 wr => ∃ (i j : Nat) (L : List Int), s10 = .int .i64 i ∧ s11 = .int .i64 j ∧ Hid (Turn N a m P X Y R i j L) ∧ Hid (Sl wr g Z L) ∧ Touch [g] w wr) (fun s10 s11 _ => (intOf s10).toNat + (intOf s11).toNat)
  case atStart => exact ⟨m - a, b - m, _, by go_num, by go_num, Lib.hid T0.out.1, Lib.hid T0.out.2, Touch.refl _ _⟩
  case round =>
    obtain ⟨i, j, L, rfl, rfl, TI, SI, hT⟩ := hrel
    obtain ⟨t1, t2, t3, t4, t5, t6⟩ := TI.out.at_
    have T5 := Lib.hid t5; clear t5
    by_cases hij : j < i
    · obtain ⟨P', X1, Q, Y1, R', p1, p2, p3, p4, p5, p6⟩ := TI.out.more hij
      have SI' := SI.out
      have P5 := Lib.hid (And.intro p5 (And.intro p6 (And.intro p1 (And.intro p2 (And.intro p3 (And.intro p4 SI'))))))
      clear p1 p2 p3 p4 p5 p6 SI SI' TI
      have hne : ¬ (i : Int) = (j : Int) := by omega
      have hgt : (j : Int) < (i : Int) := by omega
      go_wp2_with fail
      refine (swapRange_i _ g c N (m - i) m j Z P' X1 Q Y1 R' F _ _ _ (by omega) (by omega) (by omega) P5.out.2.2.1 P5.out.2.2.2.1 P5.out.2.2.2.2.1 P5.out.2.2.2.2.2.1 (by rw [← P5.out.1]; exact T5.out) (by rw [← P5.out.1]; exact P5.out.2.2.2.2.2.2) hbig).mono ?_
      rintro e w1 ⟨rfl, S1, hT1⟩
      have S1' := Lib.hid S1
      clear S1
      go_wp2_with fail
      go_roundw
      case rel => exact ⟨i - j, j, _, by go_num, rfl, Lib.hid P5.out.2.1, S1', hT.trans hT1⟩
      case measure => simp [intOf]; omega
    · by_cases hji : i < j
      · obtain ⟨P', X1, Q, Y1, R', p1, p2, p3, p4, p5, p6⟩ := TI.out.less hji
        have SI' := SI.out
        have P5 := Lib.hid (And.intro p5 (And.intro p6 (And.intro p1 (And.intro p2 (And.intro p3 (And.intro p4 SI'))))))
        clear p1 p2 p3 p4 p5 p6 SI SI' TI
        have hne : ¬ (i : Int) = (j : Int) := by omega
        have hgt : ¬ (j : Int) < (i : Int) := by omega
        go_wp2_with fail
        refine (swapRange_i _ g c N (m - i) (m + j - i) i Z P' X1 Q Y1 R' F _ _ _ (by omega) (by omega) (by omega) P5.out.2.2.1 P5.out.2.2.2.1 P5.out.2.2.2.2.1 P5.out.2.2.2.2.2.1 (by rw [← P5.out.1]; exact T5.out) (by rw [← P5.out.1]; exact P5.out.2.2.2.2.2.2) hbig).mono ?_
        rintro e w1 ⟨rfl, S1, hT1⟩
        have S1' := Lib.hid S1
        clear S1
        go_wp2_with fail
        go_roundw
        case rel => exact ⟨i, j - i, _, rfl, by go_num, Lib.hid P5.out.2.1, S1', hT.trans hT1⟩
        case measure => simp [intOf]; omega
      · obtain rfl : i = j := by omega
        obtain ⟨P', X1, Y1, R', p1, p2, p3, p4, p5, p6⟩ := TI.out.done
        have SI' := SI.out
        have P5 := Lib.hid (And.intro p5 (And.intro p6 (And.intro p1 (And.intro p2 (And.intro p3 (And.intro p4 SI'))))))
        clear p1 p2 p3 p4 p5 p6 SI SI' TI
        go_wp2_with fail
        refine (swapRange_i _ g c N (m - i) m i Z P' X1 [] Y1 R' F _ _ _ (by omega) (by omega) (by omega) P5.out.2.2.1 P5.out.2.2.2.1 P5.out.2.2.2.2.1 P5.out.2.2.2.2.2.1 (by rw [← P5.out.1]; exact T5.out) (by rw [← P5.out.1]; exact P5.out.2.2.2.2.2.2) hbig).mono ?_
        rintro e w1 ⟨rfl, S1, hT1⟩
        rw [P5.out.2.1] at S1
        have S1' := Lib.hid S1
        clear S1
        go_wp2_with fail
        go_end0
        exact ⟨rfl, S1'.out, hT.trans hT1⟩

end Go.Proofs.Ytnpdhddnlcpaiaa
