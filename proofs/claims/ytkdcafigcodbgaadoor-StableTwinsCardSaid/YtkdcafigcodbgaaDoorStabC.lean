/- Contract of stable.Read. -/
import Derived.Test.YtkdcafigcodbgaaDoorStabA
import Derived.Test.YtkdcafigcodbgaaDoorCrcD
namespace Go.Proofs.YtkdcafigcodbgaaDoor
open Go.RowKit PStab

/-- What Read answers. -/
def ReadPost (w : World) (r : Option (Int × Int)) (e : Ending) (w' : World) : Prop :=
  match r with
  | none => e = .returned (.tuple #[.pointer none, .int .i64 1]) ∧ Below w.heap.size w w'
  | some (b, v) => ∃ g, e = .returned (.tuple #[.pointer (some ⟨g, 0, none⟩), .int .i64 0]) ∧ w.heap.size ≤ g ∧ Ds w' g b v ∧ Below w.heap.size w w'

set_option maxHeartbeats 1000000 in
set_option maxRecDepth 100000 in
theorem read_c (w : World) (B : Nat) (A : Option Addr) (c n : Nat) (l : List Int) (h : Rd w B A c 1 n (bs l)) (hb : isB l) (ht : Tab w) (hn : n ≤ 140000000000000) :
    Calls Tryd.prog 17 #[.slice A n c] w (ReadPost w (dec l)) := by
  cases ho : (openP l).2 with
  | false =>
    have H := Lib.hid (show dec l = none by unfold dec; rw [ho]; rfl)
    have HO := Lib.hid ho
    clear ho
    go_enter Tryd.func17, Tryd.ntmps17
    go_wp2_with fail
    refine (Open_c w B A c n l h hb ht hn).mono ?_
    rintro e w1 ⟨A1, c1, rfl, R1, b1⟩
    rw [HO.out]
    go_wp2_with fail
    go_ret2
    rw [H.out]
    exact ⟨rfl, b1⟩
  | true =>
    obtain ⟨-, hB⟩ := openP_yes hb ho
    have H := Lib.hid (dec_open ho)
    have HO := Lib.hid ho
    have HB := Lib.hid hB
    clear ho hB
    generalize hd : dec l = D at *
    cases h1 : one (openP l).1 with
    | none =>
      have H1 := Lib.hid h1
      have HD := Lib.hid (show D = none by rw [H.out]; unfold rd; rw [h1])
      clear h1 H hd
      go_enter Tryd.func17, Tryd.ntmps17
      go_wp2_with fail
      refine (Open_c w B A c n l h hb ht hn).mono ?_
      rintro e w1 ⟨A1, c1, rfl, R1, b1⟩
      rw [HO.out]
      go_wp2_with fail
      refine (one_c w1 _ A1 c1 _ _ R1 HB.out).mono ?_
      rw [H1.out]
      rintro e w2 ⟨rfl, b2⟩
      go_wp2_with fail
      go_ret2
      rw [HD.out]
      exact ⟨rfl, b1.trans (b2.mono b1.size)⟩
    | some p =>
      obtain ⟨x, r⟩ := p
      obtain ⟨-, hBr, -⟩ := one_inv HB.out h1
      have HR := Lib.hid hBr
      clear hBr
      cases h2 : one r with
      | none =>
        have HD := Lib.hid (show D = none by rw [H.out]; unfold rd; rw [h1]; simp only; rw [h2])
        have H1 := Lib.hid h1
        have H2 := Lib.hid h2
        clear h1 h2 H hd
        go_enter Tryd.func17, Tryd.ntmps17
        go_wp2_with fail
        refine (Open_c w B A c n l h hb ht hn).mono ?_
        rintro e w1 ⟨A1, c1, rfl, R1, b1⟩
        rw [HO.out]
        go_wp2_with fail
        refine (one_c w1 _ A1 c1 _ _ R1 HB.out).mono ?_
        rw [H1.out]
        rintro e w2 ⟨A2, c2, rfl, R2, b2⟩
        go_wp2_with fail
        refine (one_c w2 _ A2 c2 _ _ R2 HR.out).mono ?_
        rw [H2.out]
        rintro e w3 ⟨rfl, b3⟩
        go_wp2_with fail
        go_ret2
        rw [HD.out]
        exact ⟨rfl, (b1.trans (b2.mono b1.size)).trans (b3.mono (Nat.le_trans b1.size b2.size))⟩
      | some q =>
        obtain ⟨y, s⟩ := q
        by_cases hs : s.length = 0
        · have HD := Lib.hid (show D = some (x, y) by rw [H.out]; unfold rd; rw [h1]; simp only; rw [h2]; simp only; rw [if_pos hs])
          have H1 := Lib.hid h1
          have H2 := Lib.hid h2
          have HS := Lib.hid hs
          clear h1 h2 H hd hs
          go_enter Tryd.func17, Tryd.ntmps17
          go_wp2_with fail
          refine (Open_c w B A c n l h hb ht hn).mono ?_
          rintro e w1 ⟨A1, c1, rfl, R1, b1⟩
          rw [HO.out]
          go_wp2_with fail
          refine (one_c w1 _ A1 c1 _ _ R1 HB.out).mono ?_
          rw [H1.out]
          rintro e w2 ⟨A2, c2, rfl, R2, b2⟩
          go_wp2_with fail
          refine (one_c w2 _ A2 c2 _ _ R2 HR.out).mono ?_
          rw [H2.out]
          rintro e w3 ⟨A3, c3, rfl, R3, b3⟩
          rw [HS.out]
          go_wp2_with fail
          go_ret2
          rw [HD.out]
          have b4 := (b1.trans (b2.mono b1.size)).trans (b3.mono (Nat.le_trans b1.size b2.size))
          exact ⟨w3.heap.size, rfl, b4.size, Blk.new w3 #[.int .i64 x, .int .i64 y] _, b4.alloc b4.size _⟩
        · have HD := Lib.hid (show D = none by rw [H.out]; unfold rd; rw [h1]; simp only; rw [h2]; simp only; rw [if_neg hs])
          have H1 := Lib.hid h1
          have H2 := Lib.hid h2
          have hs' : 0 < s.length := by omega
          clear h1 h2 H hd hs
          go_enter Tryd.func17, Tryd.ntmps17
          go_wp2_with fail
          refine (Open_c w B A c n l h hb ht hn).mono ?_
          rintro e w1 ⟨A1, c1, rfl, R1, b1⟩
          rw [HO.out]
          go_wp2_with fail
          refine (one_c w1 _ A1 c1 _ _ R1 HB.out).mono ?_
          rw [H1.out]
          rintro e w2 ⟨A2, c2, rfl, R2, b2⟩
          go_wp2_with fail
          refine (one_c w2 _ A2 c2 _ _ R2 HR.out).mono ?_
          rw [H2.out]
          rintro e w3 ⟨A3, c3, rfl, R3, b3⟩
          go_wp2_with fail
          go_ret2
          rw [HD.out]
          exact ⟨rfl, (b1.trans (b2.mono b1.size)).trans (b3.mono (Nat.le_trans b1.size b2.size))⟩
end Go.Proofs.YtkdcafigcodbgaaDoor
