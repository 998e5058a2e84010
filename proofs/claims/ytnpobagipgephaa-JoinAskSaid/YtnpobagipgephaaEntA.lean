/- Contracts of entries: isIn, May, Same, Eq, of the program and of the document. -/
import Derived.Test.YtnpobagipgephaaRows
import Derived.Test.YtnpobagipgephaaEnt
import Derived.Laws.StructEq
import Derived.Test.YtnpobagipgephaaHeld
namespace Go.Proofs.Ytnpobagipgephaa
open Go.RowKit

theorem isIn_c (w : World) (n lo hi : Int) :
    Calls Try.prog 40 #[.int .i64 n, .int .i64 lo, .int .i64 hi] w fun e w' => e = .returned (.bool (decide (lo ≤ n ∧ n ≤ hi))) ∧ w = w' := by
  obtain ⟨r, HR⟩ : ∃ r, decide (lo ≤ n ∧ n ≤ hi) = r := ⟨_, rfl⟩
  rw [HR]
  by_cases h1 : lo ≤ n
  · by_cases h2 : n ≤ hi
    · have H := Lib.hid (HR.symm.trans (decide_eq_true (And.intro h1 h2)))
      clear HR
      go_enter Try.func40, Try.ntmps40
      go_wp2
      go_ret
      exact ⟨by rw [H.out]; rfl, rfl⟩
    · have H := Lib.hid (HR.symm.trans (decide_eq_false (fun h : lo ≤ n ∧ n ≤ hi => h2 h.2)))
      clear HR
      go_enter Try.func40, Try.ntmps40
      go_wp2
      go_ret
      exact ⟨by rw [H.out]; rfl, rfl⟩
  · have H := Lib.hid (HR.symm.trans (decide_eq_false (fun h : lo ≤ n ∧ n ≤ hi => h1 h.1)))
    clear HR
    go_enter Try.func40, Try.ntmps40
    go_wp2
    go_ret
    exact ⟨by rw [H.out]; rfl, rfl⟩

set_option maxRecDepth 100000 in
theorem May_c (w : World) (e : Ent) : Calls Try.prog 37 #[ev e] w fun x w' => x = .returned (.bool (PEnt.may e)) ∧ Below w.heap.size w w' := by
  obtain ⟨fr, boot, seq, ord, lev, stamp, data⟩ := e
  by_cases h0 : ¬ (1 ≤ fr ∧ fr ≤ 7)
  · have HM := Lib.hid (show PEnt.may ⟨fr, boot, seq, ord, lev, stamp, data⟩ = false from decide_eq_false (fun h => h0 h.1))
    have D0 := Lib.hid (decide_eq_false h0)
    clear h0
    show Calls _ _ #[.agg #[.int .i64 fr, .int .i64 boot, .int .i64 seq, .int .i64 ord, .int .i64 lev, .int .i64 stamp, .string data]] _ _
    go_enter Try.func37, Try.ntmps37
    go_wp2_with fail
    refine (isIn_c _ fr 1 7).mono ?_
    rw [D0.out]
    rintro e w1 ⟨rfl, rfl⟩
    go_wp2_with fail
    go_ret
    exact ⟨by rw [HM.out]; rfl, (Below.refl _ _).alloc (Nat.le_refl _) _⟩
  replace h0 := Decidable.of_not_not h0
  by_cases h1 : ¬ (1 ≤ boot ∧ boot ≤ 1099511627776)
  · have HM := Lib.hid (show PEnt.may ⟨fr, boot, seq, ord, lev, stamp, data⟩ = false from decide_eq_false (fun h => h1 h.2.1))
    have D0 := Lib.hid (decide_eq_true h0)
    have D1 := Lib.hid (decide_eq_false h1)
    clear h0 h1
    show Calls _ _ #[.agg #[.int .i64 fr, .int .i64 boot, .int .i64 seq, .int .i64 ord, .int .i64 lev, .int .i64 stamp, .string data]] _ _
    go_enter Try.func37, Try.ntmps37
    go_wp2_with fail
    refine (isIn_c _ fr 1 7).mono ?_
    rw [D0.out]
    rintro e w1 ⟨rfl, rfl⟩
    go_wp2_with fail
    refine (isIn_c _ boot 1 1099511627776).mono ?_
    rw [D1.out]
    rintro e w1 ⟨rfl, rfl⟩
    go_wp2_with fail
    go_ret
    exact ⟨by rw [HM.out]; rfl, (Below.refl _ _).alloc (Nat.le_refl _) _⟩
  replace h1 := Decidable.of_not_not h1
  by_cases h2 : ¬ (1 ≤ seq ∧ seq ≤ 1099511627776)
  · have HM := Lib.hid (show PEnt.may ⟨fr, boot, seq, ord, lev, stamp, data⟩ = false from decide_eq_false (fun h => h2 h.2.2.1))
    have D0 := Lib.hid (decide_eq_true h0)
    have D1 := Lib.hid (decide_eq_true h1)
    have D2 := Lib.hid (decide_eq_false h2)
    clear h0 h1 h2
    show Calls _ _ #[.agg #[.int .i64 fr, .int .i64 boot, .int .i64 seq, .int .i64 ord, .int .i64 lev, .int .i64 stamp, .string data]] _ _
    go_enter Try.func37, Try.ntmps37
    go_wp2_with fail
    refine (isIn_c _ fr 1 7).mono ?_
    rw [D0.out]
    rintro e w1 ⟨rfl, rfl⟩
    go_wp2_with fail
    refine (isIn_c _ boot 1 1099511627776).mono ?_
    rw [D1.out]
    rintro e w1 ⟨rfl, rfl⟩
    go_wp2_with fail
    refine (isIn_c _ seq 1 1099511627776).mono ?_
    rw [D2.out]
    rintro e w1 ⟨rfl, rfl⟩
    go_wp2_with fail
    go_ret
    exact ⟨by rw [HM.out]; rfl, (Below.refl _ _).alloc (Nat.le_refl _) _⟩
  replace h2 := Decidable.of_not_not h2
  by_cases h3 : ¬ (0 ≤ ord ∧ ord ≤ 2)
  · have HM := Lib.hid (show PEnt.may ⟨fr, boot, seq, ord, lev, stamp, data⟩ = false from decide_eq_false (fun h => h3 h.2.2.2.1))
    have D0 := Lib.hid (decide_eq_true h0)
    have D1 := Lib.hid (decide_eq_true h1)
    have D2 := Lib.hid (decide_eq_true h2)
    have D3 := Lib.hid (decide_eq_false h3)
    clear h0 h1 h2 h3
    show Calls _ _ #[.agg #[.int .i64 fr, .int .i64 boot, .int .i64 seq, .int .i64 ord, .int .i64 lev, .int .i64 stamp, .string data]] _ _
    go_enter Try.func37, Try.ntmps37
    go_wp2_with fail
    refine (isIn_c _ fr 1 7).mono ?_
    rw [D0.out]
    rintro e w1 ⟨rfl, rfl⟩
    go_wp2_with fail
    refine (isIn_c _ boot 1 1099511627776).mono ?_
    rw [D1.out]
    rintro e w1 ⟨rfl, rfl⟩
    go_wp2_with fail
    refine (isIn_c _ seq 1 1099511627776).mono ?_
    rw [D2.out]
    rintro e w1 ⟨rfl, rfl⟩
    go_wp2_with fail
    refine (isIn_c _ ord 0 2).mono ?_
    rw [D3.out]
    rintro e w1 ⟨rfl, rfl⟩
    go_wp2_with fail
    go_ret
    exact ⟨by rw [HM.out]; rfl, (Below.refl _ _).alloc (Nat.le_refl _) _⟩
  replace h3 := Decidable.of_not_not h3
  by_cases h4 : ¬ (0 ≤ lev ∧ lev ≤ 2)
  · have HM := Lib.hid (show PEnt.may ⟨fr, boot, seq, ord, lev, stamp, data⟩ = false from decide_eq_false (fun h => h4 h.2.2.2.2.1))
    have D0 := Lib.hid (decide_eq_true h0)
    have D1 := Lib.hid (decide_eq_true h1)
    have D2 := Lib.hid (decide_eq_true h2)
    have D3 := Lib.hid (decide_eq_true h3)
    have D4 := Lib.hid (decide_eq_false h4)
    clear h0 h1 h2 h3 h4
    show Calls _ _ #[.agg #[.int .i64 fr, .int .i64 boot, .int .i64 seq, .int .i64 ord, .int .i64 lev, .int .i64 stamp, .string data]] _ _
    go_enter Try.func37, Try.ntmps37
    go_wp2_with fail
    refine (isIn_c _ fr 1 7).mono ?_
    rw [D0.out]
    rintro e w1 ⟨rfl, rfl⟩
    go_wp2_with fail
    refine (isIn_c _ boot 1 1099511627776).mono ?_
    rw [D1.out]
    rintro e w1 ⟨rfl, rfl⟩
    go_wp2_with fail
    refine (isIn_c _ seq 1 1099511627776).mono ?_
    rw [D2.out]
    rintro e w1 ⟨rfl, rfl⟩
    go_wp2_with fail
    refine (isIn_c _ ord 0 2).mono ?_
    rw [D3.out]
    rintro e w1 ⟨rfl, rfl⟩
    go_wp2_with fail
    refine (isIn_c _ lev 0 2).mono ?_
    rw [D4.out]
    rintro e w1 ⟨rfl, rfl⟩
    go_wp2_with fail
    go_ret
    exact ⟨by rw [HM.out]; rfl, (Below.refl _ _).alloc (Nat.le_refl _) _⟩
  replace h4 := Decidable.of_not_not h4
  by_cases h5 : ¬ (0 ≤ stamp ∧ stamp ≤ 1099511627776)
  · have HM := Lib.hid (show PEnt.may ⟨fr, boot, seq, ord, lev, stamp, data⟩ = false from decide_eq_false (fun h => h5 h.2.2.2.2.2.1))
    have D0 := Lib.hid (decide_eq_true h0)
    have D1 := Lib.hid (decide_eq_true h1)
    have D2 := Lib.hid (decide_eq_true h2)
    have D3 := Lib.hid (decide_eq_true h3)
    have D4 := Lib.hid (decide_eq_true h4)
    have D5 := Lib.hid (decide_eq_false h5)
    clear h0 h1 h2 h3 h4 h5
    show Calls _ _ #[.agg #[.int .i64 fr, .int .i64 boot, .int .i64 seq, .int .i64 ord, .int .i64 lev, .int .i64 stamp, .string data]] _ _
    go_enter Try.func37, Try.ntmps37
    go_wp2_with fail
    refine (isIn_c _ fr 1 7).mono ?_
    rw [D0.out]
    rintro e w1 ⟨rfl, rfl⟩
    go_wp2_with fail
    refine (isIn_c _ boot 1 1099511627776).mono ?_
    rw [D1.out]
    rintro e w1 ⟨rfl, rfl⟩
    go_wp2_with fail
    refine (isIn_c _ seq 1 1099511627776).mono ?_
    rw [D2.out]
    rintro e w1 ⟨rfl, rfl⟩
    go_wp2_with fail
    refine (isIn_c _ ord 0 2).mono ?_
    rw [D3.out]
    rintro e w1 ⟨rfl, rfl⟩
    go_wp2_with fail
    refine (isIn_c _ lev 0 2).mono ?_
    rw [D4.out]
    rintro e w1 ⟨rfl, rfl⟩
    go_wp2_with fail
    refine (isIn_c _ stamp 0 1099511627776).mono ?_
    rw [D5.out]
    rintro e w1 ⟨rfl, rfl⟩
    go_wp2_with fail
    go_ret
    exact ⟨by rw [HM.out]; rfl, (Below.refl _ _).alloc (Nat.le_refl _) _⟩
  replace h5 := Decidable.of_not_not h5
  by_cases h6 : ¬ (data.size ≤ 16)
  · have HM := Lib.hid (show PEnt.may ⟨fr, boot, seq, ord, lev, stamp, data⟩ = false from decide_eq_false (fun h => h6 h.2.2.2.2.2.2))
    have D0 := Lib.hid (decide_eq_true h0)
    have D1 := Lib.hid (decide_eq_true h1)
    have D2 := Lib.hid (decide_eq_true h2)
    have D3 := Lib.hid (decide_eq_true h3)
    have D4 := Lib.hid (decide_eq_true h4)
    have D5 := Lib.hid (decide_eq_true h5)
    clear h0 h1 h2 h3 h4 h5
    show Calls _ _ #[.agg #[.int .i64 fr, .int .i64 boot, .int .i64 seq, .int .i64 ord, .int .i64 lev, .int .i64 stamp, .string data]] _ _
    go_enter Try.func37, Try.ntmps37
    go_wp2_with fail
    refine (isIn_c _ fr 1 7).mono ?_
    rw [D0.out]
    rintro e w1 ⟨rfl, rfl⟩
    go_wp2_with fail
    refine (isIn_c _ boot 1 1099511627776).mono ?_
    rw [D1.out]
    rintro e w1 ⟨rfl, rfl⟩
    go_wp2_with fail
    refine (isIn_c _ seq 1 1099511627776).mono ?_
    rw [D2.out]
    rintro e w1 ⟨rfl, rfl⟩
    go_wp2_with fail
    refine (isIn_c _ ord 0 2).mono ?_
    rw [D3.out]
    rintro e w1 ⟨rfl, rfl⟩
    go_wp2_with fail
    refine (isIn_c _ lev 0 2).mono ?_
    rw [D4.out]
    rintro e w1 ⟨rfl, rfl⟩
    go_wp2_with fail
    refine (isIn_c _ stamp 0 1099511627776).mono ?_
    rw [D5.out]
    rintro e w1 ⟨rfl, rfl⟩
    go_wp2_with fail
    go_ret
    exact ⟨by rw [HM.out]; show Ending.returned (.bool (decide ((data.size : Int) ≤ 16))) = _; rw [decide_eq_false (by omega)], (Below.refl _ _).alloc (Nat.le_refl _) _⟩
  replace h6 := Decidable.of_not_not h6
  have HM := Lib.hid (show PEnt.may ⟨fr, boot, seq, ord, lev, stamp, data⟩ = true from decide_eq_true ⟨h0, h1, h2, h3, h4, h5, h6⟩)
  have D0 := Lib.hid (decide_eq_true h0)
  have D1 := Lib.hid (decide_eq_true h1)
  have D2 := Lib.hid (decide_eq_true h2)
  have D3 := Lib.hid (decide_eq_true h3)
  have D4 := Lib.hid (decide_eq_true h4)
  have D5 := Lib.hid (decide_eq_true h5)
  clear h0 h1 h2 h3 h4 h5
  show Calls _ _ #[.agg #[.int .i64 fr, .int .i64 boot, .int .i64 seq, .int .i64 ord, .int .i64 lev, .int .i64 stamp, .string data]] _ _
  go_enter Try.func37, Try.ntmps37
  go_wp2_with fail
  refine (isIn_c _ fr 1 7).mono ?_
  rw [D0.out]
  rintro e w1 ⟨rfl, rfl⟩
  go_wp2_with fail
  refine (isIn_c _ boot 1 1099511627776).mono ?_
  rw [D1.out]
  rintro e w1 ⟨rfl, rfl⟩
  go_wp2_with fail
  refine (isIn_c _ seq 1 1099511627776).mono ?_
  rw [D2.out]
  rintro e w1 ⟨rfl, rfl⟩
  go_wp2_with fail
  refine (isIn_c _ ord 0 2).mono ?_
  rw [D3.out]
  rintro e w1 ⟨rfl, rfl⟩
  go_wp2_with fail
  refine (isIn_c _ lev 0 2).mono ?_
  rw [D4.out]
  rintro e w1 ⟨rfl, rfl⟩
  go_wp2_with fail
  refine (isIn_c _ stamp 0 1099511627776).mono ?_
  rw [D5.out]
  rintro e w1 ⟨rfl, rfl⟩
  go_wp2_with fail
  go_ret
  exact ⟨by rw [HM.out]; show Ending.returned (.bool (decide ((data.size : Int) ≤ 16))) = _; rw [decide_eq_true (by omega)], (Below.refl _ _).alloc (Nat.le_refl _) _⟩
end Go.Proofs.Ytnpobagipgephaa
