/- The walk of TableBad. Made by program (gen15b.py). -/
import Derived.Test.YtapleleaogjcjaaDoorTabX
import Derived.Test.YtapleleaogjcjaaDoorLaid
namespace Go.Proofs.YtapleleaogjcjaaDoor
open Go.RowKit PTab

def nB2 : Ent := ⟨1, 1, 1, 0, 0, 0, ⟨#[97, 61, 98]⟩⟩
def ent4 (a b : Int) (s : ByteArray) : Ent := ⟨a, b, 1, 0, 0, 0, s⟩
theorem did_ent4 (a b : Int) (s : ByteArray) (hs : s.size ≤ 16) : did (ent4 a b s) = ((((((word s).isSome && decide (1 ≤ a)) && decide (a ≤ 7)) && decide (1 ≤ b)) && decide (b ≤ 1099511627776))) := by
  have h : PEnt.may (ent4 a b s) = (decide (1 ≤ a) && decide (a ≤ 7) && decide (1 ≤ b) && decide (b ≤ 1099511627776)) := by
    rw [Bool.eq_iff_iff]
    simp only [PEnt.may_iff, PEnt.May, ent4, Bool.and_eq_true, decide_eq_true_eq]
    omega
  unfold did
  rw [h]
  show ((word s).isSome && _) = _
  simp only [Bool.and_assoc]
theorem doo_no {L : List Pr} {e : Ent} (h : did e = false) : doo L e = L := by
  unfold did at h; unfold doo
  cases hw : word e.data with
  | none => rfl
  | some p => rw [hw] at h; simp only [Option.isSome_some, Bool.true_and] at h; simp only [h]; rfl
theorem wordV_ok (s : ByteArray) : ∃ x y, wordV s = .tuple #[.string x, .string y, .bool (word s).isSome] := by
  unfold wordV; cases word s with
  | none => exact ⟨_, _, rfl⟩
  | some p => exact ⟨_, _, rfl⟩

set_option maxHeartbeats 8000000 in
set_option maxRecDepth 100000 in
theorem TableBad_w (w : World) (ht : Tab w) (s : ByteArray) (a b : Int) :
    Calls Tryd.prog 7 #[.string s, .int .i64 a, .int .i64 b] w fun x w' => x = .returned (.bool true) ∧ Below w.heap.size w w' := by
  have HT := Lib.hid ht
  clear ht
  obtain ⟨u, hu, hus⟩ : ∃ u : ByteArray, (if 16 < s.size then s.extract 0 16 else s) = u ∧ u.size ≤ 16 := by
    refine ⟨_, rfl, ?_⟩
    split
    · rw [ByteArray.size_extract]; omega
    · omega
  have HS := Lib.hid hus
  obtain ⟨wx, wy, hwv⟩ := wordV_ok u
  have HWV := Lib.hid hwv
  have HDI := Lib.hid (did_ent4 a b u hus)
  obtain ⟨ok, hok⟩ : ∃ ok, (word u).isSome = ok := ⟨_, rfl⟩
  rw [hok] at HWV HDI
  obtain ⟨L1, hL1⟩ : ∃ L1, doo [] nB2 = L1 := ⟨_, rfl⟩
  have HNO := Lib.hid (fun (h : did (ent4 a b u) = false) => doo_no (L := L1) h)
  have HL1 := Lib.hid hL1
  clear hus hwv hok hL1
  go_enter Tryd.func7, Tryd.ntmps7
  go_wp2_with fail
  refine (begun_c w HT.out).mono ?_
  rintro x w1 ⟨rfl, b1⟩
  have B1 := Lib.hid b1
  clear b1
  by_cases hc : 16 < s.size
  · rw [if_pos hc] at hu
    go_wp2_with fail
    clear hu hc
    refine (New_c w1).mono ?_
    rintro x w2 ⟨rfl, q2, b2⟩
    have SX := Lib.hid (show Tx w w2 w1.heap.size [w1.heap.size] 0 [] from ⟨q2, fun k hk => by rw [List.mem_singleton.1 hk]; exact B1.out.size, B1.out.trans (b2.mono B1.out.size)⟩)
    clear q2 b2 B1
    generalize w1.heap.size = g at *
    go_wp2_with fail
    refine (show Calls Tryd.prog _ #[_, .agg #[.int .i64 1, .int .i64 1, .int .i64 1, .int .i64 0, .int .i64 0, .int .i64 0, .string ⟨#[97, 61, 98]⟩]] w2 _ from SX.out.go nB2 (by decide) (by omega)).mono ?_
    rw [HL1.out]
    rintro x w3 ⟨F3, rfl, s3, -, -⟩
    have S3 := Lib.hid s3
    clear s3 SX
    go_wp2_with fail
    refine (Sum_t w3 g F3 1 L1 S3.out.tb (by omega) (S3.out.tab HT.out)).mono ?_
    rintro x w4 ⟨rfl, b4⟩
    have S4 := Lib.hid (S3.out.past b4)
    clear b4 S3
    go_wp2_with fail
    refine (Word_c u w4 (by have := HS.out; omega)).mono ?_
    rw [HWV.out]
    rintro x w5 ⟨rfl, b5⟩
    have S5 := Lib.hid (S4.out.past b5)
    clear b5 S4
    have hch : (ok = false) ∨ (ok = true ∧ a < 1) ∨ (ok = true ∧ 1 ≤ a ∧ 7 < a) ∨ (ok = true ∧ 1 ≤ a ∧ a ≤ 7 ∧ b < 1) ∨ (ok = true ∧ 1 ≤ a ∧ a ≤ 7 ∧ 1 ≤ b ∧ 1099511627776 < b) ∨ (ok = true ∧ 1 ≤ a ∧ a ≤ 7 ∧ 1 ≤ b ∧ b ≤ 1099511627776) := by
      cases ok
      · exact .inl rfl
      · simp only [true_and, Bool.true_eq_false, false_or]; omega
    rcases hch with rfl | ⟨rfl, h1⟩ | ⟨rfl, h1, h2⟩ | ⟨rfl, h1, h2, h3⟩ | ⟨rfl, h1, h2, h3, h4⟩ | ⟨rfl, h1, h2, h3, h4⟩
    · as_aux_lemma =>
        have HG := Lib.hid (show did (ent4 a b u) = false by rw [HDI.out]; simp; try omega)
        go_wp2_with fail
        refine (show Calls Tryd.prog _ #[_, .agg #[.int .i64 a, .int .i64 b, .int .i64 1, .int .i64 0, .int .i64 0, .int .i64 0, .string u]] w5 _ from S5.out.go (ent4 a b u) (show u.size ≤ 1000000 by have := HS.out; omega) (by omega)).mono ?_
        rw [HG.out]
        rintro x w6 ⟨F6, rfl, s6, -, -⟩
        rw [HNO.out HG.out] at s6
        have S6 := Lib.hid s6
        clear s6 S5
        go_wp2_with fail
        refine (Sum_t w6 g F6 2 L1 S6.out.tb (by omega) (S6.out.tab HT.out)).mono ?_
        rintro x w7 ⟨rfl, b7⟩
        have S7 := Lib.hid (S6.out.past b7)
        clear b7 S6
        go_wp2_with fail
        go_ret
        exact ⟨rfl, S7.out.bel⟩
    · as_aux_lemma =>
        have HG := Lib.hid (show did (ent4 a b u) = false by rw [HDI.out]; simp; try omega)
        go_wp2_with fail
        clear h1
        refine (show Calls Tryd.prog _ #[_, .agg #[.int .i64 a, .int .i64 b, .int .i64 1, .int .i64 0, .int .i64 0, .int .i64 0, .string u]] w5 _ from S5.out.go (ent4 a b u) (show u.size ≤ 1000000 by have := HS.out; omega) (by omega)).mono ?_
        rw [HG.out]
        rintro x w6 ⟨F6, rfl, s6, -, -⟩
        rw [HNO.out HG.out] at s6
        have S6 := Lib.hid s6
        clear s6 S5
        go_wp2_with fail
        refine (Sum_t w6 g F6 2 L1 S6.out.tb (by omega) (S6.out.tab HT.out)).mono ?_
        rintro x w7 ⟨rfl, b7⟩
        have S7 := Lib.hid (S6.out.past b7)
        clear b7 S6
        go_wp2_with fail
        go_ret
        exact ⟨rfl, S7.out.bel⟩
    · as_aux_lemma =>
        have HG := Lib.hid (show did (ent4 a b u) = false by rw [HDI.out]; simp; try omega)
        go_wp2_with fail
        clear h1 h2
        refine (show Calls Tryd.prog _ #[_, .agg #[.int .i64 a, .int .i64 b, .int .i64 1, .int .i64 0, .int .i64 0, .int .i64 0, .string u]] w5 _ from S5.out.go (ent4 a b u) (show u.size ≤ 1000000 by have := HS.out; omega) (by omega)).mono ?_
        rw [HG.out]
        rintro x w6 ⟨F6, rfl, s6, -, -⟩
        rw [HNO.out HG.out] at s6
        have S6 := Lib.hid s6
        clear s6 S5
        go_wp2_with fail
        refine (Sum_t w6 g F6 2 L1 S6.out.tb (by omega) (S6.out.tab HT.out)).mono ?_
        rintro x w7 ⟨rfl, b7⟩
        have S7 := Lib.hid (S6.out.past b7)
        clear b7 S6
        go_wp2_with fail
        go_ret
        exact ⟨rfl, S7.out.bel⟩
    · as_aux_lemma =>
        have HG := Lib.hid (show did (ent4 a b u) = false by rw [HDI.out]; simp; try omega)
        go_wp2_with fail
        clear h1 h2 h3
        refine (show Calls Tryd.prog _ #[_, .agg #[.int .i64 a, .int .i64 b, .int .i64 1, .int .i64 0, .int .i64 0, .int .i64 0, .string u]] w5 _ from S5.out.go (ent4 a b u) (show u.size ≤ 1000000 by have := HS.out; omega) (by omega)).mono ?_
        rw [HG.out]
        rintro x w6 ⟨F6, rfl, s6, -, -⟩
        rw [HNO.out HG.out] at s6
        have S6 := Lib.hid s6
        clear s6 S5
        go_wp2_with fail
        refine (Sum_t w6 g F6 2 L1 S6.out.tb (by omega) (S6.out.tab HT.out)).mono ?_
        rintro x w7 ⟨rfl, b7⟩
        have S7 := Lib.hid (S6.out.past b7)
        clear b7 S6
        go_wp2_with fail
        go_ret
        exact ⟨rfl, S7.out.bel⟩
    · as_aux_lemma =>
        have HG := Lib.hid (show did (ent4 a b u) = false by rw [HDI.out]; simp; try omega)
        have h5 : decide (b ≤ 1099511627776) = false := decide_eq_false (by omega)
        go_wp2_with fail
        clear h1 h2 h3 h4 h5
        refine (show Calls Tryd.prog _ #[_, .agg #[.int .i64 a, .int .i64 b, .int .i64 1, .int .i64 0, .int .i64 0, .int .i64 0, .string u]] w5 _ from S5.out.go (ent4 a b u) (show u.size ≤ 1000000 by have := HS.out; omega) (by omega)).mono ?_
        rw [HG.out]
        rintro x w6 ⟨F6, rfl, s6, -, -⟩
        rw [HNO.out HG.out] at s6
        have S6 := Lib.hid s6
        clear s6 S5
        go_wp2_with fail
        refine (Sum_t w6 g F6 2 L1 S6.out.tb (by omega) (S6.out.tab HT.out)).mono ?_
        rintro x w7 ⟨rfl, b7⟩
        have S7 := Lib.hid (S6.out.past b7)
        clear b7 S6
        go_wp2_with fail
        go_ret
        exact ⟨rfl, S7.out.bel⟩
    · as_aux_lemma =>
        have HG := Lib.hid (show did (ent4 a b u) = true by rw [HDI.out]; simp; try omega)
        go_wp2_with fail
        clear h1 h2 h3 h4
        refine (show Calls Tryd.prog _ #[_, .agg #[.int .i64 a, .int .i64 b, .int .i64 1, .int .i64 0, .int .i64 0, .int .i64 0, .string u]] w5 _ from S5.out.go (ent4 a b u) (show u.size ≤ 1000000 by have := HS.out; omega) (by omega)).mono ?_
        rw [HG.out]
        rintro x w6 ⟨F6, rfl, s6, -, -⟩
        have B6 := Lib.hid s6.bel
        clear s6 S5
        go_wp2_with fail
        go_ret
        exact ⟨rfl, B6.out⟩
  · rw [if_neg hc] at hu
    subst hu
    go_wp2_with fail
    clear hc
    refine (New_c w1).mono ?_
    rintro x w2 ⟨rfl, q2, b2⟩
    have SX := Lib.hid (show Tx w w2 w1.heap.size [w1.heap.size] 0 [] from ⟨q2, fun k hk => by rw [List.mem_singleton.1 hk]; exact B1.out.size, B1.out.trans (b2.mono B1.out.size)⟩)
    clear q2 b2 B1
    generalize w1.heap.size = g at *
    go_wp2_with fail
    refine (show Calls Tryd.prog _ #[_, .agg #[.int .i64 1, .int .i64 1, .int .i64 1, .int .i64 0, .int .i64 0, .int .i64 0, .string ⟨#[97, 61, 98]⟩]] w2 _ from SX.out.go nB2 (by decide) (by omega)).mono ?_
    rw [HL1.out]
    rintro x w3 ⟨F3, rfl, s3, -, -⟩
    have S3 := Lib.hid s3
    clear s3 SX
    go_wp2_with fail
    refine (Sum_t w3 g F3 1 L1 S3.out.tb (by omega) (S3.out.tab HT.out)).mono ?_
    rintro x w4 ⟨rfl, b4⟩
    have S4 := Lib.hid (S3.out.past b4)
    clear b4 S3
    go_wp2_with fail
    refine (Word_c s w4 (by have := HS.out; omega)).mono ?_
    rw [HWV.out]
    rintro x w5 ⟨rfl, b5⟩
    have S5 := Lib.hid (S4.out.past b5)
    clear b5 S4
    have hch : (ok = false) ∨ (ok = true ∧ a < 1) ∨ (ok = true ∧ 1 ≤ a ∧ 7 < a) ∨ (ok = true ∧ 1 ≤ a ∧ a ≤ 7 ∧ b < 1) ∨ (ok = true ∧ 1 ≤ a ∧ a ≤ 7 ∧ 1 ≤ b ∧ 1099511627776 < b) ∨ (ok = true ∧ 1 ≤ a ∧ a ≤ 7 ∧ 1 ≤ b ∧ b ≤ 1099511627776) := by
      cases ok
      · exact .inl rfl
      · simp only [true_and, Bool.true_eq_false, false_or]; omega
    rcases hch with rfl | ⟨rfl, h1⟩ | ⟨rfl, h1, h2⟩ | ⟨rfl, h1, h2, h3⟩ | ⟨rfl, h1, h2, h3, h4⟩ | ⟨rfl, h1, h2, h3, h4⟩
    · as_aux_lemma =>
        have HG := Lib.hid (show did (ent4 a b s) = false by rw [HDI.out]; simp; try omega)
        go_wp2_with fail
        refine (show Calls Tryd.prog _ #[_, .agg #[.int .i64 a, .int .i64 b, .int .i64 1, .int .i64 0, .int .i64 0, .int .i64 0, .string s]] w5 _ from S5.out.go (ent4 a b s) (show s.size ≤ 1000000 by have := HS.out; omega) (by omega)).mono ?_
        rw [HG.out]
        rintro x w6 ⟨F6, rfl, s6, -, -⟩
        rw [HNO.out HG.out] at s6
        have S6 := Lib.hid s6
        clear s6 S5
        go_wp2_with fail
        refine (Sum_t w6 g F6 2 L1 S6.out.tb (by omega) (S6.out.tab HT.out)).mono ?_
        rintro x w7 ⟨rfl, b7⟩
        have S7 := Lib.hid (S6.out.past b7)
        clear b7 S6
        go_wp2_with fail
        go_ret
        exact ⟨rfl, S7.out.bel⟩
    · as_aux_lemma =>
        have HG := Lib.hid (show did (ent4 a b s) = false by rw [HDI.out]; simp; try omega)
        go_wp2_with fail
        clear h1
        refine (show Calls Tryd.prog _ #[_, .agg #[.int .i64 a, .int .i64 b, .int .i64 1, .int .i64 0, .int .i64 0, .int .i64 0, .string s]] w5 _ from S5.out.go (ent4 a b s) (show s.size ≤ 1000000 by have := HS.out; omega) (by omega)).mono ?_
        rw [HG.out]
        rintro x w6 ⟨F6, rfl, s6, -, -⟩
        rw [HNO.out HG.out] at s6
        have S6 := Lib.hid s6
        clear s6 S5
        go_wp2_with fail
        refine (Sum_t w6 g F6 2 L1 S6.out.tb (by omega) (S6.out.tab HT.out)).mono ?_
        rintro x w7 ⟨rfl, b7⟩
        have S7 := Lib.hid (S6.out.past b7)
        clear b7 S6
        go_wp2_with fail
        go_ret
        exact ⟨rfl, S7.out.bel⟩
    · as_aux_lemma =>
        have HG := Lib.hid (show did (ent4 a b s) = false by rw [HDI.out]; simp; try omega)
        go_wp2_with fail
        clear h1 h2
        refine (show Calls Tryd.prog _ #[_, .agg #[.int .i64 a, .int .i64 b, .int .i64 1, .int .i64 0, .int .i64 0, .int .i64 0, .string s]] w5 _ from S5.out.go (ent4 a b s) (show s.size ≤ 1000000 by have := HS.out; omega) (by omega)).mono ?_
        rw [HG.out]
        rintro x w6 ⟨F6, rfl, s6, -, -⟩
        rw [HNO.out HG.out] at s6
        have S6 := Lib.hid s6
        clear s6 S5
        go_wp2_with fail
        refine (Sum_t w6 g F6 2 L1 S6.out.tb (by omega) (S6.out.tab HT.out)).mono ?_
        rintro x w7 ⟨rfl, b7⟩
        have S7 := Lib.hid (S6.out.past b7)
        clear b7 S6
        go_wp2_with fail
        go_ret
        exact ⟨rfl, S7.out.bel⟩
    · as_aux_lemma =>
        have HG := Lib.hid (show did (ent4 a b s) = false by rw [HDI.out]; simp; try omega)
        go_wp2_with fail
        clear h1 h2 h3
        refine (show Calls Tryd.prog _ #[_, .agg #[.int .i64 a, .int .i64 b, .int .i64 1, .int .i64 0, .int .i64 0, .int .i64 0, .string s]] w5 _ from S5.out.go (ent4 a b s) (show s.size ≤ 1000000 by have := HS.out; omega) (by omega)).mono ?_
        rw [HG.out]
        rintro x w6 ⟨F6, rfl, s6, -, -⟩
        rw [HNO.out HG.out] at s6
        have S6 := Lib.hid s6
        clear s6 S5
        go_wp2_with fail
        refine (Sum_t w6 g F6 2 L1 S6.out.tb (by omega) (S6.out.tab HT.out)).mono ?_
        rintro x w7 ⟨rfl, b7⟩
        have S7 := Lib.hid (S6.out.past b7)
        clear b7 S6
        go_wp2_with fail
        go_ret
        exact ⟨rfl, S7.out.bel⟩
    · as_aux_lemma =>
        have HG := Lib.hid (show did (ent4 a b s) = false by rw [HDI.out]; simp; try omega)
        have h5 : decide (b ≤ 1099511627776) = false := decide_eq_false (by omega)
        go_wp2_with fail
        clear h1 h2 h3 h4 h5
        refine (show Calls Tryd.prog _ #[_, .agg #[.int .i64 a, .int .i64 b, .int .i64 1, .int .i64 0, .int .i64 0, .int .i64 0, .string s]] w5 _ from S5.out.go (ent4 a b s) (show s.size ≤ 1000000 by have := HS.out; omega) (by omega)).mono ?_
        rw [HG.out]
        rintro x w6 ⟨F6, rfl, s6, -, -⟩
        rw [HNO.out HG.out] at s6
        have S6 := Lib.hid s6
        clear s6 S5
        go_wp2_with fail
        refine (Sum_t w6 g F6 2 L1 S6.out.tb (by omega) (S6.out.tab HT.out)).mono ?_
        rintro x w7 ⟨rfl, b7⟩
        have S7 := Lib.hid (S6.out.past b7)
        clear b7 S6
        go_wp2_with fail
        go_ret
        exact ⟨rfl, S7.out.bel⟩
    · as_aux_lemma =>
        have HG := Lib.hid (show did (ent4 a b s) = true by rw [HDI.out]; simp; try omega)
        go_wp2_with fail
        clear h1 h2 h3 h4
        refine (show Calls Tryd.prog _ #[_, .agg #[.int .i64 a, .int .i64 b, .int .i64 1, .int .i64 0, .int .i64 0, .int .i64 0, .string s]] w5 _ from S5.out.go (ent4 a b s) (show s.size ≤ 1000000 by have := HS.out; omega) (by omega)).mono ?_
        rw [HG.out]
        rintro x w6 ⟨F6, rfl, s6, -, -⟩
        have B6 := Lib.hid s6.bel
        clear s6 S5
        go_wp2_with fail
        go_ret
        exact ⟨rfl, B6.out⟩
end Go.Proofs.YtapleleaogjcjaaDoor
