/- Contract of the statements' own 'begun' (layer 2). -/
import Derived.Test.YtknmgijfffpomaaDoorCrcE
namespace Go.Proofs.YtknmgijfffpomaaDoor
open Go.RowKit

theorem openP_sealed {l : List Int} (hb : isB l) : openP (PCrc.sealed l) = (l, true) := by
  have hl : (PCrc.sealed l).length = l.length + 4 := sealed_length l
  unfold openP
  have e1 : (PCrc.sealed l).take ((PCrc.sealed l).length - 4) = l := by
    rw [hl, Nat.add_sub_cancel]; unfold PCrc.sealed; exact List.take_left
  have e2 : (PCrc.sealed l).drop ((PCrc.sealed l).length - 4) = PCrc.four (PCrc.sum l) := by
    rw [hl, Nat.add_sub_cancel]; unfold PCrc.sealed; exact List.drop_left
  rw [e1, e2, PCrc.told_four (PCrc.sum_lt hb), if_pos ⟨by omega, rfl⟩]

set_option maxRecDepth 100000 in
theorem begun_c (w : World) (ht : Tab w) : Calls Tryd.prog 7 #[] w fun e w' => e = .returned (.bool true) ∧ Below w.heap.size w w' := by
  have o1 : openP (PCrc.sealed [97]) = ([97], true) := openP_sealed (by unfold isB; decide)
  have o2 : openP [1] = ([], false) := by unfold openP; rw [if_neg (by simp)]
  have s1 : PCrc.sum [49, 50, 51, 52, 53, 54, 55, 56, 57] = 3421780262 := by decide +kernel
  have s2 : PCrc.sum [] = 0 := by decide
  have q1 : strOfNums [97] = ⟨#[97]⟩ := rfl
  have O1 := Lib.hid o1; have O2 := Lib.hid o2; have S1 := Lib.hid s1; have S2 := Lib.hid s2
  clear o1 o2 s1 s2
  go_enter Tryd.func7, Tryd.ntmps7
  have ha : Below w.heap.size w (w.alloc (.cells #[.int .u8 97] 5 (1, 2))) := (Below.refl _ _).alloc (Nat.le_refl _) _
  go_wp2_with (with_reducible show wpList _ _ _ ((⟨some 7, Op.convert 22 22 _, _, _, _, _⟩ : Oper) :: _) _ _
               go_must (refine wpList_lit rfl (.tmp 6) rfl _ 1 1 rfl ?_))
  refine (Seal_c _ _ _ _ _ [97] (Rd.lit w #[.int .u8 97] _ (1, 2) 1 1 rfl (by simp [maxLen])) (by unfold isB; decide) (ht.past ha) (by omega)).mono ?_
  rintro e w1 ⟨A1, c1, rfl, hown1, hb1⟩
  have hr1 : Rd w1 w1.heap.size A1 c1 1 5 (bs (PCrc.sealed [97])) := Rd.of_own hown1
  have hB1 : Below w.heap.size w w1 := ha.trans (hb1.mono (by simp))
  clear ha hb1 hown1
  have hsz1 := hB1.size
  have ht1 := ht.past hB1
  go_wp2_with fail
  refine (Open_c w1 _ A1 c1 5 _ hr1 (isB_sealed (by unfold isB; decide)) ht1 (by omega)).mono ?_
  rw [O1.out]
  rintro e w2 ⟨A2, c2, rfl, hr2, hb2⟩
  have hr2' : Rd w2 w2.heap.size A2 c2 1 1 (bs [97]) := hr2
  have hB2 : Below w.heap.size w w2 := hB1.trans (hb2.mono hsz1)
  have hsz2 := hB2.size
  clear hr1 hr2 hb2 hB1 ht1 hsz1
  go_wp2_with fail
  have ha2 : Below w2.heap.size w2 (w2.alloc (.cells #[.int .u8 1] 5)) := (Below.refl _ _).alloc (Nat.le_refl _) _
  have hB3 := hB2.trans (ha2.mono hsz2)
  refine (Open_c _ _ _ _ _ [1] (Rd.new w2 #[.int .u8 1] _ 1 1 rfl (by simp [maxLen])) (by unfold isB; decide) (ht.past hB3) (by omega)).mono ?_
  rw [O2.out]
  rintro e w4 ⟨A4, c4, rfl, hr4, hb4⟩
  have hB4 : Below w.heap.size w w4 := hB3.trans (hb4.mono hB3.size)
  have hr2 : Rd w4 w4.heap.size A2 c2 1 1 (bs [97]) := ((hr2'.past ha2).past hb4).tight
  have hsz4 := hB4.size
  clear hr2' hr4 hb4 hB3 ha2 hB2 hsz2
  go_wp2_with (with_reducible show wpList _ _ _ ((⟨some 18, Op.convert 22 22 _, _, _, _, _⟩ : Oper) :: _) _ _
               go_must (refine wpList_lit rfl (.tmp 17) rfl _ 9 9 rfl ?_))
  generalize hw5 : w4.alloc (.cells #[.int .u8 49, .int .u8 50, .int .u8 51, .int .u8 52, .int .u8 53, .int .u8 54, .int .u8 55, .int .u8 56, .int .u8 57] 5 (9, 10)) = w5
  have hr5 : Rd w5 (w4.heap.size + 1) (some ⟨w4.heap.size, 0, none⟩) 9 1 9 (bs [49, 50, 51, 52, 53, 54, 55, 56, 57]) := by
    rw [← hw5]; exact Rd.lit w4 #[.int .u8 49, .int .u8 50, .int .u8 51, .int .u8 52, .int .u8 53, .int .u8 54, .int .u8 55, .int .u8 56, .int .u8 57] _ (9, 10) 1 9 rfl (by simp [maxLen])
  have hb5 : Below w4.heap.size w4 w5 := by rw [← hw5]; exact (Below.refl _ _).alloc (Nat.le_refl _) _
  clear hw5
  have hr25 := (hr2.past hb5)
  have hB5 : Below w.heap.size w w5 := hB4.trans (hb5.mono hsz4)
  clear hr2 hb5 hB4 hsz4
  refine (Sum_c w5 _ _ _ _ _ hr5 (by unfold isB; decide) (ht.past hB5)).mono ?_
  rintro e w6 ⟨rfl, rfl⟩
  rw [S1.out]
  clear hr5
  go_wp2_with fail
  refine (Sum_c w5 0 _ _ _ [] (Rd.nil _ 0 1) (by unfold isB; decide) (ht.past hB5)).mono ?_
  rintro e w6 ⟨rfl, rfl⟩
  rw [S2.out]
  go_wp2_with (with_reducible show wpList _ _ _ ((⟨some 27, Op.convert 22 9 (.tmp 26), _, _, _, _⟩ : Oper) :: _) _ _
               go_must (refine wpList_unguard (by rfl) ?_; refine wpList_toStr rfl 22 9 (.tmp 26) rfl 5 Tryd.underlying22 Tryd.underlying5 Tryd.underlying9 _ A2 c2 1 [97] rfl hr25 ?_))
  go_ret
  exact ⟨rfl, hB5⟩

end Go.Proofs.YtknmgijfffpomaaDoor
