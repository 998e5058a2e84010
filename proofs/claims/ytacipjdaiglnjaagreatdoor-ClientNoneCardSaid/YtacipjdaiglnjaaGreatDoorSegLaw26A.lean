/- The walk of ClientNone. -/
import Derived.Test.YtacipjdaiglnjaaGreatDoorSeg26
namespace Go.Proofs.YtacipjdaiglnjaaGreatDoor
open Go.RowKit PNode

set_option maxHeartbeats 8000000 in
set_option maxRecDepth 100000 in
theorem ClientNone_w (w : World) (ht : Tab w) : Calls Tryz.prog 4 #[] w fun e w' => e = .returned (.bool true) ∧ Below w.heap.size w w' := by
  have HT := Lib.hid ht
  clear ht
  go_enter Tryz.func4, Tryz.ntmps4
  go_wp2_with fail
  refine (clNew_c w none).mono ?_
  rintro e w1 ⟨rfl, k1, b1⟩
  have K1 := Lib.hid k1
  have B1 := Lib.hid b1
  obtain ⟨g, hg⟩ : ∃ g, w.heap.size = g := ⟨_, rfl⟩
  have HG := Lib.hid (show w.heap.size ≤ g by omega)
  rw [hg] at K1 ⊢
  clear k1 b1 hg
  go_wp2_with fail
  refine (clGet_nil w1 ⟨#[97]⟩).mono ?_
  rintro e w' ⟨rfl, rfl⟩
  go_wp2_with fail
  refine (clGet_no K1.out ⟨#[97]⟩).mono ?_
  rintro e w' ⟨rfl, rfl⟩
  go_wp2_with fail
  refine (clStat_nil w1).mono ?_
  rintro e w2 ⟨rfl, b2⟩
  have K2 := Lib.hid (K1.out.past b2)
  have B2 := Lib.hid (B1.out.trans (b2.mono B1.out.size))
  clear b2 K1 B1
  go_wp2_with fail
  refine (clStat_no K2.out).mono ?_
  rintro e w3 ⟨rfl, b3⟩
  have K3 := Lib.hid (K2.out.past b3)
  have B3 := Lib.hid (B2.out.trans (b3.mono B2.out.size))
  clear b3 K2 B2
  simp only [stv0]
  have b4 := ((Below.refl w3.heap.size w3).alloc (Nat.le_refl _) (.cells #[.bool false, .bool false, .bool false, .int .i64 0, .int .i64 0, .int .i64 0, .int .i64 0, .int .i64 0] 41)).alloc (by simp) (.cells #[.bool false, .bool false, .bool false, .int .i64 0, .int .i64 0, .int .i64 0, .int .i64 0, .int .i64 0] 41)
  have K4 := Lib.hid (K3.out.past b4)
  have B4 := Lib.hid (B3.out.trans (b4.mono B3.out.size))
  have S7 := Lib.hid ((Blk.new w3 #[.bool false, .bool false, .bool false, .int .i64 0, .int .i64 0, .int .i64 0, .int .i64 0, .int .i64 0] 41).alloc (.cells #[.bool false, .bool false, .bool false, .int .i64 0, .int .i64 0, .int .i64 0, .int .i64 0, .int .i64 0] 41))
  have S8 := Lib.hid (show Blk ((w3.alloc (.cells #[.bool false, .bool false, .bool false, .int .i64 0, .int .i64 0, .int .i64 0, .int .i64 0, .int .i64 0] 41)).alloc (.cells #[.bool false, .bool false, .bool false, .int .i64 0, .int .i64 0, .int .i64 0, .int .i64 0, .int .i64 0] 41)) (w3.heap.size + 1) 41 [.bool false, .bool false, .bool false, .int .i64 0, .int .i64 0, .int .i64 0, .int .i64 0, .int .i64 0] from by
    have h := Blk.new (w3.alloc (.cells #[.bool false, .bool false, .bool false, .int .i64 0, .int .i64 0, .int .i64 0, .int .i64 0, .int .i64 0] 41)) #[.bool false, .bool false, .bool false, .int .i64 0, .int .i64 0, .int .i64 0, .int .i64 0, .int .i64 0] 41
    have e : (w3.alloc (.cells #[.bool false, .bool false, .bool false, .int .i64 0, .int .i64 0, .int .i64 0, .int .i64 0, .int .i64 0] 41)).heap.size = w3.heap.size + 1 := by simp
    rw [e] at h
    exact h)
  clear b4 K3 B3
  go_wp2_with fail
  generalize ((w3.alloc (.cells #[.bool false, .bool false, .bool false, .int .i64 0, .int .i64 0, .int .i64 0, .int .i64 0, .int .i64 0] 41)).alloc (.cells #[.bool false, .bool false, .bool false, .int .i64 0, .int .i64 0, .int .i64 0, .int .i64 0, .int .i64 0] 41)) = w4 at *
  generalize w3.heap.size = st at *
  refine (clCast_nil w4 0 0 ⟨#[]⟩).mono ?_
  rintro e w' ⟨rfl, rfl⟩
  go_wp2_with fail
  refine (clCast_no K4.out (Int.le_refl _) (by omega)).mono ?_
  rintro e w5 ⟨rfl, k5, t5⟩
  have K5 := Lib.hid (show Cl w5 g none 0 1 from k5)
  have B5 := Lib.hid (B4.out.trans (t5.below (fun z hz => by rw [List.mem_singleton.1 hz]; exact HG.out) B4.out.size))
  have S75 := Lib.hid (S7.out.touch t5 (fun hm => S7.out.ne K4.out (by decide) (List.mem_singleton.1 hm)))
  have S85 := Lib.hid (S8.out.touch t5 (fun hm => S8.out.ne K4.out (by decide) (List.mem_singleton.1 hm)))
  clear k5 t5 K4 B4 S7 S8
  go_wp2_with fail
  refine (bgn_c w5 (HT.out.past B5.out)).mono ?_
  rintro e w6 ⟨rfl, b6⟩
  have K6 := Lib.hid (K5.out.past b6)
  have B6 := Lib.hid (B5.out.trans (b6.mono B5.out.size))
  have S76 := Lib.hid (S75.out.past b6)
  have S86 := Lib.hid (S85.out.past b6)
  clear b6 K5 B5 S75 S85
  go_wp2_with fail
  refine (clPoll_nil w6).mono ?_
  rintro e w' ⟨rfl, rfl⟩
  go_wp2_with fail
  refine (clPoll_no K6.out).mono ?_
  rintro e w7 ⟨A7, c7, rfl, k7, t7⟩
  have K7 := Lib.hid k7
  have B7 := Lib.hid (B6.out.trans (t7.below (fun z hz => by rw [List.mem_singleton.1 hz]; exact HG.out) B6.out.size))
  have S77 := S76.out.touch t7 (fun hm => S76.out.ne K6.out (by decide) (List.mem_singleton.1 hm))
  have S87 := S86.out.touch t7 (fun hm => S86.out.ne K6.out (by decide) (List.mem_singleton.1 hm))
  have c0 := S77.cell (i := 0) rfl
  have d0 := S87.cell (i := 0) rfl
  have d3 := S87.cell (i := 3) rfl
  clear k7 t7 K6 B6 S76 S86 S77 S87
  go_wp2_with fail
  refine (clLost_nil w7).mono ?_
  rintro e w' ⟨rfl, rfl⟩
  go_wp2_with fail
  refine (clLost_c K7.out).mono ?_
  rintro e w' ⟨rfl, rfl⟩
  go_wp2_with fail
  go_ret
  exact ⟨rfl, B7.out⟩
end Go.Proofs.YtacipjdaiglnjaaGreatDoor

