/- Contract of the document's EqMsg. -/
import Derived.Test.YtfolifhgmdglaaaGreatDoorSeg10
import Derived.Test.YtfolifhgmdglaaaGreatDoorSeg3
namespace Go.Proofs.YtfolifhgmdglaaaGreatDoor
open Go.RowKit

set_option maxHeartbeats 4000000 in
set_option maxRecDepth 100000 in
theorem rEqM_c (w : World) (a b : Msg) (A A2 : Option Addr) (c c2 : Nat) (h : Rd w w.heap.size A c 7 a.es.length (els a.es)) (h2 : Rd w w.heap.size A2 c2 7 b.es.length (els b.es)) :
    Calls Tryz.prog 54 #[mv a A c, mv b A2 c2] w fun x w' => x = .returned (.bool (PMsg.eqM a b)) ∧ Below w.heap.size w w' := by
  obtain ⟨kind0, fr0, dst0, boot0, view0, last0, mem0, pos0, es0, com0, num0, clk0, yes0⟩ := a
  obtain ⟨kind1, fr1, dst1, boot1, view1, last1, mem1, pos1, es1, com1, num1, clk1, yes1⟩ := b
  have R1 := Lib.hid h
  have R2 := Lib.hid h2
  have W1 := Lib.hid (((Below.refl w.heap.size w).alloc (Nat.le_refl _) (.cells #[.int .i64 kind0, .int .i64 fr0, .int .i64 dst0, .int .i64 boot0, .int .i64 view0, .int .i64 last0, .int .i64 mem0, .int .i64 pos0, .slice A es0.length c, .int .i64 com0, .int .i64 num0, .int .i64 clk0, .bool yes0] 47)).alloc (by simp) (.cells #[.int .i64 kind1, .int .i64 fr1, .int .i64 dst1, .int .i64 boot1, .int .i64 view1, .int .i64 last1, .int .i64 mem1, .int .i64 pos1, .slice A2 es1.length c2, .int .i64 com1, .int .i64 num1, .int .i64 clk1, .bool yes1] 47))
  clear h h2
  show Calls _ _ #[.agg #[.int .i64 kind0, .int .i64 fr0, .int .i64 dst0, .int .i64 boot0, .int .i64 view0, .int .i64 last0, .int .i64 mem0, .int .i64 pos0, .slice A es0.length c, .int .i64 com0, .int .i64 num0, .int .i64 clk0, .bool yes0], .agg #[.int .i64 kind1, .int .i64 fr1, .int .i64 dst1, .int .i64 boot1, .int .i64 view1, .int .i64 last1, .int .i64 mem1, .int .i64 pos1, .slice A2 es1.length c2, .int .i64 com1, .int .i64 num1, .int .i64 clk1, .bool yes1]] _ _
  go_enter Tryz.func54, Tryz.ntmps54
  go_wp2_with fail
  · clear W1
    refine (EqAll_c _ A A2 c es0.length c2 es1.length es0 es1 ((R1.out.past (((Below.refl _ _).alloc (Nat.le_refl _) _).alloc (by simp) _)).tight) ((R2.out.past (((Below.refl _ _).alloc (Nat.le_refl _) _).alloc (by simp) _)).tight)).mono ?_
    rintro x w5 ⟨rfl, b5⟩
    have B5 := Lib.hid ((((Below.refl w.heap.size w).alloc (Nat.le_refl _) _).alloc (by simp) _).trans (b5.mono (by simp; omega)))
    clear b5
    go_wp2_with fail
    go_ret
    refine ⟨?_, B5.out⟩
    show Ending.returned (.bool (PEnt.eqL es0 es1)) = _
    simp [PMsg.eqM, PMsg.eqN, *]
  all_goals
    go_ret
    refine ⟨?_, ((Below.refl _ _).alloc (Nat.le_refl _) _).alloc (by simp) _⟩
    rw [PMsg.eqM_no (fun h => by simp only [Msg.mk.injEq] at h; simp_all)]
    rfl
end Go.Proofs.YtfolifhgmdglaaaGreatDoor

