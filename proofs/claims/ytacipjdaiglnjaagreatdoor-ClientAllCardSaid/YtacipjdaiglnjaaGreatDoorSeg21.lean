/- Contract of the document's MayMsg: what is wrong ahead of its first call. -/
import Derived.Test.YtacipjdaiglnjaaGreatDoorSeg14
namespace Go.Proofs.YtacipjdaiglnjaaGreatDoor
open Go.RowKit

/-- Kind, From, To, and Boot from 1 on. -/
def May1 (m : Msg) : Prop := (1 ≤ m.kind ∧ m.kind ≤ 13) ∧ (1 ≤ m.fr ∧ m.fr ≤ 7) ∧ (1 ≤ m.dst ∧ m.dst ≤ 7) ∧ m.fr ≠ m.dst ∧ 1 ≤ m.boot

set_option maxHeartbeats 4000000 in
set_option maxRecDepth 100000 in
theorem rMay_bad (w : World) (m : Msg) (A : Option Addr) (c : Nat) (hbad : ¬ May1 m) :
    Calls Tryz.prog 58 #[mv m A c] w fun x w' => x = .returned (.bool (PMsg.may m)) ∧ Below w.heap.size w w' := by
  obtain ⟨kind, fr, dst, boot, view, last, mem, pos, es, com, num, clk, yes⟩ := m
  have W1 := Lib.hid ((Below.refl w.heap.size w).alloc (Nat.le_refl _) (.cells #[.int .i64 kind, .int .i64 fr, .int .i64 dst, .int .i64 boot, .int .i64 view, .int .i64 last, .int .i64 mem, .int .i64 pos, .slice A es.length c, .int .i64 com, .int .i64 num, .int .i64 clk, .bool yes] 31))
  rcases Int.lt_or_le kind 1 with cb | k0
  · have HN := Lib.hid (show PMsg.may ⟨kind, fr, dst, boot, view, last, mem, pos, es, com, num, clk, yes⟩ = false from PMsg.may_no.2 fun h => by have := h.1; dsimp only at this; omega)
    show Calls _ _ #[.agg #[.int .i64 kind, .int .i64 fr, .int .i64 dst, .int .i64 boot, .int .i64 view, .int .i64 last, .int .i64 mem, .int .i64 pos, .slice A es.length c, .int .i64 com, .int .i64 num, .int .i64 clk, .bool yes]] _ _
    go_enter Tryz.func58, Tryz.ntmps58
    go_wp2_with fail
    go_ret
    exact ⟨by rw [HN.out]; rfl, W1.out⟩
  rcases Int.lt_or_le 13 kind with cb | k1
  · have HN := Lib.hid (show PMsg.may ⟨kind, fr, dst, boot, view, last, mem, pos, es, com, num, clk, yes⟩ = false from PMsg.may_no.2 fun h => by have := h.1; dsimp only at this; omega)
    show Calls _ _ #[.agg #[.int .i64 kind, .int .i64 fr, .int .i64 dst, .int .i64 boot, .int .i64 view, .int .i64 last, .int .i64 mem, .int .i64 pos, .slice A es.length c, .int .i64 com, .int .i64 num, .int .i64 clk, .bool yes]] _ _
    go_enter Tryz.func58, Tryz.ntmps58
    go_wp2_with fail
    go_ret
    exact ⟨by rw [HN.out]; rfl, W1.out⟩
  rcases Int.lt_or_le fr 1 with cb | f0
  · have HN := Lib.hid (show PMsg.may ⟨kind, fr, dst, boot, view, last, mem, pos, es, com, num, clk, yes⟩ = false from PMsg.may_no.2 fun h => by have := h.2.1; dsimp only at this; omega)
    show Calls _ _ #[.agg #[.int .i64 kind, .int .i64 fr, .int .i64 dst, .int .i64 boot, .int .i64 view, .int .i64 last, .int .i64 mem, .int .i64 pos, .slice A es.length c, .int .i64 com, .int .i64 num, .int .i64 clk, .bool yes]] _ _
    go_enter Tryz.func58, Tryz.ntmps58
    go_wp2_with fail
    go_ret
    exact ⟨by rw [HN.out]; rfl, W1.out⟩
  rcases Int.lt_or_le 7 fr with cb | f1
  · have HN := Lib.hid (show PMsg.may ⟨kind, fr, dst, boot, view, last, mem, pos, es, com, num, clk, yes⟩ = false from PMsg.may_no.2 fun h => by have := h.2.1; dsimp only at this; omega)
    show Calls _ _ #[.agg #[.int .i64 kind, .int .i64 fr, .int .i64 dst, .int .i64 boot, .int .i64 view, .int .i64 last, .int .i64 mem, .int .i64 pos, .slice A es.length c, .int .i64 com, .int .i64 num, .int .i64 clk, .bool yes]] _ _
    go_enter Tryz.func58, Tryz.ntmps58
    go_wp2_with fail
    go_ret
    exact ⟨by rw [HN.out]; rfl, W1.out⟩
  rcases Int.lt_or_le dst 1 with cb | d0
  · have HN := Lib.hid (show PMsg.may ⟨kind, fr, dst, boot, view, last, mem, pos, es, com, num, clk, yes⟩ = false from PMsg.may_no.2 fun h => by have := h.2.2.1; dsimp only at this; omega)
    show Calls _ _ #[.agg #[.int .i64 kind, .int .i64 fr, .int .i64 dst, .int .i64 boot, .int .i64 view, .int .i64 last, .int .i64 mem, .int .i64 pos, .slice A es.length c, .int .i64 com, .int .i64 num, .int .i64 clk, .bool yes]] _ _
    go_enter Tryz.func58, Tryz.ntmps58
    go_wp2_with fail
    go_ret
    exact ⟨by rw [HN.out]; rfl, W1.out⟩
  rcases Int.lt_or_le 7 dst with cb | d1
  · have HN := Lib.hid (show PMsg.may ⟨kind, fr, dst, boot, view, last, mem, pos, es, com, num, clk, yes⟩ = false from PMsg.may_no.2 fun h => by have := h.2.2.1; dsimp only at this; omega)
    show Calls _ _ #[.agg #[.int .i64 kind, .int .i64 fr, .int .i64 dst, .int .i64 boot, .int .i64 view, .int .i64 last, .int .i64 mem, .int .i64 pos, .slice A es.length c, .int .i64 com, .int .i64 num, .int .i64 clk, .bool yes]] _ _
    go_enter Tryz.func58, Tryz.ntmps58
    go_wp2_with fail
    go_ret
    exact ⟨by rw [HN.out]; rfl, W1.out⟩
  cases hq : (fr == dst)
  case true =>
    have HN := Lib.hid (show PMsg.may ⟨kind, fr, dst, boot, view, last, mem, pos, es, com, num, clk, yes⟩ = false from PMsg.may_no.2 fun h => h.2.2.2.1 (by simpa using hq))
    show Calls _ _ #[.agg #[.int .i64 kind, .int .i64 fr, .int .i64 dst, .int .i64 boot, .int .i64 view, .int .i64 last, .int .i64 mem, .int .i64 pos, .slice A es.length c, .int .i64 com, .int .i64 num, .int .i64 clk, .bool yes]] _ _
    go_enter Tryz.func58, Tryz.ntmps58
    go_wp2_with fail
    go_ret
    exact ⟨by rw [HN.out]; rfl, W1.out⟩
  case false =>
  rcases Int.lt_or_le boot 1 with cb | b0
  · have HN := Lib.hid (show PMsg.may ⟨kind, fr, dst, boot, view, last, mem, pos, es, com, num, clk, yes⟩ = false from PMsg.may_no.2 fun h => by have := h.2.2.2.2.1; dsimp only at this; omega)
    show Calls _ _ #[.agg #[.int .i64 kind, .int .i64 fr, .int .i64 dst, .int .i64 boot, .int .i64 view, .int .i64 last, .int .i64 mem, .int .i64 pos, .slice A es.length c, .int .i64 com, .int .i64 num, .int .i64 clk, .bool yes]] _ _
    go_enter Tryz.func58, Tryz.ntmps58
    go_wp2_with fail
    go_ret
    exact ⟨by rw [HN.out]; rfl, W1.out⟩
  exact absurd ⟨⟨k0, k1⟩, ⟨f0, f1⟩, ⟨d0, d1⟩, by simpa using hq, b0⟩ hbad
end Go.Proofs.YtacipjdaiglnjaaGreatDoor

