/- Contracts of package tally. -/
import Derived.Test.YtkfgnnnlhpaglaaRows
import Derived.Test.YtkfgnnnlhpaglaaBlk
import Derived.Test.YtkfgnnnlhpaglaaPlainTally
import Derived.Laws.LoneSync
namespace Go.Proofs.Ytkfgnnnlhpaglaa
open Go.RowKit

section
variable {P : Program} {f : FuncId} {fn : Func}
/-- sync/atomic.SwapT: the new number is stored; the old one is handed back. -/
theorem run_call_swap (hf : P.funcs[f]? = some fn) (hname : (fn.name == "runtime.NumGoroutine") = false) (hb : fn.body.isNone = true) (hn : Extern.findNext fn = none) (k : IntKind)
    (he : Extern.find fn = some (Extern.Atomic.swapT (.int k))) {a : Addr} {x y : Int} {w : World} (hc : w.cell? a = some (.int k x)) (hz : w.frozen? a = false) :
    (callFunc f #[.pointer (some a), .int k y]).run P w = .ok (.value (.int k x)) (w.setCell a (.int k y)) := by
  rw [run_callFunc_extern hf hname hb hn he]
  change (Sem.run P (do
    let a' ← asAddr (.pointer (some a))
    let old ← Extern.Atomic.read (.int k) a'
    store a' (.int k y) .atomic
    pure old) w).andThen _ = _
  simp [Extern.Atomic.read, asAddr, hc, hz, run_store P w a (.int k y) .atomic rfl, Result.andThen]
end

/-- Sixteen numbers at block g (of a variable of type e). -/
def Ti (e : TypeId) (w : World) (g : Nat) (z : List Int) : Prop := z.length = 16 ∧ Blk w g e (z.map (Value.int .i64))
/-- The tally at block g. -/
abbrev Tl := Ti 31
section
variable {e : TypeId} {w w' : World} {g : Nat} {z : List Int}
theorem Ti.cell (h : Ti e w g z) {i : Nat} (hi : i < 16) : w.cell? ⟨g, i, none⟩ = some (.int .i64 (z.getD i 0)) := by
  refine h.2.cell ?_
  have hl : i < z.length := by rw [h.1]; exact hi
  rw [List.getElem?_map, List.getElem?_eq_getElem hl]; simp [List.getD, List.getElem?_eq_getElem hl]
theorem Ti.set (h : Ti e w g z) (i : Nat) (x : Int) : Ti e (w.setCell ⟨g, i, none⟩ (.int .i64 x)) g (z.set i x) :=
  ⟨by rw [List.length_set]; exact h.1, by rw [List.map_set]; exact h.2.set i _⟩
theorem Ti.far {k : Nat} (h : Ti e w g z) (hb : w.grownBy w' (some k)) (hk : g ≠ k) : Ti e w' g z := ⟨h.1, h.2.far hb hk⟩
theorem Ti.past (h : Ti e w g z) (hb : Below w.heap.size w w') : Ti e w' g z := ⟨h.1, h.2.past hb⟩
theorem Ti.drew (h : Ti e w g z) : Ti e w.drew g z := h
theorem Ti.new (w : World) (e : TypeId) : Ti e (w.alloc (.cells #[.int .i64 0, .int .i64 0, .int .i64 0, .int .i64 0, .int .i64 0, .int .i64 0, .int .i64 0, .int .i64 0, .int .i64 0, .int .i64 0, .int .i64 0, .int .i64 0, .int .i64 0, .int .i64 0, .int .i64 0, .int .i64 0] e)) w.heap.size PTally.zero :=
  ⟨rfl, Blk.new w _ _⟩
end

theorem aLoad_c (w : World) (g i : Nat) (x : Int) (hc : w.cell? ⟨g, i, none⟩ = some (.int .i64 x)) :
    Calls Try.prog 15 #[.pointer (some ⟨g, i, none⟩)] w fun e w' => e = .returned (.int .i64 x) ∧ w = w' := by
  have hld := run_call_load (P := Try.prog) Try.func18 (by kernel_rfl) (by kernel_rfl) (by kernel_rfl) .i64 (by kernel_rfl) hc
  go_enter Try.func15, Try.ntmps15
  go_wp2
  go_ret
  exact ⟨rfl, rfl⟩

theorem aAdd_c (w : World) (g i : Nat) (x y s : Int) (hc : w.cell? ⟨g, i, none⟩ = some (.int .i64 x)) (hz : w.frozen? ⟨g, i, none⟩ = false) (hs : x + y = s) (h1 : -9223372036854775808 ≤ s) (h2 : s ≤ 9223372036854775807) :
    Calls Try.prog 14 #[.pointer (some ⟨g, i, none⟩), .int .i64 y] w fun e w' => e = .returned (.int .i64 s) ∧ w' = w.setCell ⟨g, i, none⟩ (.int .i64 s) := by
  have hld := run_call_add (P := Try.prog) Try.func17 (by kernel_rfl) (by kernel_rfl) (by kernel_rfl) .i64 (by kernel_rfl) (y := y) (s := s) hc hz (by simp [go_sem, IntKind.wrap_i64]; omega)
  clear hs h1 h2
  go_enter Try.func14, Try.ntmps14
  go_wp2
  go_ret
  exact ⟨rfl, rfl⟩

theorem aSwap_c (w : World) (g i : Nat) (x y : Int) (hc : w.cell? ⟨g, i, none⟩ = some (.int .i64 x)) (hz : w.frozen? ⟨g, i, none⟩ = false) :
    Calls Try.prog 12 #[.pointer (some ⟨g, i, none⟩), .int .i64 y] w fun e w' => e = .returned (.int .i64 x) ∧ w' = w.setCell ⟨g, i, none⟩ (.int .i64 y) := by
  have hld := run_call_swap (P := Try.prog) Try.func16 (by kernel_rfl) (by kernel_rfl) (by kernel_rfl) .i64 (by kernel_rfl) (y := y) hc hz
  go_enter Try.func12, Try.ntmps12
  go_wp2
  go_ret
  exact ⟨rfl, rfl⟩

end Go.Proofs.Ytkfgnnnlhpaglaa
