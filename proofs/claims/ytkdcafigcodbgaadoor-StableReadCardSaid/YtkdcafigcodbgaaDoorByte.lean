/- A byte's cells in the program. -/
import Derived.Test.YtkdcafigcodbgaaDoorRows
import Derived.Test.YtkdcafigcodbgaaDoorKit
import Derived.Lib.SlBytesConst
namespace Go.Proofs.YtkdcafigcodbgaaDoor
open Go.RowKit

theorem byte_info : (Tryd.prog.info? 5).map (fun i => (i.zero, i.size, i.bytes)) = some (some (.int .u8 0), 1, 1) := by kernel_rfl

/-- '[]byte("..")' of a literal: the row that was just made gets a mark behind its last cell. -/
theorem wpList_lit {w : World} {ops : Array Oper} {rest : List Oper} {o : Oper} {a : Act} {Q : Exit → Act → World → Prop} (hgd : o.guard = none) (x : Operand) (ho : o.op = .convert 33 33 x)
    (C : Array Value) (c n : Nat) (hx : a.eval x = .slice (some ⟨w.heap.size, 0, none⟩) n c)
    (h : wpList Tryd.prog ops Q rest (a.put o.dst (.slice (some ⟨w.heap.size, 0, none⟩) n c)) (w.alloc (.cells C 5 (C.size, C.size + 1)))) : wpList Tryd.prog ops Q (o :: rest) a (w.alloc (.cells C 5)) := by
  refine wpList_plain hgd fun K hK => ?_
  unfold Oper.wp execOp
  simp only [ho, hx, Sem.run_bind, Lib.run_convert_bytes_const w 33 5 C n c Tryd.underlying33 Tryd.underlying5, Result.andThen_ok, Sem.run_pure]
  exact hK _ _ h
theorem Rd.lit (w : World) (us : Array Value) (e : TypeId) (fr : Nat × Nat) (k n : Nat) (hn : us.size = n * k) (hm : n ≤ maxLen) : Rd (w.alloc (.cells us e fr)) (w.heap.size + 1) (some ⟨w.heap.size, 0, none⟩) n k n us.toList :=
  ⟨by simpa using hn, Nat.le_refl _, hm, fun hh => (by cases hh), fun _ => ⟨w.heap.size, 0, rfl, by omega, fun j v hv => by
    rw [Nat.zero_add, cell_of_row _ _ j us e fr (heap_alloc_new w _)]; simpa using hv⟩⟩

end Go.Proofs.YtkdcafigcodbgaaDoor
