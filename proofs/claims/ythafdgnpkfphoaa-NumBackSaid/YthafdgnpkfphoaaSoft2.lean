/- The rule for regions that draw: what is told of each value; the steps. -/
import Derived.Test.YthafdgnpkfphoaaSoft
import Derived.Tactics
namespace Go.Proofs.Ythafdgnpkfphoaa
open Go.RowKit

/-- What is told of a value: what it is; or a property that lasts while memory grows. -/
structure Lasting where
  p : Value → World → Prop
  lasts : ∀ v w w', p v w → Below w.heap.size w w' → p v w'

def postOf (spec : List (Value ⊕ Lasting)) (i : Nat) (v : Value) (w : World) : Prop :=
  match spec[i]? with
  | some (.inl u) => v = u
  | some (.inr q) => q.p v w
  | none => True

theorem postOf_lasts (spec : List (Value ⊕ Lasting)) : ∀ i v w w', postOf spec i v w → Below w.heap.size w w' → postOf spec i v w' := by
  intro i v w w' h hb
  unfold postOf at *
  split <;> simp_all
  exact Lasting.lasts _ _ _ _ h hb

/-- A slice that reads as these bytes. -/
def bytesL (l : List Int) : Lasting where
  p v w := ∃ A c, v = .slice A l.length c ∧ Rd w w.heap.size A c 1 l.length (bs l)
  lasts := by
    rintro v w w' ⟨A, c, rfl, h⟩ hb
    exact ⟨A, c, rfl, (h.past hb).more hb.size⟩

section
variable {P : Program} {l : List Oper} {posts : Nat → Value → World → Prop} {o : Oper} {a : Act} {w w' : World} {i : Nat} {v : Value}

theorem ok_run (hw : Region.wanted o (yielded l.toArray a.tmps) = true) (hr : (execOp a.eval o).run P w = .ok (.value v) w') (hb : Below w.heap.size w w') (hp : posts i v w') :
    if Region.wanted o (yielded l.toArray a.tmps) = true then o.wp P a w (fun a' w' => ∃ v, a' = a.put o.dst v ∧ posts i v w' ∧ Below w.heap.size w w') (fun _ _ _ => False) else posts i undef w := by
  rw [if_pos hw]
  unfold Oper.wp
  rw [hr]
  exact ⟨v, rfl, hp, hb⟩

theorem ok_call {f : FuncId} {args : Array Value} (hw : Region.wanted o (yielded l.toArray a.tmps) = true) (hr : (execOp a.eval o).run P w = .ok (.enter f args) w)
    (hc : Calls P f args w fun e w' => ∃ v, e = .returned v ∧ posts i v w' ∧ Below w.heap.size w w') :
    if Region.wanted o (yielded l.toArray a.tmps) = true then o.wp P a w (fun a' w' => ∃ v, a' = a.put o.dst v ∧ posts i v w' ∧ Below w.heap.size w w') (fun _ _ _ => False) else posts i undef w := by
  rw [if_pos hw]
  unfold Oper.wp
  rw [hr]
  refine hc.mono fun e w' => ?_
  rintro ⟨v, rfl, hp, hb⟩
  exact ⟨v, rfl, hp, hb⟩

theorem ok_not (hw : Region.wanted o (yielded l.toArray a.tmps) = false) (hp : posts i undef w) :
    if Region.wanted o (yielded l.toArray a.tmps) = true then o.wp P a w (fun a' w' => ∃ v, a' = a.put o.dst v ∧ posts i v w' ∧ Below w.heap.size w w') (fun _ _ _ => False) else posts i undef w := by
  rw [if_neg (by rw [hw]; decide)]
  exact hp

theorem wanted_free (h : o.guard = none) : Region.wanted o (yielded l.toArray a.tmps) = true := by unfold Region.wanted; rw [h]
theorem wanted_at {j : Nat} {want b : Bool} {d : Tmp} (h : o.guard = some (j, want)) (hd : dstOf l j = some d) (hv : a.tmps[d]? = some (.bool b)) :
    Region.wanted o (yielded l.toArray a.tmps) = (b == want) := by
  have hy : yielded l.toArray a.tmps j = some b := by
    unfold yielded
    have e : (l.toArray[j]?).bind (·.dst) = some d := by simpa [dstOf] using hd
    rw [e, Option.bind_some, hv]
  unfold Region.wanted
  rw [h]
  simp only [hy]
  cases b <;> cases want <;> rfl
theorem wanted_yes {j : Nat} {b : Bool} {d : Tmp} (h : o.guard = some (j, b)) (hd : dstOf l j = some d) (hv : a.tmps[d]? = some (.bool b)) :
    Region.wanted o (yielded l.toArray a.tmps) = true := by rw [wanted_at h hd hv]; cases b <;> rfl
theorem run_move (dst : Option Tmp) (x : Operand) (ty : TypeId) (pos : String) (after : Array Edge) (guard : Option (Nat × Bool)) (ρ : Operand → Value) :
    (execOp ρ { dst, op := .move x, type := ty, pos, after, guard }).run P w = .ok (.value (ρ x)) w := rfl
theorem run_convert (dst : Option Tmp) (s d : TypeId) (x : Operand) (ty : TypeId) (pos : String) (after : Array Edge) (guard : Option (Nat × Bool)) (ρ : Operand → Value) {u : Value}
    (h : (convert s d (ρ x)).run P w = .ok u w) :
    (execOp ρ { dst, op := .convert s d x, type := ty, pos, after, guard }).run P w = .ok (.value u) w := by
  unfold execOp
  simp only [Sem.run_bind, h, Result.andThen_ok, Sem.run_pure]
end

section
variable {P : Program} {w : World}
/-- A call, said by the function's row. -/
theorem run_callf (dst : Option Tmp) (f : FuncId) (xs : Array Operand) (ats : Array TypeId) (ty : TypeId) (pos : String) (after : Array Edge) (guard : Option (Nat × Bool)) (a : Act) {fn : Func}
    (hf : P.funcs[f]? = some fn) (hn : (fn.name == "runtime.NumGoroutine") = false) (hb : fn.body.isNone = false) :
    (execOp a.eval { dst, op := .call { callee := .value (.func f), args := xs, argTypes := ats }, type := ty, pos, after, guard }).run P w = .ok (.enter f (xs.map a.eval)) w := by
  rw [execOp_call_go]
  have h1 : fn.name ≠ "runtime.NumGoroutine" := by simpa using hn
  have h2 : fn.body ≠ none := by
    intro h; rw [h] at hb; cases hb
  simp [callFunc, hf, h1, h2]
theorem run_str_neq (dst : Option Tmp) (t t' : TypeId) (x y : Operand) (ty : TypeId) (pos : String) (after : Array Edge) (guard : Option (Nat × Bool)) (ρ : Operand → Value) {s u : ByteArray} (hx : ρ x = .string s) (hy : ρ y = .string u) :
    (execOp ρ { dst, op := .binOp .neq t x y t', type := ty, pos, after, guard }).run P w = .ok (.value (.bool !(s.toList == u.toList))) w := by
  unfold execOp
  simp only [hx, hy, binOp_string_neq]
  simp [eqGuard]
theorem run_str_eql (dst : Option Tmp) (t t' : TypeId) (x y : Operand) (ty : TypeId) (pos : String) (after : Array Edge) (guard : Option (Nat × Bool)) (ρ : Operand → Value) {s u : ByteArray} (hx : ρ x = .string s) (hy : ρ y = .string u) :
    (execOp ρ { dst, op := .binOp .eql t x y t', type := ty, pos, after, guard }).run P w = .ok (.value (.bool (s.toList == u.toList))) w := by
  unfold execOp
  simp only [hx, hy, binOp_string_eql]
  simp [eqGuard]
theorem run_str_add (dst : Option Tmp) (t t' : TypeId) (x y : Operand) (ty : TypeId) (pos : String) (after : Array Edge) (guard : Option (Nat × Bool)) (ρ : Operand → Value) {s u : ByteArray} (hx : ρ x = .string s) (hy : ρ y = .string u)
    (hs : s.size + u.size ≤ 9223372036854775807) :
    (execOp ρ { dst, op := .binOp .add t x y t', type := ty, pos, after, guard }).run P w = .ok (.value (.string (s ++ u))) w := by
  unfold execOp
  have h : ¬ ((s.size + u.size : Nat) : Int) > IntKind.i64.max := by
    have : IntKind.i64.max = 9223372036854775807 := by decide
    rw [this]; omega
  simp only [hx, hy, binOp_string_add, Op.stringOp, if_neg h]
  simp [eqGuard]
theorem run_pick (dst : Option Tmp) (c x y : Operand) (ty : TypeId) (pos : String) (after : Array Edge) (guard : Option (Nat × Bool)) (ρ : Operand → Value) {b : Bool} (h : ρ c = .bool b) :
    (execOp ρ { dst, op := .pick c x y, type := ty, pos, after, guard }).run P w = .ok (.value (if b then ρ x else ρ y)) w := by
  unfold execOp
  simp only [h]
  simp [asBool]
end
theorem str_append (l m : List Int) : strOfNums l ++ strOfNums m = strOfNums (l ++ m) := by
  have e : ∀ a b : ByteArray, a.data = b.data → a = b := fun a b h => by cases a; cases b; simp_all
  apply e
  rw [ByteArray.data_append]
  simp [strOfNums]
theorem str_size (l : List Int) : (strOfNums l).size = l.length := strOfNums_size l

theorem fits_cons {posts : Nat → Value → World → Prop} {w : World} {i : Nat} {o : Oper} {r : List Oper} {vs : List Value} (h : fits posts w i (o :: r) vs) : ∃ v vs', vs = v :: vs' ∧ (o.dst ≠ none → posts i v w) ∧ fits posts w (i + 1) r vs' := by
  cases vs with
  | nil => exact h.elim
  | cons v vs => exact ⟨v, vs, rfl, h.1, h.2⟩
theorem fits_nil {posts : Nat → Value → World → Prop} {w : World} {i : Nat} {vs : List Value} (h : fits posts w i [] vs) : vs = [] := by
  cases vs with
  | nil => rfl
  | cons v vs => exact h.elim

theorem opsOk_cons {P : Program} {l : List Oper} {posts : Nat → Value → World → Prop} {a0 : Act} {w0 : World} {i : Nat} {o : Oper} {r : List Oper} (h : OpOk P l posts a0 w0 i o) (hr : opsOk P l posts a0 w0 (i + 1) r) : opsOk P l posts a0 w0 i (o :: r) := ⟨h, hr⟩
theorem opsOk_nil {P : Program} {l : List Oper} {posts : Nat → Value → World → Prop} {a0 : Act} {w0 : World} {i : Nat} : opsOk P l posts a0 w0 i [] := trivial

end Go.Proofs.Ythafdgnpkfphoaa
