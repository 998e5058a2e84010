/- A region that draws its order where several writes or calls may come up: each of them is walked. No program is named here. -/
import Derived.Test.YtkpgijmpaklfgaaHeld
namespace Go.Proofs.Ytkpgijmpaklfgaa
open Go.RowKit

section
variable {P : Program} {ops : Array Oper} {Q : Exit → Act → World → Prop}

/-- What is asked where number i comes up. -/
def Pk (P : Program) (ops : Array Oper) (Q : Exit → Act → World → Prop) (B n : Nat) (listed : Array Bool) (a : Act) (w : World) (i : Nat) : Prop :=
  wpOp P ops (NoPanic Q) i (fun a' w' => Below B w w' ∧ wpAnyH P .any ops (NoPanic Q) (Below B w) n (listed.setIfInBounds i true) a' w') a w

theorem Hb.two {B n : Nat} {listed : Array Bool} {a : Act} {w : World} (i j : Nat) (h1 : Pk P ops Q B n listed a w i) (h2 : Pk P ops Q B n listed a w j) (hr : Region.ready .any ops listed = [i, j] := by kernel_rfl) : Hb P ops Q B (n + 1) listed a w := by
  refine wpAnyH_all hr (by simp) fun x hx => ?_
  simp only [List.mem_cons, List.not_mem_nil, or_false] at hx
  rcases hx with rfl | rfl
  · exact h1
  · exact h2
theorem Hb.three {B n : Nat} {listed : Array Bool} {a : Act} {w : World} (i j k : Nat) (h1 : Pk P ops Q B n listed a w i) (h2 : Pk P ops Q B n listed a w j) (h3 : Pk P ops Q B n listed a w k) (hr : Region.ready .any ops listed = [i, j, k] := by kernel_rfl) : Hb P ops Q B (n + 1) listed a w := by
  refine wpAnyH_all hr (by simp) fun x hx => ?_
  simp only [List.mem_cons, List.not_mem_nil, or_false] at hx
  rcases hx with rfl | rfl | rfl
  · exact h1
  · exact h2
  · exact h3

theorem Hb.pick {B n : Nat} {listed : Array Bool} {a : Act} {w : World} {o : Oper} (i : Nat) (d : Option Nat) (hi : ops[i]? = some o)
    (h : wpList P ops (Nx Q fun a' w' => Below B w w' ∧ ∃ B', B ≤ B' ∧ Hb P ops Q B' n (listed.setIfInBounds i true) a' w') [{ o with guard := none, dst := d }] a w)
    (hw : Region.wanted o (yielded ops a.tmps) = true := by rfl) (hd : o.dst = d := by rfl) : Pk P ops Q B n listed a w i := by
  subst hd
  unfold Pk wpOp
  simp only [hi, hw, if_true]
  have he : execOp a.eval { o with guard := none } = execOp a.eval o := rfl
  unfold wpList at h
  have hw' : Region.wanted { o with guard := none } (yielded ops a.tmps) = true := rfl
  rw [if_pos hw'] at h
  rcases h with h | ⟨h, q⟩
  · refine .inl ?_
    unfold Oper.wp at *
    rw [he] at h
    generalize (execOp a.eval o).run P w = r at *
    have step : ∀ a' w', wpList P ops (Nx Q fun a' w' => Below B w w' ∧ ∃ B', B ≤ B' ∧ Hb P ops Q B' n (listed.setIfInBounds i true) a' w') [] a' w' → Below B w w' ∧ wpAnyH P .any ops (NoPanic Q) (Below B w) n (listed.setIfInBounds i true) a' w' := by
      rintro a' w' ⟨hb, B', hB, hh⟩
      exact ⟨hb, hh.on hb hB⟩
    cases r with
    | ok n w' =>
      cases n <;> simp only [Oper.upon] at h ⊢ <;>
        first
          | exact step _ _ h
          | exact Calls.mono h (fun e w'' he => by
              cases e
              · exact step _ _ he
              · exact he
              · exact he)
          | exact Rows.mono h (fun _ _ he => step _ _ he)
    | halt x w' => cases x <;> simp only [Oper.upon] at h ⊢ <;> exact h
  · exact .inr ⟨h, q⟩

theorem Hb.pickCall {B n : Nat} {listed : Array Bool} {a : Act} {w : World} {o : Oper} {f : FuncId} {args : Array Value} (i d : Nat) (hi : ops[i]? = some o)
    (h : Calls P f args w fun e w' => ∃ v a', e = .returned v ∧ a.put (some d) v = a' ∧ Below B w w' ∧ ∃ B', B ≤ B' ∧ Hb P ops Q B' n (listed.setIfInBounds i true) a' w')
    (hrun : (execOp a.eval o).run P w = .ok (.enter f args) w)
    (hw : Region.wanted o (yielded ops a.tmps) = true := by rfl) (hd : o.dst = some d := by rfl) : Pk P ops Q B n listed a w i := by
  rw [← hd] at h
  unfold Pk wpOp
  simp only [hi, hw, if_true]
  refine .inl ?_
  unfold Oper.wp
  rw [hrun]
  refine h.mono fun e w' => ?_
  rintro ⟨v, a', rfl, rfl, hb, B', hB, hh⟩
  exact ⟨hb, hh.on hb hB⟩

/-- A new zero variable, said by the caller. -/
theorem wpList_runTo' {rest : List Oper} {o : Oper} {a : Act} {w : World} (hg : o.guard = none) (v : Value) (w' : World) (hrun : (execOp a.eval o).run P w = .ok (.value v) w')
    (h : wpList P ops Q rest (a.put o.dst v) w') : wpList P ops Q (o :: rest) a w := by
  refine wpList_plain hg fun K hK => ?_
  unfold Oper.wp
  rw [hrun, Oper.upon_value]
  exact hK _ _ h
end
end Go.Proofs.Ytkpgijmpaklfgaa
