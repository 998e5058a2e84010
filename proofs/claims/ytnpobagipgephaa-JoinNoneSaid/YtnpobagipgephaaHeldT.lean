/- A region that draws its order, walked in one order, where it writes blocks of the list S alone: all else stays (Hb's twin, over 'Touch'). No program is named here. -/
import Derived.Test.YtnpobagipgephaaHeld2
import Derived.Test.YtnpobagipgephaaTouch
namespace Go.Proofs.Ytnpobagipgephaa
open Go.RowKit

/-- A store, told by what it leaves. -/
theorem wpList_skipTo {P : Program} {ops : Array Oper} {Q : Exit → Act → World → Prop} {rest : List Oper} {o : Oper} {a : Act} {w : World} (hg : o.guard = none) (hd : o.dst = none) (w' : World) (hrun : (execOp a.eval o).run P w = .ok .skip w')
    (h : wpList P ops Q rest a w') : wpList P ops Q (o :: rest) a w := by
  refine wpList_plain hg fun K hK => ?_
  unfold Oper.wp
  rw [hrun]
  have h' : wpList P ops Q rest (a.put o.dst undef) w' := by rw [hd]; exact h
  exact hK _ _ h'

section
variable {P : Program} {ops : Array Oper} {Q : Exit → Act → World → Prop} {S : List Nat}

/-- Whatever order is drawn from here on; of w's blocks those of S alone may turn. -/
def Hs (P : Program) (ops : Array Oper) (Q : Exit → Act → World → Prop) (S : List Nat) (n : Nat) (listed : Array Bool) (a : Act) (w : World) : Prop :=
  wpAnyH P .any ops (NoPanic Q) (Touch S w) n listed a w
theorem Hs.on {n : Nat} {listed : Array Bool} {a : Act} {w w' : World} (hb : Touch S w w') (h : Hs P ops Q S n listed a w') : wpAnyH P .any ops (NoPanic Q) (Touch S w) n listed a w' :=
  wpAnyH_less (fun _ h' => hb.trans h') _ _ _ _ h
theorem Hs.begin {id : Nat} {a : Act} {w : World} (S : List Nat) (h : Hs P ops Q S ops.size (Array.replicate ops.size false) a w.drew) (hm : P.follows .mixedOrders = true := by kernel_rfl) : (Code.region id ops true).wp P Q a w :=
  wp_region_noPanic (wp_region_held (S := Touch S w.drew) hm h)
/-- It may be taken first. -/
theorem Hs.take {n : Nat} {listed : Array Bool} {a a' : Act} {w : World} {o : Oper} {v : Value} (i d : Nat)
    (hi : ops[i]? = some o) (h : Hs P ops Q S n (listed.setIfInBounds i true) a' w) (hy : ∀ w', Touch S w w' → (execOp a.eval o).run P w' = .ok (.value v) w')
    (hf : firstB ops listed i = true := by kernel_rfl) (hw : Region.wanted o (yielded ops a.tmps) = true := by rfl) (hd : o.dst = some d := by rfl)
    (ha : a.put (some d) v = a' := by simp only [Act.put, List.setIfInBounds_toArray, List.set_cons_succ, List.set_cons_zero]; rfl) : Hs P ops Q S (n + 1) listed a w := by
  subst ha
  rw [← hd] at h
  obtain ⟨h1, h2, h3⟩ := firstB_parts hf
  exact wpAnyH_take hi h1 h2 h3 (fun _ _ _ h => h) (.inl ⟨hw, hy⟩) (Touch.refl _ _) h
/-- Its guard shuts it out. -/
theorem Hs.pass {n : Nat} {listed : Array Bool} {a a' : Act} {w : World} {o : Oper} (i d : Nat) (hi : ops[i]? = some o) (h : Hs P ops Q S n (listed.setIfInBounds i true) a' w)
    (hf : firstB ops listed i = true := by kernel_rfl) (hw : Region.wanted o (yielded ops a.tmps) = false := by rfl) (hd : o.dst = some d := by rfl)
    (ha : a.put (some d) undef = a' := by simp only [Act.put, List.setIfInBounds_toArray, List.set_cons_succ, List.set_cons_zero]; rfl) : Hs P ops Q S (n + 1) listed a w := by
  subst ha
  rw [← hd] at h
  obtain ⟨h1, h2, h3⟩ := firstB_parts hf
  exact wpAnyH_take hi h1 h2 h3 (fun _ _ _ h => h) (.inr ⟨hw, rfl⟩) (Touch.refl _ _) h
/-- What is asked where number i comes up. -/
def Ps (P : Program) (ops : Array Oper) (Q : Exit → Act → World → Prop) (S : List Nat) (n : Nat) (listed : Array Bool) (a : Act) (w : World) (i : Nat) : Prop :=
  wpOp P ops (NoPanic Q) i (fun a' w' => Touch S w w' ∧ wpAnyH P .any ops (NoPanic Q) (Touch S w) n (listed.setIfInBounds i true) a' w') a w
theorem Hs.one {n : Nat} {listed : Array Bool} {a : Act} {w : World} (i : Nat) (h1 : Ps P ops Q S n listed a w i) (hr : Region.ready .any ops listed = [i] := by kernel_rfl) : Hs P ops Q S (n + 1) listed a w := by
  refine wpAnyH_all hr (by simp) fun x hx => ?_
  obtain rfl : x = i := by simpa using hx
  exact h1
theorem Hs.two {n : Nat} {listed : Array Bool} {a : Act} {w : World} (i j : Nat) (h1 : Ps P ops Q S n listed a w i) (h2 : Ps P ops Q S n listed a w j) (hr : Region.ready .any ops listed = [i, j] := by kernel_rfl) : Hs P ops Q S (n + 1) listed a w := by
  refine wpAnyH_all hr (by simp) fun x hx => ?_
  simp only [List.mem_cons, List.not_mem_nil, or_false] at hx
  rcases hx with rfl | rfl
  · exact h1
  · exact h2
theorem Hs.pick {n : Nat} {listed : Array Bool} {a : Act} {w : World} {o : Oper} (i : Nat) (d : Option Nat) (hi : ops[i]? = some o)
    (h : wpList P ops (Nx Q fun a' w' => Touch S w w' ∧ Hs P ops Q S n (listed.setIfInBounds i true) a' w') [{ o with guard := none, dst := d }] a w)
    (hw : Region.wanted o (yielded ops a.tmps) = true := by rfl) (hd : o.dst = d := by rfl) : Ps P ops Q S n listed a w i := by
  subst hd
  unfold Ps wpOp
  simp only [hi, hw, if_true]
  have he : execOp a.eval { o with guard := none } = execOp a.eval o := rfl
  unfold wpList at h
  have hw' : Region.wanted { o with guard := none } (yielded ops a.tmps) = true := rfl
  rw [if_pos hw'] at h
  rcases h with h | ⟨h, q⟩
  · refine .inl ?_
    unfold Oper.wp at *
    rw [he] at h
    generalize (execOp a.eval o).run P w = r at *
    have step : ∀ a' w', wpList P ops (Nx Q fun a' w' => Touch S w w' ∧ Hs P ops Q S n (listed.setIfInBounds i true) a' w') [] a' w' → Touch S w w' ∧ wpAnyH P .any ops (NoPanic Q) (Touch S w) n (listed.setIfInBounds i true) a' w' := by
      rintro a' w' ⟨hb, hh⟩
      exact ⟨hb, hh.on hb⟩
    cases r with
    | ok n w' =>
      cases n <;> simp only [Oper.upon] at h ⊢ <;>
        first
          | exact step _ _ h
          | exact Calls.mono h (fun e w'' he => by
              cases e
              · exact step _ _ he
              · exact he
              · exact he)
          | exact Rows.mono h (fun _ _ he => step _ _ he)
    | halt x w' => cases x <;> simp only [Oper.upon] at h ⊢ <;> exact h
  · exact .inr ⟨h, q⟩
/-- It alone may come up. -/
theorem Hs.only {n : Nat} {listed : Array Bool} {a : Act} {w : World} {o : Oper} (i : Nat) (d : Option Nat) (hi : ops[i]? = some o)
    (h : wpList P ops (Nx Q fun a' w' => Touch S w w' ∧ Hs P ops Q S n (listed.setIfInBounds i true) a' w') [{ o with guard := none, dst := d }] a w)
    (hr : Region.ready .any ops listed = [i] := by kernel_rfl) (hw : Region.wanted o (yielded ops a.tmps) = true := by rfl) (hd : o.dst = d := by rfl) : Hs P ops Q S (n + 1) listed a w :=
  Hs.one i (Hs.pick i d hi h hw hd) hr
theorem Hs.pickCall {n : Nat} {listed : Array Bool} {a : Act} {w : World} {o : Oper} {f : FuncId} {args : Array Value} (i d : Nat) (hi : ops[i]? = some o)
    (h : Calls P f args w fun e w' => ∃ v a', e = .returned v ∧ a.put (some d) v = a' ∧ Touch S w w' ∧ Hs P ops Q S n (listed.setIfInBounds i true) a' w')
    (hrun : (execOp a.eval o).run P w = .ok (.enter f args) w)
    (hw : Region.wanted o (yielded ops a.tmps) = true := by rfl) (hd : o.dst = some d := by rfl) : Ps P ops Q S n listed a w i := by
  rw [← hd] at h
  unfold Ps wpOp
  simp only [hi, hw, if_true]
  refine .inl ?_
  unfold Oper.wp
  rw [hrun]
  refine h.mono fun e w' => ?_
  rintro ⟨v, a', rfl, rfl, hb, hh⟩
  exact ⟨hb, hh.on hb⟩
/-- A call of a Go function, it alone. -/
theorem Hs.call {n : Nat} {listed : Array Bool} {a : Act} {w : World} {o : Oper} {f : FuncId} {args : Array Value} (i d : Nat) (hi : ops[i]? = some o)
    (h : Calls P f args w fun e w' => ∃ v a', e = .returned v ∧ a.put (some d) v = a' ∧ Touch S w w' ∧ Hs P ops Q S n (listed.setIfInBounds i true) a' w')
    (hrun : (execOp a.eval o).run P w = .ok (.enter f args) w)
    (hr : Region.ready .any ops listed = [i] := by kernel_rfl) (hw : Region.wanted o (yielded ops a.tmps) = true := by rfl) (hd : o.dst = some d := by rfl) : Hs P ops Q S (n + 1) listed a w :=
  Hs.one i (Hs.pickCall i d hi h hrun hw hd) hr
/-- Behind a call. -/
theorem Hs.back {n d : Nat} {listed : Array Bool} {a a' : Act} {w w' : World} {v : Value} (hb : Touch S w w') (h : Hs P ops Q S n listed a' w')
    (ha : a.put (some d) v = a' := by simp only [Act.put, List.setIfInBounds_toArray, List.set_cons_succ, List.set_cons_zero]; rfl) :
    ∃ v' a', Ending.returned v = .returned v' ∧ a.put (some d) v' = a' ∧ Touch S w w' ∧ Hs P ops Q S n listed a' w' := ⟨v, a', rfl, ha, hb, h⟩
/-- Behind an operation that was alone, or was picked. -/
theorem Hs.next {n : Nat} {listed : Array Bool} {a a' : Act} {w w' : World} (hb : Touch S w w') (h : Hs P ops Q S n listed a' w')
    (ha : a = a' := by simp only [Act.put, List.setIfInBounds_toArray, List.set_cons_succ, List.set_cons_zero]; rfl) :
    wpList P ops (Nx Q fun a' w' => Touch S w w' ∧ Hs P ops Q S n listed a' w') [] a w' := by subst ha; exact ⟨hb, h⟩
theorem Hs.done {n : Nat} {listed : Array Bool} {a : Act} {w : World} (h : Q .normal a w) (hr : Region.ready .any ops listed = [] := by kernel_rfl) : Hs P ops Q S n listed a w :=
  wpAnyH_done hr (show NoPanic Q .normal a w from h) _
end
end Go.Proofs.Ytnpobagipgephaa
