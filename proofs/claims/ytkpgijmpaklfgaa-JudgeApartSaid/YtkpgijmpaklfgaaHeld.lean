/- A region that draws its order, walked in ONE order: what yields in every world that keeps the old blocks is taken first; a call or a write must be the only one that may come up. No program is named here. -/
import Derived.Test.YtkpgijmpaklfgaaKit
import Derived.OrdersHeld
import Derived.Deep.RegionHeld3
import Derived.Tactics
namespace Go.Proofs.Ytkpgijmpaklfgaa
open Go.RowKit

section
variable {P : Program} {ops : Array Oper} {Q : Exit → Act → World → Prop}

/-- Whatever order is drawn from here on; what lies below block B stays as it is in w. -/
def Hb (P : Program) (ops : Array Oper) (Q : Exit → Act → World → Prop) (B n : Nat) (listed : Array Bool) (a : Act) (w : World) : Prop :=
  wpAnyH P .any ops (NoPanic Q) (Below B w) n listed a w

theorem wpAnyH_less {md : Region.Mode} {S S' : World → Prop} (hs : ∀ w, S' w → S w) : ∀ (n : Nat) (listed : Array Bool) (a : Act) (w : World), wpAnyH P md ops Q S' n listed a w → wpAnyH P md ops Q S n listed a w
  | 0, _, _, _, h => h
  | n + 1, _, _, _, h => ⟨h.1, fun i hi => wpOp_mono (fun a' w' h' => ⟨hs _ h'.1, wpAnyH_less hs n _ a' w' h'.2⟩) (h.2 i hi)⟩

/-- From a world on to a later one, with more that stays. -/
theorem Hb.on {B B' n : Nat} {listed : Array Bool} {a : Act} {w w' : World} (hb : Below B w w') (hB : B ≤ B') (h : Hb P ops Q B' n listed a w') : wpAnyH P .any ops (NoPanic Q) (Below B w) n listed a w' :=
  wpAnyH_less (fun _ h' => hb.trans (h'.mono hB)) _ _ _ _ h

theorem Hb.begin {id : Nat} {a : Act} {w : World} (h : Hb P ops Q w.heap.size ops.size (Array.replicate ops.size false) a w.drew) (hm : P.follows .mixedOrders = true := by kernel_rfl) : (Code.region id ops true).wp P Q a w :=
  wp_region_noPanic (wp_region_held (S := Below w.heap.size w.drew) hm h)

/-- Where the region stores into a block that stands ahead of it: only what lies below B stays. -/
theorem Hb.beginB {B id : Nat} {a : Act} {w : World} (h : Hb P ops Q B ops.size (Array.replicate ops.size false) a w.drew) (hm : P.follows .mixedOrders = true := by kernel_rfl) : (Code.region id ops true).wp P Q a w :=
  wp_region_noPanic (wp_region_held (S := Below B w.drew) hm h)

/-- Number i may come up, and may be taken first. -/
def firstB (ops : Array Oper) (listed : Array Bool) (i : Nat) : Bool := Region.noSelect ops && (Region.free .any ops listed i && (Region.ready .any ops listed).contains i)
theorem firstB_parts {listed : Array Bool} {i : Nat} (h : firstB ops listed i = true) : Region.noSelect ops = true ∧ Region.free .any ops listed i = true ∧ (Region.ready .any ops listed).contains i = true := by
  simpa [firstB] using h

/-- It may be taken first. -/
theorem Hb.take {B n : Nat} {listed : Array Bool} {a a' : Act} {w : World} {o : Oper} {v : Value} (i d : Nat)
    (hi : ops[i]? = some o) (h : Hb P ops Q B n (listed.setIfInBounds i true) a' w) (hy : ∀ w', Below B w w' → (execOp a.eval o).run P w' = .ok (.value v) w')
    (hf : firstB ops listed i = true := by kernel_rfl) (hw : Region.wanted o (yielded ops a.tmps) = true := by rfl) (hd : o.dst = some d := by rfl)
    (ha : a.put (some d) v = a' := by simp only [Act.put, List.setIfInBounds_toArray, List.set_cons_succ, List.set_cons_zero]; rfl) : Hb P ops Q B (n + 1) listed a w := by
  subst ha
  rw [← hd] at h
  obtain ⟨h1, h2, h3⟩ := firstB_parts hf
  exact wpAnyH_take hi h1 h2 h3 (fun _ _ _ h => h) (.inl ⟨hw, hy⟩) (Below.refl _ _) h

/-- Its guard shuts it out. -/
theorem Hb.pass {B n : Nat} {listed : Array Bool} {a a' : Act} {w : World} {o : Oper} (i d : Nat) (hi : ops[i]? = some o) (h : Hb P ops Q B n (listed.setIfInBounds i true) a' w)
    (hf : firstB ops listed i = true := by kernel_rfl) (hw : Region.wanted o (yielded ops a.tmps) = false := by rfl) (hd : o.dst = some d := by rfl)
    (ha : a.put (some d) undef = a' := by simp only [Act.put, List.setIfInBounds_toArray, List.set_cons_succ, List.set_cons_zero]; rfl) : Hb P ops Q B (n + 1) listed a w := by
  subst ha
  rw [← hd] at h
  obtain ⟨h1, h2, h3⟩ := firstB_parts hf
  exact wpAnyH_take hi h1 h2 h3 (fun _ _ _ h => h) (.inr ⟨hw, rfl⟩) (Below.refl _ _) h

/-- Behind one operation. -/
def Nx (Q : Exit → Act → World → Prop) (K : Act → World → Prop) : Exit → Act → World → Prop
  | .normal, a, w => K a w
  | e, a, w => NoPanic Q e a w

/-- An operation whose guard lets it go: as one without a guard. -/
theorem wpList_unguard {a : Act} {w : World} {o : Oper} {rest : List Oper} (hw : Region.wanted o (yielded ops a.tmps) = true) (h : wpList P ops Q ({ o with guard := none } :: rest) a w) : wpList P ops Q (o :: rest) a w := by
  unfold wpList at h ⊢
  have hw' : Region.wanted { o with guard := none } (yielded ops a.tmps) = true := rfl
  rw [if_pos hw'] at h
  rw [if_pos hw]
  exact h

/-- It alone may come up. -/
theorem Hb.only {B n : Nat} {listed : Array Bool} {a : Act} {w : World} {o : Oper} (i : Nat) (d : Option Nat) (hi : ops[i]? = some o)
    (h : wpList P ops (Nx Q fun a' w' => Below B w w' ∧ ∃ B', B ≤ B' ∧ Hb P ops Q B' n (listed.setIfInBounds i true) a' w') [{ o with guard := none, dst := d }] a w)
    (hr : Region.ready .any ops listed = [i] := by kernel_rfl) (hw : Region.wanted o (yielded ops a.tmps) = true := by rfl) (hd : o.dst = d := by rfl) : Hb P ops Q B (n + 1) listed a w := by
  subst hd
  refine wpAnyH_all hr (by simp) fun j hj => ?_
  obtain rfl : j = i := by simpa using hj
  unfold wpOp
  simp only [hi, hw, if_true]
  have he : execOp a.eval { o with guard := none } = execOp a.eval o := rfl
  unfold wpList at h
  have hw' : Region.wanted { o with guard := none } (yielded ops a.tmps) = true := rfl
  rw [if_pos hw'] at h
  rcases h with h | ⟨h, q⟩
  · refine .inl ?_
    unfold Oper.wp at *
    rw [he] at h
    generalize (execOp a.eval o).run P w = r at *
    have step : ∀ a' w', wpList P ops (Nx Q fun a' w' => Below B w w' ∧ ∃ B', B ≤ B' ∧ Hb P ops Q B' n (listed.setIfInBounds j true) a' w') [] a' w' → Below B w w' ∧ wpAnyH P .any ops (NoPanic Q) (Below B w) n (listed.setIfInBounds j true) a' w' := by
      rintro a' w' ⟨hb, B', hB, hh⟩
      exact ⟨hb, hh.on hb hB⟩
    cases r with
    | ok n w' =>
      cases n <;> simp only [Oper.upon] at h ⊢ <;>
        first
          | exact step _ _ h
          | exact Calls.mono h (fun e w'' he => by
              cases e
              · exact step _ _ he
              · exact he
              · exact he)
          | exact Rows.mono h (fun _ _ he => step _ _ he)
    | halt x w' => cases x <;> simp only [Oper.upon] at h ⊢ <;> exact h
  · exact .inr ⟨h, q⟩

/-- A call of a Go function, it alone. -/
theorem Hb.call {B n : Nat} {listed : Array Bool} {a : Act} {w : World} {o : Oper} {f : FuncId} {args : Array Value} (i d : Nat) (hi : ops[i]? = some o)
    (h : Calls P f args w fun e w' => ∃ v a', e = .returned v ∧ a.put (some d) v = a' ∧ Below B w w' ∧ ∃ B', B ≤ B' ∧ Hb P ops Q B' n (listed.setIfInBounds i true) a' w')
    (hrun : (execOp a.eval o).run P w = .ok (.enter f args) w)
    (hr : Region.ready .any ops listed = [i] := by kernel_rfl) (hw : Region.wanted o (yielded ops a.tmps) = true := by rfl) (hd : o.dst = some d := by rfl) : Hb P ops Q B (n + 1) listed a w := by
  rw [← hd] at h
  refine wpAnyH_all hr (by simp) fun j hj => ?_
  obtain rfl : j = i := by simpa using hj
  unfold wpOp
  simp only [hi, hw, if_true]
  refine .inl ?_
  unfold Oper.wp
  rw [hrun]
  refine h.mono fun e w' => ?_
  rintro ⟨v, a', rfl, rfl, hb, B', hB, hh⟩
  exact ⟨hb, hh.on hb hB⟩

/-- Behind a call: on with what lies below B' kept. -/
theorem Hb.back {B B' n d : Nat} {listed : Array Bool} {a a' : Act} {w w' : World} {v : Value} (hb : Below B w w') (hB : B ≤ B') (h : Hb P ops Q B' n listed a' w')
    (ha : a.put (some d) v = a' := by simp only [Act.put, List.setIfInBounds_toArray, List.set_cons_succ, List.set_cons_zero]; rfl) :
    ∃ v' a', Ending.returned v = .returned v' ∧ a.put (some d) v' = a' ∧ Below B w w' ∧ ∃ B', B ≤ B' ∧ Hb P ops Q B' n listed a' w' := ⟨v, a', rfl, ha, hb, B', hB, h⟩
/-- Behind an operation that was alone. -/
theorem Hb.next {B B' n : Nat} {listed : Array Bool} {a a' : Act} {w w' : World} (hb : Below B w w') (hB : B ≤ B') (h : Hb P ops Q B' n listed a' w')
    (ha : a = a' := by simp only [Act.put, List.setIfInBounds_toArray, List.set_cons_succ, List.set_cons_zero]; rfl) :
    wpList P ops (Nx Q fun a' w' => Below B w w' ∧ ∃ B', B ≤ B' ∧ Hb P ops Q B' n listed a' w') [] a w' := by subst ha; exact ⟨hb, B', hB, h⟩

theorem Hb.done {B n : Nat} {listed : Array Bool} {a : Act} {w : World} (h : Q .normal a w) (hr : Region.ready .any ops listed = [] := by kernel_rfl) : Hb P ops Q B n listed a w :=
  wpAnyH_done hr (show NoPanic Q .normal a w from h) _

/-- 'min(x, y)'. -/
theorem wpList_min {a : Act} {w : World} {o : Oper} {rest : List Oper} {k k' : IntKind} (hgd : o.guard = none) (x y : Operand) (ts : Array TypeId) (ho : o.op = .call { callee := .builtin .min, args := #[x, y], argTypes := ts })
    (p q : Nat) (hx : a.eval x = .int k p) (hy : a.eval y = .int k' q) (h : wpList P ops Q rest (a.put o.dst (.int k (min p q : Nat))) w) : wpList P ops Q (o :: rest) a w := by
  refine wpList_plain hgd fun K hK => ?_
  have hrun : (Builtin.min_ ts o.type #[a.eval x, a.eval y]).run P w = .ok (.int k (min p q : Nat)) w := by
    rw [hx, hy, run_min_int2]
    have : (if (q : Int) < p then (q : Int) else p) = ((min p q : Nat) : Int) := by split <;> omega
    rw [this]
  unfold Oper.wp execOp
  simp only [ho, resolve, invoke, builtin, Sem.run_bind, Sem.run_pure, Result.andThen_ok, List.map_toArray, List.map_cons, List.map_nil, hrun]
  exact hK _ _ h

theorem own_some {w : World} {base : Nat} {e : TypeId} {k n c : Nat} {A : Option Addr} {xs : List Value} (h : w.ownsRow base e k (.slice A n c) n xs) (hn : 0 < n) : ∃ g, A = some ⟨g, 0, none⟩ ∧ base ≤ g ∧ g < w.heap.size := by
  rcases h.2 with ⟨e1, e2⟩ | ⟨g, cap, cur, e1, hb, hg, _⟩
  · omega
  · injection e1 with e1 e3 e4
    exact ⟨g, e1, hb, (Array.getElem?_eq_some_iff.1 hg).1⟩

theorem wrap_in {n : Int} (h1 : -9223372036854775808 ≤ n) (h2 : n ≤ 9223372036854775807) : IntKind.i64.wrap n = n := by
  simp [IntKind.wrap, IntKind.bits, IntKind.signed]; omega

/-- A cut 's[l:m]' ahead of its region. -/
theorem cut_any {w : World} (t e : TypeId) {z : Option Value} {k bytes : Nat} (ht : P.underlying t = some (.slice e)) (hi : (P.info? e).map (fun i => (i.zero, i.size, i.bytes)) = some (z, k, bytes))
    {B : Nat} {A : Option Addr} {c n : Nat} {xs : List Value} (hr : Rd w B A c k n xs) (lo hig : Option Value) (l m : Nat) (L M : Int) (hlo : lo = none ∧ l = 0 ∨ lo = some (.int .i64 L) ∧ L = l) (hhi : hig = none ∧ m = n ∨ hig = some (.int .i64 M) ∧ M = m) (h1 : l ≤ m) (h2 : m ≤ n) :
    ∃ A' c', (∀ w', (Instr.sliceAt t (.slice A n c) lo hig none).run P w' = .ok (.slice A' (m - l) c') w') ∧ Rd w B A' c' k (m - l) ((xs.drop (l * k)).take ((m - l) * k)) := by
  have hle := hr.le
  refine ⟨_, _, fun w' => run_cut t e ht hi A n c lo hig .i64 .i64 l m (hlo.imp id fun ⟨h1, h2⟩ => by rw [h1, h2]) (hhi.imp id fun ⟨h1, h2⟩ => by rw [h1, h2]) h1 (by omega), hr.cut h1 h2⟩
theorem run_sliceOp {w : World} {dst : Option Tmp} {t : TypeId} {x : Operand} {lo hig : Option Operand} {ty : TypeId} {pos : String} {after : Array Edge} {guard : Option (Nat × Bool)} {ρ : Operand → Value} {v : Value}
    (h : (Instr.sliceAt t (ρ x) (lo.map ρ) (hig.map ρ) none).run P w = .ok v w) : (execOp ρ { dst, op := .slice t x lo hig none, type := ty, pos, after, guard }).run P w = .ok (.value v) w := by
  unfold execOp
  simp only [Option.map_none, Sem.run_bind, h, Result.andThen_ok, Sem.run_pure]
/-- A call, said by the function's row. -/
theorem run_callf {w : World} {dst : Option Tmp} {f : FuncId} {xs : Array Operand} {ats : Array TypeId} {ty : TypeId} {pos : String} {after : Array Edge} {guard : Option (Nat × Bool)} {a : Act} {args : Array Value} {fn : Func}
    (hf : P.funcs[f]? = some fn) (hn : (fn.name == "runtime.NumGoroutine") = false) (hb : fn.body.isNone = false) (hx : xs.map a.eval = args) :
    (execOp a.eval { dst, op := .call { callee := .value (.func f), args := xs, argTypes := ats }, type := ty, pos, after, guard }).run P w = .ok (.enter f args) w := by
  rw [execOp_call_go, ← hx]
  have h1 : fn.name ≠ "runtime.NumGoroutine" := by simpa using hn
  have h2 : fn.body ≠ none := by
    intro h; rw [h] at hb; cases hb
  simp [callFunc, hf, h1, h2]
/-- 'string(b)' in a region. -/
theorem run_toStrOp {w : World} {B : Nat} {A : Option Addr} {c n : Nat} {l : List Int} {dst : Option Tmp} {s d : TypeId} {x : Operand} {ty : TypeId} {pos : String} {after : Array Edge} {guard : Option (Nat × Bool)} {ρ : Operand → Value} (e : TypeId)
    (hx : ρ x = .slice A n c) (hr : Rd w B A c 1 n (bs l)) (hs : P.underlying s = some (.slice e)) (he : P.underlying e = some (.int .u8)) (hd : P.underlying d = some .string) :
    (execOp ρ { dst, op := .convert s d x, type := ty, pos, after, guard }).run P w = .ok (.value (.string (strOfNums l))) w := by
  unfold execOp
  simp only [hx, Sem.run_bind, run_toStr (P := P) s d e hr hs he hd, Result.andThen_ok, Sem.run_pure]
theorem run_strNe {w : World} {dst : Option Tmp} {t t' : TypeId} {x y : Operand} {ty : TypeId} {pos : String} {after : Array Edge} {guard : Option (Nat × Bool)} {ρ : Operand → Value} {s u : ByteArray} {b : Bool} (hx : ρ x = .string s) (hy : ρ y = .string u) (hb : (!(s.toList == u.toList)) = b) :
    (execOp ρ { dst, op := .binOp .neq t x y t', type := ty, pos, after, guard }).run P w = .ok (.value (.bool b)) w := by
  unfold execOp
  simp only [hx, hy, binOp_string_neq, hb]
  simp [eqGuard]
theorem run_strEq {w : World} {dst : Option Tmp} {t t' : TypeId} {x y : Operand} {ty : TypeId} {pos : String} {after : Array Edge} {guard : Option (Nat × Bool)} {ρ : Operand → Value} {s u : ByteArray} {b : Bool} (hx : ρ x = .string s) (hy : ρ y = .string u) (hb : ((s.toList == u.toList)) = b) :
    (execOp ρ { dst, op := .binOp .eql t x y t', type := ty, pos, after, guard }).run P w = .ok (.value (.bool b)) w := by
  unfold execOp
  simp only [hx, hy, binOp_string_eql, hb]
  simp [eqGuard]
theorem strOfNums_beq {l m : List Int} (hl : isB l) (hm : isB m) : ((strOfNums l).toList == (strOfNums m).toList) = decide (l = m) := by
  by_cases h : l = m
  · subst h; simp
  · have h1 : (strOfNums l).toList ≠ (strOfNums m).toList := by
      intro e
      refine h (str_inj hl hm ?_)
      have e2 : ∀ a b : ByteArray, a.toList = b.toList → a = b := fun a b h => by
        have h3 : a.data.toList = b.data.toList := by rw [← ByteArray.toList_eq, ← ByteArray.toList_eq, h]
        cases a; cases b; simp at h3; subst h3; rfl
      exact e2 _ _ e
    simp [h, h1]
end
end Go.Proofs.Ytkpgijmpaklfgaa
