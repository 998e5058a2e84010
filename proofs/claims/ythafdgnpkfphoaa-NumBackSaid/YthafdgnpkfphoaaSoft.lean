/- A rule of mine for a region that draws its order: each operation has a property of its value that lasts while memory grows ('posts'); each operation is met once, whatever came ahead of it. No program is named here. -/
import Derived.Test.YthafdgnpkfphoaaKit
import Derived.Orders
import Derived.BigCall
import Derived.Deep.RegionHeld3
namespace Go.Proofs.Ythafdgnpkfphoaa
open Go.RowKit

section
variable (P : Program) (l : List Oper) (posts : Nat → Value → World → Prop) (a0 : Act) (w0 : World)

def dstOf (j : Nat) : Option Tmp := (l[j]?).bind (·.dst)
/-- Slot t is still as it was when operation i comes up: whoever writes it waits for i. -/
def oldB (i t : Nat) : Bool := l.all fun o => o.dst != some t || o.after.any fun e => Region.binds .any e && e.on == i

/-- What is asked of operation number i, in whatever state it comes up. -/
def OpOk (i : Nat) (o : Oper) : Prop :=
  ∀ (a : Act) (w : World), Below w0.heap.size w0 w →
    (∀ e ∈ o.after, Region.binds .any e = true → ∀ d, dstOf l e.on = some d → a.tmps[d]? = some (a.tmps.getD d undef) ∧ posts e.on (a.tmps.getD d undef) w) →
    (∀ t, oldB l i t = true → a.tmps.getD t undef = a0.tmps.getD t undef) →
    if Region.wanted o (yielded l.toArray a.tmps) = true then o.wp P a w (fun a' w' => ∃ v, a' = a.put o.dst v ∧ posts i v w' ∧ Below w.heap.size w w') (fun _ _ _ => False) else posts i undef w

def opsOk : Nat → List Oper → Prop
  | _, [] => True
  | i, o :: r => OpOk P l posts a0 w0 i o ∧ opsOk (i + 1) r

/-- The frame behind the region. -/
def putAll : Act → List Oper → List Value → Act
  | a, o :: r, v :: vs => putAll (a.put o.dst v) r vs
  | a, _, _ => a
/-- Each value is as it was told. -/
def fits (w : World) : Nat → List Oper → List Value → Prop
  | i, o :: r, v :: vs => (o.dst ≠ none → posts i v w) ∧ fits w (i + 1) r vs
  | _, [], [] => True
  | _, _, _ => False

/-- The region's form: edges lead back; each slot is written once, and lies within n slots. -/
def softB (n : Nat) : Bool :=
  l.zipIdx.all fun x => (x.1.after.all fun e => !Region.binds .any e || decide (e.on < x.2)) &&
    (match x.1.op with | .select .. => false | _ => true) &&
    match x.1.dst with
    | none => true
    | some d => decide (d < n) && l.zipIdx.all fun y => x.2 == y.2 || y.1.dst != some d
end

section
variable {P : Program} {l : List Oper} {posts : Nat → Value → World → Prop} {a0 : Act} {w0 : World}

theorem softB_at {n : Nat} (h : softB l n = true) {i : Nat} {o : Oper} (hi : l[i]? = some o) :
    (∀ e ∈ o.after, Region.binds .any e = true → e.on < i) ∧
    ∀ d, o.dst = some d → d < n ∧ ∀ (j : Nat) (p : Oper), l[j]? = some p → p.dst = some d → i = j := by
  have hx : (o, i) ∈ l.zipIdx := List.mem_zipIdx_iff_getElem?.2 hi
  have h1 := List.all_eq_true.1 h _ hx
  simp only [Bool.and_eq_true] at h1
  obtain ⟨⟨h1, _⟩, h2⟩ := h1
  refine ⟨fun e he hb => ?_, fun d hd => ?_⟩
  · have := Array.all_eq_true_iff_forall_mem.1 h1 e he
    simpa [hb] using this
  · rw [hd] at h2
    simp only [Bool.and_eq_true, decide_eq_true_eq] at h2
    refine ⟨h2.1, fun j p hj hp => ?_⟩
    have hy : (p, j) ∈ l.zipIdx := List.mem_zipIdx_iff_getElem?.2 hj
    have := List.all_eq_true.1 h2.2 _ hy
    simpa [hp] using this

theorem opsOk_at : ∀ (r : List Oper) (k : Nat), opsOk P l posts a0 w0 k r → ∀ (i : Nat) (o : Oper), r[i]? = some o → OpOk P l posts a0 w0 (k + i) o
  | [], _, _, i, o, h => by simp at h
  | p :: r, k, h, i, o, hi => by
    cases i with
    | zero => simp at hi; subst hi; exact h.1
    | succ i =>
      have := opsOk_at r (k + 1) h.2 i o (by simpa using hi)
      rwa [Nat.add_assoc, Nat.add_comm 1 i] at this

theorem wp_out {o : Oper} {a : Act} {w : World} {K K' : Act → World → Prop} {Q' : Exit → Act → World → Prop} (h : ∀ a w, K a w → K' a w) (hh : o.wp P a w K (fun _ _ _ => False)) : o.wp P a w K' Q' := by
  unfold Oper.wp at *
  generalize (execOp a.eval o).run P w = r at *
  cases r with
  | ok n w' =>
    cases n <;> simp only [Oper.upon] at hh ⊢ <;>
      first
        | exact h _ _ hh
        | exact Calls.mono hh (fun e w'' he => by
            cases e
            · exact h _ _ he
            · exact he.elim
            · obtain ⟨_, _, hf⟩ := he; exact hf.elim)
        | exact Rows.mono hh (fun _ _ he => h _ _ he)
  | halt x w' => cases x <;> simp only [Oper.upon] at hh ⊢

/-- The state while the region runs: which operations are done. -/
structure SoftInv (l : List Oper) (posts : Nat → Value → World → Prop) (a0 : Act) (w0 : World) (listed : Array Bool) (a : Act) (w : World) : Prop where
  size : listed.size = l.length
  below : Below w0.heap.size w0 w
  defers : a.defers = a0.defers
  slots : a.tmps.size = a0.tmps.size
  closed : ∀ (j : Nat) (o : Oper), l[j]? = some o → listed.getD j false = true → ∀ e ∈ o.after, Region.binds .any e = true → listed.getD e.on false = true
  done : ∀ (j : Nat) (o : Oper) (d : Tmp), l[j]? = some o → listed.getD j false = true → o.dst = some d → posts j (a.tmps.getD d undef) w
  old : ∀ t, (∀ (j : Nat) (o : Oper), l[j]? = some o → o.dst = some t → listed.getD j false = false) → a.tmps.getD t undef = a0.tmps.getD t undef

theorem getD_put_self {a : Act} {d : Tmp} {v : Value} (h : d < a.tmps.size) : (a.put (some d) v).tmps.getD d undef = v := by
  simp [Act.put, Array.getD, h]
theorem getD_put_other {a : Act} {d t : Tmp} {v : Value} (h : d ≠ t) : (a.put (some d) v).tmps.getD t undef = a.tmps.getD t undef := by
  simp only [Act.put, Array.getD_eq_getD_getElem?]
  rw [Array.getElem?_setIfInBounds_ne h]

theorem SoftInv.step {listed : Array Bool} {a : Act} {w w' : World} (n : SoftInv l posts a0 w0 listed a w) (hform : softB l a0.tmps.size = true)
    (hst : ∀ i v w w', posts i v w → Below w.heap.size w w' → posts i v w')
    {i : Nat} {o : Oper} (hi : l[i]? = some o) (hdeps : ∀ e ∈ o.after, Region.binds .any e = true → listed.getD e.on false = true)
    {v : Value} (hv : posts i v w') (hb : Below w.heap.size w w') : SoftInv l posts a0 w0 (listed.setIfInBounds i true) (a.put o.dst v) w' := by
  have hin : i < listed.size := by
    rw [n.size]; exact (List.getElem?_eq_some_iff.1 hi).1
  have hset : ∀ j, (listed.setIfInBounds i true).getD j false = if i = j then true else listed.getD j false := by
    intro j
    by_cases h : i = j
    · subst h; simp [hin]
    · rw [if_neg h]; exact getD_set_ne false h
  refine ⟨by simpa using n.size, n.below.trans (hb.mono n.below.size), ?_, ?_, ?_, ?_, ?_⟩
  · cases hd : o.dst <;> simpa [Act.put] using n.defers
  · cases hd : o.dst <;> simpa [Act.put] using n.slots
  · intro j p hj hl e he hbind
    rw [hset] at hl ⊢
    split
    · rfl
    · split at hl
      · next hij => subst hij; rw [hi] at hj; obtain rfl := Option.some.inj hj; exact hdeps e he hbind
      · exact n.closed j p hj hl e he hbind
  · intro j p d hj hl hd
    rw [hset] at hl
    by_cases hij : i = j
    · subst hij
      rw [hi] at hj; obtain rfl := Option.some.inj hj
      have hlt := ((softB_at hform hi).2 d hd).1
      rw [hd, getD_put_self (by rw [n.slots]; exact hlt)]
      exact hv
    · rw [if_neg hij] at hl
      have hp := n.done j p d hj hl hd
      have hne : o.dst ≠ some d := fun hod => hij (((softB_at hform hi).2 d hod).2 j p hj hd)
      have e : (a.put o.dst v).tmps.getD d undef = a.tmps.getD d undef := by
        cases hod : o.dst with
        | none => rfl
        | some q => exact getD_put_other (fun h => hne (by rw [hod, h]))
      rw [e]
      exact hst _ _ _ _ hp hb
  · intro t ht
    have hne : o.dst ≠ some t := fun hod => by
      have := ht i o hi hod
      rw [hset, if_pos rfl] at this
      cases this
    have e : (a.put o.dst v).tmps.getD t undef = a.tmps.getD t undef := by
      cases hod : o.dst with
      | none => rfl
      | some q => exact getD_put_other (fun h => hne (by rw [hod, h]))
    rw [e]
    refine n.old t fun j p hj hp => ?_
    have := ht j p hj hp
    rw [hset] at this
    split at this
    · cases this
    · exact this

/-- What an operation has left in its slot. -/
def tmpOf (a : Act) (o : Oper) : Value := match o.dst with | some d => a.tmps.getD d undef | none => undef
theorem tmpOf_some {a : Act} {o : Oper} {d : Tmp} (h : o.dst = some d) : tmpOf a o = a.tmps.getD d undef := by unfold tmpOf; rw [h]

theorem putAll_get : ∀ (r : List Oper) (vs : List Value) (a : Act) (t : Tmp), (∀ o ∈ r, o.dst ≠ some t) → (putAll a r vs).tmps.getD t undef = a.tmps.getD t undef
  | [], _, a, t, _ => by cases ‹List Value› <;> rfl
  | o :: r, [], a, t, _ => rfl
  | o :: r, v :: vs, a, t, h => by
    show (putAll (a.put o.dst v) r vs).tmps.getD t undef = _
    rw [putAll_get r vs _ t fun p hp => h p (List.mem_cons_of_mem _ hp)]
    cases hod : o.dst with
    | none => rfl
    | some q => exact getD_put_other (fun e => h o (List.mem_cons_self ..) (by rw [hod, e]))
theorem putAll_size : ∀ (r : List Oper) (vs : List Value) (a : Act), (putAll a r vs).tmps.size = a.tmps.size ∧ (putAll a r vs).defers = a.defers
  | [], vs, a => by cases vs <;> exact ⟨rfl, rfl⟩
  | o :: r, [], a => ⟨rfl, rfl⟩
  | o :: r, v :: vs, a => by
    have := putAll_size r vs (a.put o.dst v)
    show (putAll (a.put o.dst v) r vs).tmps.size = _ ∧ (putAll (a.put o.dst v) r vs).defers = _
    rw [this.1, this.2]
    cases o.dst <;> simp [Act.put]

/-- Behind all operations the frame is the old one with each value put. -/
theorem putAll_eq (hform : softB l a0.tmps.size = true) (a : Act) (hd : a.defers = a0.defers) (hs : a.tmps.size = a0.tmps.size)
    (hold : ∀ t, (∀ o ∈ l, o.dst ≠ some t) → a.tmps.getD t undef = a0.tmps.getD t undef) :
    a = putAll a0 l (l.map (tmpOf a)) := by
  have gen : ∀ (r : List Oper) (k : Nat) (b : Act), (∀ j, r[j]? = l[k + j]?) → b.tmps.size = a0.tmps.size →
      ∀ (j : Nat) (o : Oper) (d : Tmp), r[j]? = some o → o.dst = some d →
        (putAll b r (r.map (tmpOf a))).tmps.getD d undef = a.tmps.getD d undef := by
    intro r
    induction r with
    | nil => intro k b _ _ j o d h; simp at h
    | cons p r ih =>
      intro k b hr hb j o d hj hod
      show (putAll (b.put p.dst _) r _).tmps.getD d undef = _
      have hr' : ∀ j, r[j]? = l[(k + 1) + j]? := fun j => by have := hr (j + 1); simp at this; rw [this]; congr 1; omega
      cases j with
      | zero =>
        simp at hj; subst hj
        have h0 : l[k]? = some p := by have := hr 0; simpa using this.symm
        have hf := (softB_at hform h0).2 d hod
        rw [putAll_get]
        · rw [hod, tmpOf_some hod]; exact getD_put_self (by rw [hb]; exact hf.1)
        · intro q hq hqd
          obtain ⟨m, hm⟩ := List.getElem?_of_mem hq
          have := hf.2 (k + 1 + m) q (by rw [← hr' m]; exact hm) hqd
          omega
      | succ j =>
        exact ih (k + 1) _ hr' (by cases p.dst <;> simpa [Act.put] using hb) j o d (by simpa using hj) hod
  have hz := putAll_size l (l.map (tmpOf a)) a0
  have key : ∀ t, a.tmps.getD t undef = (putAll a0 l (l.map (tmpOf a))).tmps.getD t undef := by
    intro t
    by_cases h : ∃ o ∈ l, o.dst = some t
    · obtain ⟨o, ho, hod⟩ := h
      obtain ⟨m, hm⟩ := List.getElem?_of_mem ho
      exact (gen l 0 a0 (by simp) rfl m o t hm hod).symm
    · have h' : ∀ o ∈ l, o.dst ≠ some t := fun o ho hod => h ⟨o, ho, hod⟩
      rw [putAll_get l _ a0 t h', hold t h']
  have et : a.tmps = (putAll a0 l (l.map (tmpOf a))).tmps := by
    apply Array.ext
    · rw [hs, hz.1]
    · intro i h1 h2
      have := key i
      revert h2 this
      generalize (putAll a0 l _).tmps = q
      intro h2 this
      simpa only [Array.getD_eq_getD_getElem?, Array.getElem?_eq_getElem h1, Array.getElem?_eq_getElem h2, Option.getD_some] using this
  have ed := hz.2
  revert et ed
  generalize putAll a0 l _ = b
  intro et ed
  cases a; cases b
  simp only at et ed hd
  subst et
  rw [ed, ← hd]

theorem fits_map {a : Act} {w : World} : ∀ (r : List Oper) (k : Nat), (∀ (j : Nat) (o : Oper) (d : Tmp), r[j]? = some o → o.dst = some d → posts (k + j) (a.tmps.getD d undef) w) →
    fits posts w k r (r.map (tmpOf a))
  | [], _, _ => trivial
  | o :: r, k, h => by
    refine ⟨fun hd => ?_, fits_map r (k + 1) fun j p d hj hp => ?_⟩
    · cases hod : o.dst with
      | none => exact absurd hod hd
      | some d => rw [tmpOf_some hod]; exact h 0 o d (by simp) hod
    · have := h (j + 1) p d (by simpa using hj) hp
      rwa [show k + (j + 1) = k + 1 + j from by omega] at this

theorem soft_any {Q : Exit → Act → World → Prop} (hform : softB l a0.tmps.size = true)
    (hst : ∀ i v w w', posts i v w → Below w.heap.size w w' → posts i v w')
    (hok : opsOk P l posts a0 w0 0 l)
    (hend : ∀ vs w, Below w0.heap.size w0 w → fits posts w 0 l vs → Q .normal (putAll a0 l vs) w) :
    ∀ (fuel : Nat) (listed : Array Bool) (a : Act) (w : World), SoftInv l posts a0 w0 listed a w → listed.toList.count false ≤ fuel → wpAny P .any l.toArray Q fuel listed a w := by
  have fin : ∀ (listed : Array Bool) (a : Act) (w : World), SoftInv l posts a0 w0 listed a w → Region.ready .any l.toArray listed = [] → Q .normal a w := by
    intro listed a w n h0
    have all : ∀ (j : Nat) (o : Oper), l[j]? = some o → listed.getD j false = true := by
      intro j
      induction j using Nat.strongRecOn with
      | ind j ih =>
        intro o hj
        rcases hl : listed.getD j false with _ | _
        · exfalso
          have hin : j < listed.size := by rw [n.size]; exact (List.getElem?_eq_some_iff.1 hj).1
          have hl' : listed.getD j true = false := by
            simp only [Array.getD_eq_getD_getElem?, Array.getElem?_eq_getElem hin, Option.getD_some] at hl ⊢; exact hl
          have : j ∈ Region.ready .any l.toArray listed := mem_ready.2 ⟨hl', o, by simpa using hj, fun e he hb => by
            have hlt := (softB_at hform hj).1 e he hb
            have hlen : j < l.length := (List.getElem?_eq_some_iff.1 hj).1
            exact ih e.on hlt l[e.on] (List.getElem?_eq_getElem (by omega))⟩
          rw [h0] at this
          cases this
        · rfl
    have hold : ∀ t, (∀ o ∈ l, o.dst ≠ some t) → a.tmps.getD t undef = a0.tmps.getD t undef := fun t ht => n.old t fun j o hj hod => absurd hod (ht o (List.mem_of_getElem? hj))
    rw [putAll_eq hform a n.defers n.slots hold]
    refine hend _ w n.below (fits_map l 0 fun j o d hj hod => ?_)
    rw [Nat.zero_add]
    exact n.done j o d hj (all j o hj) hod
  intro fuel
  induction fuel with
  | zero =>
    intro listed a w n hc
    have h0 : Region.ready .any l.toArray listed = [] := by
      cases hr : Region.ready .any l.toArray listed with
      | nil => rfl
      | cons i r =>
        exfalso
        have hm : i ∈ Region.ready .any l.toArray listed := by rw [hr]; exact List.mem_cons_self ..
        obtain ⟨h1, o, ho, _⟩ := mem_ready.1 hm
        have hin : i < listed.size := by rw [n.size]; have := (Array.getElem?_eq_some_iff.1 ho).1; simpa using this
        have : false ∈ listed.toList := by
          simp only [Array.getD_eq_getD_getElem?, Array.getElem?_eq_getElem hin, Option.getD_some] at h1
          rw [← h1]; simp
        have := List.count_pos_iff.2 this
        omega
    exact ⟨h0, fin listed a w n h0⟩
  | succ fuel ih =>
    intro listed a w n hc
    refine ⟨fin listed a w n, fun i hm => ?_⟩
    obtain ⟨h1, o, ho, hdeps⟩ := mem_ready.1 hm
    have hi : l[i]? = some o := by simpa using ho
    have hin : i < listed.size := by rw [n.size]; exact (List.getElem?_eq_some_iff.1 hi).1
    have hcount : (listed.setIfInBounds i true).toList.count false ≤ fuel := by
      have e : (listed.setIfInBounds i true).toList = listed.toList.set i true := by simp
      have h1' : listed.toList[i]? = some false := by
        simp only [Array.getD_eq_getD_getElem?, Array.getElem?_eq_getElem hin, Option.getD_some] at h1
        simp [hin, h1]
      rw [e, List.count_set (by simpa using hin)]
      have hg : listed.toList[i]'(by simpa using hin) = false := by
        have := h1'
        rw [List.getElem?_eq_getElem (by simpa using hin)] at this
        exact Option.some.inj this
      rw [hg]
      have hp : 0 < listed.toList.count false := List.count_pos_iff.2 (by rw [← hg]; exact List.getElem_mem _)
      generalize listed.toList.count false = cc at *
      show cc - (if (false == false) = true then 1 else 0) + (if (true == false) = true then 1 else 0) ≤ fuel
      have e1 : (if (false == false) = true then 1 else 0) = 1 := rfl
      have e2 : (if (true == false) = true then 1 else 0) = 0 := rfl
      omega
    have hop := opsOk_at l 0 hok i o hi
    rw [Nat.zero_add] at hop
    have hop := hop a w n.below
      (fun e he hb d hd => by
        have hl := hdeps e he hb
        unfold dstOf at hd
        cases hp : l[e.on]? with
        | none => rw [hp] at hd; cases hd
        | some p =>
          rw [hp] at hd
          have hlt := ((softB_at hform hp).2 d hd).1
          refine ⟨?_, n.done e.on p d hp hl hd⟩
          have : d < a.tmps.size := by rw [n.slots]; exact hlt
          simp [Array.getD, this])
      (fun t ht => n.old t fun j p hj hp => by
        have := List.all_eq_true.1 ht p (List.mem_of_getElem? hj)
        simp only [hp, bne_self_eq_false, Bool.false_or, Array.any_eq_true'] at this
        obtain ⟨e, he, hbe⟩ := this
        simp only [Bool.and_eq_true, beq_iff_eq] at hbe
        rcases hl : listed.getD j false with _ | _
        · rfl
        · have := n.closed j p hj hl e he hbe.1
          rw [hbe.2] at this
          have h1' : listed.getD i false = false := by
            simp only [Array.getD_eq_getD_getElem?, Array.getElem?_eq_getElem hin, Option.getD_some] at h1 ⊢; exact h1
          rw [h1'] at this; cases this)
    unfold wpOp
    simp only [ho]
    split
    · rename_i hw
      simp only [hw, if_true] at hop
      refine .inl (wp_out (fun a' w' => ?_) hop)
      rintro ⟨v, rfl, hv, hb⟩
      exact ih _ _ _ (n.step hform hst hi hdeps hv hb) hcount
    · rename_i hw
      simp only [hw] at hop
      exact ih _ _ _ (n.step hform hst hi hdeps hop (Below.refl _ _)) hcount

/-- THE RULE. -/
theorem wp_region_soft {id : Nat} {Q : Exit → Act → World → Prop} (hm : P.follows .mixedOrders = true) (posts : Nat → Value → World → Prop)
    (hform : softB l a0.tmps.size = true)
    (hst : ∀ i v w w', posts i v w → Below w.heap.size w w' → posts i v w')
    (hok : opsOk P l posts a0 w0 0 l)
    (hend : ∀ vs w, Below w0.heap.size w0 w → fits posts w 0 l vs → Q .normal (putAll a0 l vs) w) :
    (Code.region id l.toArray true).wp P Q a0 w0 := by
  refine wp_region_any hm (soft_any hform hst hok hend _ _ _ _ ⟨by simp, ⟨rfl, rfl, rfl, Nat.le_refl _, fun _ _ => rfl⟩, rfl, rfl, ?_, ?_, fun t _ => rfl⟩ ?_)
  · intro j o hj hl
    have hlen : j < l.length := (List.getElem?_eq_some_iff.1 hj).1
    simp [hlen] at hl
  · intro j o d hj hl
    have hlen : j < l.length := (List.getElem?_eq_some_iff.1 hj).1
    simp [hlen] at hl
  · simp

end
end Go.Proofs.Ythafdgnpkfphoaa
