/- The walk of WheelAll: words. -/
import Derived.Test.YtnpdhddnlcpaiaaLaw7F
import Derived.Test.YtnpdhddnlcpaiaaHeld
import Derived.Deep.CutRange
import Derived.Deep.CutBlock
import Derived.Deep.LoopGhost
namespace Go.Proofs.Ytnpdhddnlcpaiaa
open Go.RowKit

/-- Operations, as cells: what, whose, when. -/
def oc (o : Int × Int × Int) : List Value := [.int .i64 o.1, .int .i64 o.2.1, .int .i64 o.2.2]
def ocs (l : List (Int × Int × Int)) : List Value := l.flatMap oc
theorem ocs_len : ∀ l : List (Int × Int × Int), (ocs l).length = l.length * 3
  | [] => rfl
  | p :: l => by
    have := ocs_len l
    unfold ocs at this ⊢
    rw [List.flatMap_cons, List.length_append, this, List.length_cons]; simp [oc]; omega
theorem ocs_at : ∀ (l : List (Int × Int × Int)) (i : Nat), i < l.length → ∃ o : Int × Int × Int, (ocs l)[i * 3]? = some (.int .i64 o.1) ∧ (ocs l)[i * 3 + 1]? = some (.int .i64 o.2.1) ∧ (ocs l)[i * 3 + 2]? = some (.int .i64 o.2.2)
  | p :: l, 0, _ => ⟨p, by simp [ocs, oc]⟩
  | p :: l, i + 1, h => by
    obtain ⟨o, h1, h2, h3⟩ := ocs_at l i (by simpa using h)
    refine ⟨o, ?_, ?_, ?_⟩
    · rw [show (i + 1) * 3 = i * 3 + 1 + 1 + 1 by omega]; simpa [ocs, oc] using h1
    · rw [show (i + 1) * 3 + 1 = i * 3 + 1 + 1 + 1 + 1 by omega]; simpa [ocs, oc] using h2
    · rw [show (i + 1) * 3 + 2 = i * 3 + 2 + 1 + 1 + 1 by omega]; simpa [ocs, oc] using h3
theorem Rd.trip {w : World} {B : Nat} {A : Option Addr} {c n : Nat} {l : List (Int × Int × Int)} (h : Rd w B A c 3 n (ocs l)) {i : Nat} (hi : i < n) :
    ∃ b o x y z, A = some ⟨b, o, none⟩ ∧ w.cell? ⟨b, o + i * 3, none⟩ = some (.int .i64 x) ∧ w.cell? ⟨b, o + i * 3 + 1, none⟩ = some (.int .i64 y) ∧ w.cell? ⟨b, o + i * 3 + 2, none⟩ = some (.int .i64 z) := by
  have hl := h.len
  rw [ocs_len] at hl
  obtain ⟨b, o, hA, _, hc⟩ := h.2.2.2.2 (by omega)
  obtain ⟨⟨x, y, z⟩, t1, t2, t3⟩ := ocs_at l i (by omega)
  exact ⟨b, o, x, y, z, hA, hc _ _ t1, by have := hc _ _ t2; rwa [← Nat.add_assoc] at this, by have := hc _ _ t3; rwa [← Nat.add_assoc] at this⟩

/-- What the statement knows of the wheel and of its own list. -/
structure St (w0 : World) (g : Nat) (w : World) (now : Int) (l : List (Int × Int)) (T : List (Int × Bool)) (A : Option Addr) (n c : Nat) : Prop where
  mod : PMod.Mod l T
  wheel : Wl w g now T
  list : Ow w w0.heap.size 31 2 A n c (tcs l)
  below : Below w0.heap.size w0 w
  low : w0.heap.size ≤ g
section
variable {w0 w w' : World} {g n c : Nat} {now : Int} {l : List (Int × Int)} {T : List (Int × Bool)} {A : Option Addr}
theorem St.past (h : St w0 g w now l T A n c) (hb : Below w.heap.size w w') : St w0 g w' now l T A n c :=
  ⟨h.mod, h.wheel.past hb, h.list.past hb, h.below.trans (hb.mono h.below.size), h.low⟩
theorem St.drawn (h : St w0 g w now l T A n c) (q : Nat) : St w0 g (w.drewN q) now l T A n c := h.past (below_drawn (Below.refl _ _) q)
theorem St.len (h : St w0 g w now l T A n c) : l.length = n := h.list.rd.plen
/-- Behind a call that wrote the wheel. -/
theorem St.wrote (h : St w0 g w now l T A n c) (ht : Touch [g] w w') {now' : Int} {T' : List (Int × Bool)} (hw : Wl w' g now' T') {l' : List (Int × Int)} (hm : PMod.Mod l' T') (hl : Ow w' w0.heap.size 31 2 A n c (tcs l')) : St w0 g w' now' l' T' A n c :=
  ⟨hm, hw, hl, h.below.trans (ht.below (by simpa using h.low) h.below.size), h.low⟩
theorem St.listAt (h : St w0 g w now l T A n c) (ht : Touch [g] w w') : Ow w' w0.heap.size 31 2 A n c (tcs l) :=
  h.list.touch ht (fun g' hg' => by
    have e : g' = g := by simpa using hg'
    subst e
    exact h.list.ne h.wheel.2 (by decide))
end
/-- The list's timer of a number: there, at place m; or nowhere. -/
def Found (l : List (Int × Int)) (i : Int) (k : Nat) (v : Value) : Prop :=
  (v = .int .i64 (-1) ∧ ∀ m, m < k → (pr l m).1 ≠ i) ∨ ∃ m : Nat, m < k ∧ v = .int .i64 m ∧ (pr l m).1 = i
theorem Found.none {l : List (Int × Int)} {i : Int} (h : ∀ m, m < l.length → (pr l m).1 ≠ i) : ∀ p ∈ l, p.1 ≠ i := by
  intro p hp
  obtain ⟨m, hm, rfl⟩ := List.getElem_of_mem hp
  have := h m hm
  simpa [pr, List.getD, List.getElem?_eq_getElem hm] using this
theorem Found.some {l : List (Int × Int)} {i : Int} {m : Nat} (hm : m < l.length) (h : (pr l m).1 = i) : ∃ l1 t l2, l = l1 ++ (i, t) :: l2 ∧ l1.length = m ∧ l.take m = l1 ∧ l.drop (m + 1) = l2 := by
  refine ⟨l.take m, (pr l m).2, l.drop (m + 1), ?_, by rw [List.length_take]; omega, rfl, rfl⟩
  have e : l[m] = (i, (pr l m).2) := by
    have : pr l m = l[m] := by simp [pr, List.getD, List.getElem?_eq_getElem hm]
    rw [← h, this]
  rw [← e, ← List.drop_eq_getElem_cons hm, List.take_append_drop]

theorem lp_trans {p q r : Int × Int} (h : PMod.lp p q) (h' : PMod.lp q r) : PMod.lp p r := by unfold PMod.lp at *; omega
theorem ins_lp {F : List (Int × Int)} {x : Int × Int} {j : Nat} (hF : F.Pairwise PMod.lp) (h1 : ∀ m, m < j → PMod.lp (pr F m) x) (h2 : j < F.length → ¬ PMod.lp (pr F j) x) (hd : ∀ p ∈ F, p.1 ≠ x.1) : (F.take j ++ x :: F.drop j).Pairwise PMod.lp := by
  have hF' : (F.take j ++ F.drop j).Pairwise PMod.lp := by rw [List.take_append_drop]; exact hF
  have hp := List.pairwise_append.1 hF'
  have a1 : ∀ p ∈ F.take j, PMod.lp p x := by
    intro p hpm
    obtain ⟨m, hm, rfl⟩ := List.getElem_of_mem hpm
    rw [List.length_take] at hm
    have := h1 m (by omega)
    rw [List.getElem_take]
    simpa [pr, List.getD, List.getElem?_eq_getElem (show m < F.length by omega)] using this
  have a2 : ∀ p ∈ F.drop j, PMod.lp x p := by
    by_cases hj : j < F.length
    · have e := List.drop_eq_getElem_cons hj
      have e1 : pr F j = F[j] := by simp [pr, List.getD, List.getElem?_eq_getElem hj]
      have n1 := h2 hj
      have n2 := hd F[j] (List.getElem_mem _)
      rw [e1] at n1
      have l0 : PMod.lp x F[j] := by unfold PMod.lp at *; omega
      have hc := hp.2.1
      rw [e] at hc ⊢
      intro p hpm
      rcases List.mem_cons.1 hpm with rfl | hpm
      · exact l0
      · exact lp_trans l0 ((List.pairwise_cons.1 hc).1 p hpm)
    · rw [List.drop_of_length_le (by omega)]; simp
  refine List.pairwise_append.2 ⟨hp.1, List.pairwise_cons.2 ⟨a2, hp.2.1⟩, fun p hpm q hq => ?_⟩
  rcases List.mem_cons.1 hq with rfl | hq
  · exact a1 p hpm
  · exact hp.2.2 p hpm q hq
theorem ins_perm {F G : List (Int × Int)} (h : F.Perm G) (x : Int × Int) (j : Nat) : (F.take j ++ x :: F.drop j).Perm (G ++ [x]) := by
  refine List.perm_middle.trans ?_
  rw [List.take_append_drop]
  exact (h.cons x).trans (List.perm_append_singleton x G).symm
theorem take_succ_pr {l : List (Int × Int)} {u : Nat} (h : u < l.length) : l.take (u + 1) = l.take u ++ [pr l u] := by
  have e1 : pr l u = l[u] := by simp [pr, List.getD, List.getElem?_eq_getElem h]
  rw [List.take_add, List.drop_eq_getElem_cons h, e1]; rfl
theorem not_ahead {l : List (Int × Int)} {T : List (Int × Bool)} (h : PMod.Mod l T) {u : Nat} (hu : u < l.length) : ∀ p ∈ l.take u, p.1 ≠ (pr l u).1 := by
  intro p hp
  have e : l = l.take u ++ pr l u :: l.drop (u + 1) := by
    have : pr l u = l[u] := by simp [pr, List.getD, List.getElem?_eq_getElem hu]
    rw [this, ← List.drop_eq_getElem_cons hu, List.take_append_drop]
  have hd := h.dist
  rw [e] at hd
  exact (List.pairwise_append.1 hd).2.2 p hp _ (by simp)

section
variable {P : Program}
/-- A load of two cells. -/
theorem run_load2 {w : World} {dst : Option Tmp} {t : TypeId} {x : Operand} {ty : TypeId} {pos : String} {after : Array Edge} {guard : Option (Nat × Bool)} {ρ : Operand → Value} {b o : Nat} {u v : Value} {d : TypeDesc}
    (hu : P.underlying t = some d) (hd : d.isRow = true) (hi : (P.info? t).map (·.size) = some 2) (hx : ρ x = .pointer (some ⟨b, o, none⟩)) (h1 : w.cell? ⟨b, o, none⟩ = some u) (h2 : w.cell? ⟨b, o + 1, none⟩ = some v) :
    (execOp ρ { dst, op := .load t x, type := ty, pos, after, guard }).run P w = .ok (.value (.agg #[u, v])) w := by
  have hr : w.rangeAt b o [u, v] := fun j z hz => by
    match j, hz with
    | 0, hz => simp at hz; subst hz; exact h1
    | 1, hz => simp at hz; subst hz; exact h2
    | j + 2, hz => simp at hz
  have := run_loadAt_mid (P := P) w b o t [u, v] d hr hu hd hi
  unfold execOp
  simp only [hx, Sem.run_bind, this, Result.andThen_ok, Sem.run_pure]
/-- A new row of one, of two cells. -/
theorem wpList_build2 {w : World} {ops : Array Oper} {rest : List Oper} {o : Oper} {a : Act} {Q : Exit → Act → World → Prop} (hgd : o.guard = none) (t e : TypeId) (x : Operand) (ho : o.op = .buildSlice t 1 #[(0, x)])
    (ht : P.underlying t = some (.slice e)) (hs : ∀ w, (sizeOf e).run P w = .ok 2 w) {z0 z1 : Value} (hz : ∀ w, (zeroValue e).run P w = .ok (.agg #[z0, z1]) w) (u v : Value) (hx : a.eval x = .agg #[u, v])
    (h : wpList P ops Q rest (a.put o.dst (.slice (some ⟨w.heap.size, 0, none⟩) 1 1)) (w.alloc (.cells #[u, v] e))) : wpList P ops Q (o :: rest) a w := by
  refine wpList_plain hgd fun K hK => ?_
  have hrun : (Instr.buildSlice t 1 #[(0, .agg #[u, v])]).run P w = .ok (.slice (some ⟨w.heap.size, 0, none⟩) 1 1) (w.alloc (.cells #[u, v] e)) := by
    simp [Instr.buildSlice, Sem.run_bind, run_underlying ht, hs, hz, Value.cells, Instr.fill, Array.range, newRow]
    congr 2
  unfold Oper.wp execOp
  simp only [ho, List.map_toArray, List.map_cons, List.map_nil, hx, Sem.run_bind, hrun, Result.andThen_ok, Sem.run_pure]
  exact hK _ _ h
end
end Go.Proofs.Ytnpdhddnlcpaiaa
