/- What a call leaves: 'Touch S w w'': of the old blocks those of the list S alone may hold other cells. No program is named here. -/
import Derived.Test.YtkckibcfanaglaaDoorSeg1
import Derived.ArgAppend
import Derived.Deep.Upon
import Derived.Deep.Slices
import Derived.Deep.Fields
import Derived.ChangeSame
import Derived.WideShapes
import Derived.ChangeShapes
import Derived.Test.YtkckibcfanaglaaDoorRows
import Derived.Laws.StructEq
namespace Go.Proofs.YtkckibcfanaglaaDoor
open Go.RowKit

structure Touch (S : List Nat) (w w' : World) : Prop where
  os : w'.os = w.os
  tape : w'.tape = w.tape
  output : w'.output = w.output
  size : w.heap.size ≤ w'.heap.size
  block : ∀ k, k < w.heap.size → k ∉ S → w'.heap[k]? = w.heap[k]?

section
variable {S S' : List Nat} {a b c w w' : World} {g : Nat} {e : TypeId} {xs : List Value}
theorem Touch.refl (S : List Nat) (w : World) : Touch S w w := ⟨rfl, rfl, rfl, Nat.le_refl _, fun _ _ _ => rfl⟩
theorem Touch.trans (h : Touch S a b) (k : Touch S b c) : Touch S a c :=
  ⟨k.os.trans h.os, k.tape.trans h.tape, k.output.trans h.output, Nat.le_trans h.size k.size, fun i hi hs => (k.block i (Nat.lt_of_lt_of_le hi h.size) hs).trans (h.block i hi hs)⟩
theorem Touch.wide (h : Touch S a b) (hs : ∀ k ∈ S, k ∈ S') : Touch S' a b := ⟨h.os, h.tape, h.output, h.size, fun k hk hn => h.block k hk fun hm => hn (hs k hm)⟩
theorem Touch.of_grown (h : w.grownBy w' (some g)) : Touch [g] w w' := ⟨h.os, h.tape, h.output, h.size, fun k hk hn => h.block k hk (by simpa using hn)⟩
theorem Touch.of_below (h : Below w.heap.size w w') : Touch S w w' := ⟨h.os, h.tape, h.output, h.size, fun k hk _ => h.block k hk⟩
theorem Touch.of_grown_none {row : Option Nat} (h : w.grownBy w' row) (hr : ∀ k, row = some k → k ∈ S) : Touch S w w' := ⟨h.os, h.tape, h.output, h.size, fun k hk hn => h.block k hk fun hr' => hn (hr k hr'.symm)⟩
theorem Touch.drew (h : Touch S a w) : Touch S a w.drew := ⟨h.os, h.tape, h.output, h.size, h.block⟩
theorem Touch.alloc (h : Touch S a w) (o : Obj) : Touch S a (w.alloc o) := h.trans (.of_below ((Below.refl _ _).alloc (Nat.le_refl _) _))
theorem Touch.cell (h : Touch S a w) (hg : g ∈ S) (i : Nat) (v : Value) : Touch S a (w.setCell ⟨g, i, none⟩ v) := h.trans ((Touch.of_grown (grown_set w g i v)).wide (by simpa using hg))
theorem Touch.below {B : Nat} (h : Touch S w w') (hs : ∀ k ∈ S, B ≤ k) (hB : B ≤ w.heap.size) : Below B w w' :=
  ⟨h.os, h.tape, h.output, h.size, fun k hk => h.block k (by omega) fun hm => by have := hs k hm; omega⟩
theorem Blk.touch (h : Blk w g e xs) (ht : Touch S w w') (hg : g ∉ S) : Blk w' g e xs := (ht.block g h.lt hg).trans h
/-- Blocks of two types are two. -/
theorem Blk.ne {g' : Nat} {e' : TypeId} {xs' : List Value} (h : Blk w g e xs) (h' : Blk w g' e' xs') (he : e ≠ e') : g ≠ g' := by
  rintro rfl
  have := h.symm.trans h'
  simp at this
  exact he this.2
theorem Blk.same {e' : TypeId} {xs' : List Value} (h : Blk w g e xs) (h' : Blk w g e' xs') : xs = xs' := by
  have := h.symm.trans h'
  simp at this
  exact this.1
/-- What is owned, behind a call that wrote blocks of other types. -/
theorem own_touch {base k n : Nat} {v : Value} (h : w.ownsRow base e k v n xs) (ht : Touch S w w') (hs : ∀ g ∈ S, ∀ ys, ¬ Blk w g e ys) : w'.ownsRow base e k v n xs := by
  obtain ⟨h1, h2⟩ := h
  refine ⟨h1, ?_⟩
  rcases h2 with h2 | ⟨g, cap, cur, hv, hg, hh, r⟩
  · exact .inl h2
  · refine .inr ⟨g, cap, cur, hv, hg, ?_, r⟩
    rw [ht.block g (Array.getElem?_eq_some_iff.1 hh).1 fun hm => hs g hm cur.toList (by simpa [Blk] using hh)]
    exact hh
theorem own_base {base base' k n : Nat} {v : Value} (h : w.ownsRow base e k v n xs) (hb : base' ≤ base) : w.ownsRow base' e k v n xs := by
  obtain ⟨h1, h2⟩ := h
  refine ⟨h1, ?_⟩
  rcases h2 with h2 | ⟨g, cap, cur, hv, hg, r⟩
  · exact .inl h2
  · exact .inr ⟨g, cap, cur, hv, by omega, r⟩
end
end Go.Proofs.YtkckibcfanaglaaDoor

/- 'Ow': a slice of the call's own, at the head of its block, whatever lies behind its capacity ('l[:i:i]' too); what append leaves of it. No program is named here. -/
namespace Go.Proofs.YtkckibcfanaglaaDoor
open Go.RowKit

def Ow (w : World) (base : Nat) (e : TypeId) (k : Nat) (A : Option Addr) (n c : Nat) (xs : List Value) : Prop :=
  xs.length = n * k ∧ ((A = none ∧ n = 0 ∧ c = 0) ∨ ∃ g Z, A = some ⟨g, 0, none⟩ ∧ base ≤ g ∧ Blk w g e (xs ++ Z) ∧ n ≤ c ∧ c ≤ maxLen ∧ c * k ≤ (xs ++ Z).length)
/-- The slice's block. -/
def bk (A : Option Addr) : Option Nat := A.map (·.block)

section
variable {w w' : World} {base k n c g i : Nat} {e : TypeId} {A : Option Addr} {xs : List Value} {S : List Nat}
theorem Ow.nil (w : World) (base : Nat) (e : TypeId) (k : Nat) : Ow w base e k none 0 0 [] := ⟨by simp, .inl ⟨rfl, rfl, rfl⟩⟩
theorem Ow.of_own (h : w.ownsRow base e k (.slice A n c) n xs) : Ow w base e k A n c xs := by
  refine ⟨h.1, ?_⟩
  rcases h.2 with ⟨h1, h2⟩ | ⟨g, cap, cur, hv, hb, hh, hn, hc, hs, ht⟩
  · cases h1; exact .inl ⟨rfl, rfl, rfl⟩
  · cases hv
    have e1 : xs ++ cur.toList.drop (n * k) = cur.toList := by rw [← ht, List.take_append_drop]
    refine .inr ⟨g, cur.toList.drop (n * k), rfl, hb, ?_, hn, hc, ?_⟩
    · rw [e1]; simpa [Blk] using hh
    · rw [e1]; simp [hs]
theorem Ow.le (h : Ow w base e k A n c xs) : n ≤ c := by
  rcases h.2 with ⟨_, h1, h2⟩ | ⟨_, _, _, _, _, h1, _⟩
  · omega
  · exact h1
theorem Ow.rd (h : Ow w base e k A n c xs) : Rd w w.heap.size A c k n xs := by
  refine ⟨h.1, h.le, ?_⟩
  rcases h.2 with ⟨h0, h1, h2⟩ | ⟨g, Z, hA, hb, hB, hn, hc, hz⟩
  · exact ⟨by rw [h2]; simp [maxLen], fun _ => h2, fun hp => by rw [h1] at hp; simp at hp⟩
  · refine ⟨hc, (fun h => by rw [hA] at h; cases h), fun _ => ⟨g, 0, hA, hB.lt, fun j u hu => ?_⟩⟩
    rw [Nat.zero_add]
    exact hB.cell (by rw [List.getElem?_append_left (List.getElem?_eq_some_iff.1 hu).1]; exact hu)
theorem Ow.touch (h : Ow w base e k A n c xs) (ht : Touch S w w') (hs : ∀ g ∈ S, bk A ≠ some g) : Ow w' base e k A n c xs := by
  refine ⟨h.1, ?_⟩
  rcases h.2 with h2 | ⟨g, Z, hA, hb, hB, r⟩
  · exact .inl h2
  · exact .inr ⟨g, Z, hA, hb, hB.touch ht (fun hm => hs g hm (by rw [hA]; rfl)), r⟩
theorem Ow.past (h : Ow w base e k A n c xs) (hb : Below w.heap.size w w') : Ow w' base e k A n c xs := h.touch (S := []) (.of_below hb) (by simp)
/-- Blocks of another type are others. -/
theorem Ow.ne {e' : TypeId} {ys : List Value} (h : Ow w base e k A n c xs) (h' : Blk w g e' ys) (he : e ≠ e') : bk A ≠ some g := by
  rcases h.2 with ⟨h0, _⟩ | ⟨g', Z, hA, hb, hB, _⟩
  · rw [h0]; simp [bk]
  · rw [hA]
    intro hg
    have e1 : g' = g := by simpa [bk] using hg
    subst e1
    exact hB.ne h' he rfl
/-- 'l[:m:m]'. -/
theorem Ow.head (h : Ow w base e k A n c xs) {m : Nat} (hm : m ≤ n) : Ow w base e k A m m (xs.take (m * k)) := by
  have hl := h.1
  have hmk : m * k ≤ n * k := Nat.mul_le_mul_right k hm
  refine ⟨by rw [List.length_take]; omega, ?_⟩
  rcases h.2 with ⟨h0, h1, h2⟩ | ⟨g, Z, hA, hb, hB, hn, hc, hz⟩
  · exact .inl ⟨h0, by omega, by omega⟩
  · refine .inr ⟨g, xs.drop (m * k) ++ Z, hA, hb, ?_, Nat.le_refl _, by omega, ?_⟩
    · rw [← List.append_assoc, List.take_append_drop]; exact hB
    · simp only [List.length_append, List.length_take, List.length_drop]; omega
/-- A cell of it. -/
theorem Ow.cell (h : Ow w base e k A n c xs) (hA : A = some ⟨g, 0, none⟩) {u : Value} (hu : xs[i]? = some u) : w.cell? ⟨g, i, none⟩ = some u ∧ w.frozen? ⟨g, i, none⟩ = false := by
  rcases h.2 with ⟨h0, _⟩ | ⟨g', Z, hA', hb, hB, _⟩
  · rw [h0] at hA; cases hA
  · rw [hA] at hA'; cases hA'
    exact ⟨hB.cell (by rw [List.getElem?_append_left (List.getElem?_eq_some_iff.1 hu).1]; exact hu), hB.free i⟩
theorem Ow.set (h : Ow w base e k A n c xs) (hA : A = some ⟨g, 0, none⟩) (hi : i < xs.length) (u : Value) : Ow (w.setCell ⟨g, i, none⟩ u) base e k A n c (xs.set i u) := by
  refine ⟨by rw [List.length_set]; exact h.1, ?_⟩
  rcases h.2 with ⟨h0, _⟩ | ⟨g', Z, hA', hb, hB, hn, hc, hz⟩
  · rw [h0] at hA; cases hA
  · rw [hA] at hA'; cases hA'
    have := hB.set i u
    rw [List.set_append_left _ _ hi] at this
    exact .inr ⟨g, Z, hA, hb, this, hn, hc, by simpa using hz⟩
theorem Ow.some (h : Ow w base e k A n c xs) (hn : 0 < n) : ∃ g, A = .some ⟨g, 0, none⟩ ∧ base ≤ g ∧ g < w.heap.size := by
  rcases h.2 with ⟨_, h1, _⟩ | ⟨g, Z, hA, hb, hB, _⟩
  · omega
  · exact ⟨g, hA, hb, hB.lt⟩
theorem Ow.down {base' : Nat} (h : Ow w base e k A n c xs) (hb : base' ≤ base) : Ow w base' e k A n c xs := by
  refine ⟨h.1, ?_⟩
  rcases h.2 with h2 | ⟨g, Z, hA, hg, r⟩
  · exact .inl h2
  · exact .inr ⟨g, Z, hA, by omega, r⟩
theorem Ow.hi (h : Ow w base e k A n c xs) : ∀ g, bk A = Option.some g → g < w.heap.size := by
  intro g hg
  rcases h.2 with ⟨h0, _⟩ | ⟨g', Z, hA, hb, hB, _⟩
  · rw [h0] at hg; cases hg
  · rw [hA] at hg
    have e1 : g' = g := by simpa [bk] using hg
    subst e1; exact hB.lt
theorem Ow.low (h : Ow w base e k A n c xs) : ∀ g, bk A = Option.some g → base ≤ g := by
  intro g hg
  rcases h.2 with ⟨h0, _⟩ | ⟨g', Z, hA, hb, _⟩
  · rw [h0] at hg; cases hg
  · rw [hA] at hg; simp [bk] at hg; omega
end

/-- The slice's block, as a list. -/
def bl (A : Option Addr) : List Nat := match bk A with | some g => [g] | none => []
theorem mem_bl {A : Option Addr} {g : Nat} : g ∈ bl A ↔ bk A = some g := by
  unfold bl
  cases bk A <;> simp [eq_comm]
theorem Touch.of_bk {w w' : World} {A : Option Addr} (h : w.grownBy w' (bk A)) : Touch (bl A) w w' := Touch.of_grown_none h (fun _ hk => mem_bl.2 hk)

section
variable {P : Program}
/-- 'append' onto a slice of the call's own, whatever the source. -/
theorem run_app (w : World) (t ty e : TypeId) (i : TypeInfo) (z : Value) (k bytes : Nat) (ht : P.underlying t = some (.slice e)) (hi : P.info? e = some i) (hz : i.zero = some z) (hk : i.size = k) (hby : i.bytes = bytes) (hzs : z.cells.size = k) (hk0 : 0 < k)
    {base n c : Nat} {A : Option Addr} {xs : List Value} (h : Ow w base e k A n c xs) {B cx m : Nat} {X : Option Addr} {news : List Value} (hr : Rd w B X cx k m news) (h1 : ∀ u ∈ news, u.oneCell' = true)
    (h63 : n + m ≤ maxLen) (hbytes : (n + m) * bytes ≤ 140737488355328) (hbase : base ≤ w.heap.size) :
    ∃ A' c' w', (Builtin.append_ #[t, t] ty #[.slice A n c, .slice X m cx]).run P w = .ok (.slice A' (n + m) c') w' ∧ Ow w' base e k A' (n + m) c' (xs ++ news) ∧ w.grownBy w' (bk A) ∧ (∀ g, bk A' = Option.some g → bk A = Option.some g ∨ w.heap.size ≤ g) ∧ (c < n + m → w.grownBy w' none ∧ Ow w' w.heap.size e k A' (n + m) c' (xs ++ news)) ∧ (c = n → w.grownBy w' none) := by
  rcases Nat.eq_zero_or_pos m with rfl | hm
  · have hn : news = [] := List.eq_nil_of_length_eq_zero (by simpa using hr.1)
    subst hn
    have hle := h.le
    refine ⟨A, c, w, ?_, by simpa using h, World.grownBy.refl _ _, fun g hg => .inl hg, fun h' => absurd h' (by omega), fun _ => World.grownBy.refl _ _⟩
    cases A <;> cases X <;> simp [Builtin.append_, run_underlying ht, sizeOf, typeInfo, hi, Builtin.lenOf, hle, Builtin.firstCells, loadCells, loadCellsFrom, storeCells]
  · obtain ⟨bx, ox, rfl, _, hc⟩ := hr.2.2.2.2 (Nat.mul_pos hm hk0)
    have hnews : ∀ j u, news[j]? = Option.some u → w.cell? ((⟨bx, ox, none⟩ : Addr).add j) = Option.some u := fun j u hu => by rw [add_zero_spot]; exact hc j u hu
    have hown := h
    rcases h.2 with ⟨rfl, rfl, rfl⟩ | ⟨g, Z, rfl, hb, hB, hn, hcm, hfit⟩
    · have hx : xs = [] := List.eq_nil_of_length_eq_zero (by simpa using h.1)
      subst hx
      obtain ⟨v', w', hrun, ho, hg, _⟩ := run_append_own (P := P) w w.heap.size t ty e i z k bytes ht hi hz hk hby hzs hk0 (.slice none 0 0) 0 [] (World.ownsRow_nil w w.heap.size e k) ⟨bx, ox, none⟩ m cx news hr.1 hnews h1 h63 hbytes (Nat.le_refl _)
      obtain ⟨A', c', rfl⟩ := own_slice ho
      exact ⟨A', c', w', hrun, Ow.of_own (own_base ho hbase), hg, fun g hg => .inr ((Ow.of_own ho).low g hg), fun _ => ⟨hg, Ow.of_own ho⟩, fun _ => hg⟩
    · by_cases hroom : n + m ≤ c
      · have hl : xs.length = n * k := hown.1
        have hnl := hr.1
        have hfit2 : n * k + news.length ≤ (xs ++ Z).length := by
          rw [hnl, ← Nat.add_mul]; exact Nat.le_trans (Nat.mul_le_mul_right k hroom) hfit
        have hrun := run_append_room (P := P) w t ty e i ht hi g n c (xs ++ Z).toArray hB ⟨bx, ox, none⟩ m cx news (by rw [hk]; exact hr.1) hnews h1 hroom (by rw [hk]; simpa using hfit2)
        refine ⟨_, _, _, hrun, ⟨by rw [List.length_append, hl, hnl, Nat.add_mul], .inr ⟨g, Z.drop news.length, rfl, hb, ?_, hroom, hcm, ?_⟩⟩, grown_row _ _ _, fun g hg => .inl hg, fun h' => absurd h' (by omega), fun h' => absurd h' (by omega)⟩
        · have e1 : (xs ++ Z).take (n * k) = xs := by rw [← hl]; exact List.take_left
          have e2 : (xs ++ Z).drop (n * k + news.length) = Z.drop news.length := by
            rw [← hl, List.drop_append, List.drop_of_length_le (by omega), List.nil_append]
            congr 1; omega
          have := hB.row (xs ++ news ++ Z.drop news.length).toArray
          rw [hk]
          simp only [e1, e2]
          exact this
        · simp only [List.length_append, List.length_drop] at hfit hfit2 ⊢; omega
      · obtain ⟨v', w', hrun, ho, hg⟩ := run_append_arg_grows (P := P) w t ty e i z k bytes ht hi hz hk hby hzs hk0 ⟨g, 0, none⟩ n c xs hown.1 (fun j u hu => by rw [add_zero_spot, Nat.zero_add]; exact (hown.cell rfl hu).1) ⟨bx, ox, none⟩ m cx news hr.1 hnews (by omega) h63 hbytes
        obtain ⟨A', c', rfl⟩ := own_slice ho
        exact ⟨A', c', w', hrun, Ow.of_own (own_base ho hbase), ⟨hg.os, hg.tape, hg.output, hg.size, fun k hk _ => hg.block k hk (by simp)⟩, fun g hg => .inr ((Ow.of_own ho).low g hg), fun _ => ⟨hg, Ow.of_own ho⟩, fun _ => hg⟩

theorem wpList_app2 {w : World} {ops : Array Oper} {rest : List Oper} {o : Oper} {a : Act} {Q : Exit → Act → World → Prop} (hgd : o.guard = none) (s x : Operand) (t : TypeId)
    (ho : o.op = .call { callee := .builtin .append, args := #[s, x], argTypes := #[t, t] })
    (base : Nat) (e : TypeId) (z : Value) (k bytes : Nat) (ht : P.underlying t = some (.slice e)) (hi : (P.info? e).map (fun i => (i.zero, i.size, i.bytes)) = some (some z, k, bytes)) (hzs : z.cells.size = k) (hk0 : 0 < k)
    (A : Option Addr) (n c : Nat) (xs : List Value) (hs : a.eval s = .slice A n c) (hown : Ow w base e k A n c xs)
    (B : Nat) (X : Option Addr) (cx m : Nat) (news : List Value) (hx : a.eval x = .slice X m cx) (hr : Rd w B X cx k m news) (h1 : ∀ u ∈ news, u.oneCell' = true)
    (h63 : n + m ≤ maxLen) (hbytes : (n + m) * bytes ≤ 140737488355328) (hbase : base ≤ w.heap.size)
    (h : ∀ A' c' w', Ow w' base e k A' (n + m) c' (xs ++ news) → w.grownBy w' (bk A) → (∀ g, bk A' = Option.some g → bk A = Option.some g ∨ w.heap.size ≤ g) → wpList P ops Q rest (a.put o.dst (.slice A' (n + m) c')) w') : wpList P ops Q (o :: rest) a w := by
  refine wpList_plain hgd fun K hK => ?_
  obtain ⟨i, hi0, hz, hk, hby⟩ := info_parts hi
  obtain ⟨A', c', w', hrun, h2, h3, h4, _⟩ := run_app (P := P) w t o.type e i z k bytes ht hi0 hz hk hby hzs hk0 hown hr h1 h63 hbytes hbase
  unfold Oper.wp execOp
  simp only [ho, resolve, invoke, builtin, Sem.run_bind, Sem.run_pure, Result.andThen_ok, List.map_toArray, List.map_cons, List.map_nil, hs, hx, hrun]
  exact hK _ _ (h A' c' w' h2 h3 h4)

/-- Where its capacity is its length: nothing old is written. -/
theorem wpList_appH {w : World} {ops : Array Oper} {rest : List Oper} {o : Oper} {a : Act} {Q : Exit → Act → World → Prop} (hgd : o.guard = none) (s x : Operand) (t : TypeId)
    (ho : o.op = .call { callee := .builtin .append, args := #[s, x], argTypes := #[t, t] })
    (base : Nat) (e : TypeId) (z : Value) (k bytes : Nat) (ht : P.underlying t = some (.slice e)) (hi : (P.info? e).map (fun i => (i.zero, i.size, i.bytes)) = some (some z, k, bytes)) (hzs : z.cells.size = k) (hk0 : 0 < k)
    (A : Option Addr) (n c : Nat) (xs : List Value) (hs : a.eval s = .slice A n c) (hown : Ow w base e k A n c xs)
    (B : Nat) (X : Option Addr) (cx m : Nat) (news : List Value) (hx : a.eval x = .slice X m cx) (hr : Rd w B X cx k m news) (h1 : ∀ u ∈ news, u.oneCell' = true)
    (h63 : n + m ≤ maxLen) (hbytes : (n + m) * bytes ≤ 140737488355328) (hbase : base ≤ w.heap.size) (hfull : c = n)
    (h : ∀ A' c' w', Ow w' base e k A' (n + m) c' (xs ++ news) → w.grownBy w' none → wpList P ops Q rest (a.put o.dst (.slice A' (n + m) c')) w') : wpList P ops Q (o :: rest) a w := by
  refine wpList_plain hgd fun K hK => ?_
  obtain ⟨i, hi0, hz, hk, hby⟩ := info_parts hi
  obtain ⟨A', c', w', hrun, h2, _, _, _, h3⟩ := run_app (P := P) w t o.type e i z k bytes ht hi0 hz hk hby hzs hk0 hown hr h1 h63 hbytes hbase
  unfold Oper.wp execOp
  simp only [ho, resolve, invoke, builtin, Sem.run_bind, Sem.run_pure, Result.andThen_ok, List.map_toArray, List.map_cons, List.map_nil, hs, hx, hrun]
  exact hK _ _ (h A' c' w' h2 (h3 hfull))

/-- Where it does not fit: the row is new. -/
theorem wpList_appG {w : World} {ops : Array Oper} {rest : List Oper} {o : Oper} {a : Act} {Q : Exit → Act → World → Prop} (hgd : o.guard = none) (s x : Operand) (t : TypeId)
    (ho : o.op = .call { callee := .builtin .append, args := #[s, x], argTypes := #[t, t] })
    (base : Nat) (e : TypeId) (z : Value) (k bytes : Nat) (ht : P.underlying t = some (.slice e)) (hi : (P.info? e).map (fun i => (i.zero, i.size, i.bytes)) = some (some z, k, bytes)) (hzs : z.cells.size = k) (hk0 : 0 < k)
    (A : Option Addr) (n c : Nat) (xs : List Value) (hs : a.eval s = .slice A n c) (hown : Ow w base e k A n c xs)
    (B : Nat) (X : Option Addr) (cx m : Nat) (news : List Value) (hx : a.eval x = .slice X m cx) (hr : Rd w B X cx k m news) (h1 : ∀ u ∈ news, u.oneCell' = true)
    (h63 : n + m ≤ maxLen) (hbytes : (n + m) * bytes ≤ 140737488355328) (hbase : base ≤ w.heap.size) (hfull : c < n + m)
    (h : ∀ A' c' w', Ow w' w.heap.size e k A' (n + m) c' (xs ++ news) → w.grownBy w' none → wpList P ops Q rest (a.put o.dst (.slice A' (n + m) c')) w') : wpList P ops Q (o :: rest) a w := by
  refine wpList_plain hgd fun K hK => ?_
  obtain ⟨i, hi0, hz, hk, hby⟩ := info_parts hi
  obtain ⟨A', c', w', hrun, _, _, _, h2, _⟩ := run_app (P := P) w t o.type e i z k bytes ht hi0 hz hk hby hzs hk0 hown hr h1 h63 hbytes hbase
  unfold Oper.wp execOp
  simp only [ho, resolve, invoke, builtin, Sem.run_bind, Sem.run_pure, Result.andThen_ok, List.map_toArray, List.map_cons, List.map_nil, hs, hx, hrun]
  exact hK _ _ (h A' c' w' (h2 hfull).2 (h2 hfull).1)

/-- 'l[:m:m]' ahead of its region. -/
theorem run_head {w : World} (t e : TypeId) {z : Option Value} {k bytes : Nat} (ht : P.underlying t = some (.slice e)) (hi : (P.info? e).map (fun i => (i.zero, i.size, i.bytes)) = some (z, k, bytes))
    (A : Option Addr) (n c m : Nat) (hm : m ≤ c) : (Instr.sliceAt t (.slice A n c) none (some (.int .i64 m)) (some (.int .i64 m))).run P w = .ok (.slice A m m) w := by
  obtain ⟨i, hi0, hzz⟩ := Option.map_eq_some_iff.1 hi
  have el : P.elem t = e := by simp [Program.elem, ht]
  have ht' : P.underlying t = some (.slice (P.elem t)) := by rw [el]; exact ht
  have hs : (sizeOf (P.elem t)).run P w = .ok k w := by rw [el]; simp [sizeOf, typeInfo, hi0]; simp only [Prod.mk.injEq] at hzz; exact hzz.2.1
  have h3 : (Instr.sliceAt t (.slice A n c) none (some (.int .i64 m)) (some (.int .i64 m))).run P w = (Instr.slice t (.slice A n c) none (some (.int .i64 m)) (some (.int .i64 m))).run P w := by
    simp [Instr.sliceAt, run_underlying ht]
  have h4 : (0 : Int) ≤ (m : Int) := by omega
  rw [h3]
  simp [Instr.slice, run_underlying ht', Instr.sliceBounds, run_sliceBound, hs, hm]
  intro _
  cases A <;> simp [Addr.add]
theorem run_headOp {w : World} {dst : Option Tmp} {t : TypeId} {x y z : Operand} {ty : TypeId} {pos : String} {after : Array Edge} {guard : Option (Nat × Bool)} {ρ : Operand → Value} (e : TypeId) {zz : Option Value} {k bytes : Nat} (ht : P.underlying t = some (.slice e)) (hi : (P.info? e).map (fun i => (i.zero, i.size, i.bytes)) = some (zz, k, bytes))
    {A : Option Addr} {n c m : Nat} (hm : m ≤ c) (hx : ρ x = .slice A n c) (hy : ρ y = .int .i64 m) (hz : ρ z = .int .i64 m) :
    (execOp ρ { dst, op := .slice t x none (some y) (some z), type := ty, pos, after, guard }).run P w = .ok (.value (.slice A m m)) w := by
  unfold execOp
  simp only [Option.map_none, Option.map_some, hx, hy, hz, Sem.run_bind, run_head (P := P) t e ht hi A n c m hm, Result.andThen_ok, Sem.run_pure]
end
end Go.Proofs.YtkckibcfanaglaaDoor

/- A slice of structs of one-cell fields (ints, bools, strings) that came in, as cells. No program is named here. -/
namespace Go.Proofs.YtkckibcfanaglaaDoor
open Go.RowKit Go.ChangeShapes Go.WideShapes Go.Deep

/-- Each cell is an int64. -/
def AllI (xs : List Value) : Prop := ∀ (q : Nat) (u : Value), xs[q]? = some u → ∃ x, u = .int .i64 x ∧ (Lit.int .i64 x).wf = true

section
variable {H : Type} {enc : TypeId × Value → H} {P : Program} {w : World} {base : Nat} {spare : Nat → Bool} {held : Bool}
/-- F j u: what is known of the cell of field j. -/
theorem open_flat {t e : TypeId} {fs : Array Field} {m : Nat} {fuel : Nat} {cs : List Value} {x : DataW H × List MemPlace} (F : Nat → Value → Prop)
    (ht : P.underlying t = some (.slice e)) (he : P.underlying e = some (.struct fs)) (hC : P.cellsOf e = m) (hm : fs.size = m) (hm0 : 0 < m)
    (hF : ∀ (j : Nat) (f : Field), fs[j]? = some f → P.cellsOf f.type = 1 ∧ f.offset = j ∧ ∀ (fuel : Nat) (cs : List Value) (x : DataW H × List MemPlace), DataW.trod enc P w base spare held fuel f.type cs = some x → ∃ u, cs = [u] ∧ F j u)
    (h : DataW.trod enc P w base spare held fuel t cs = some x) :
    ∃ (A : Option Addr) (n c : Nat) (xs : List Value), cs = [.slice A n c] ∧ Rd w w.heap.size A c m n xs ∧ ∀ (i j : Nat) (u : Value), j < m → xs[i * m + j]? = some u → F j u := by
  rcases open_slice ht h with ⟨rfl, _⟩ | ⟨a, len, cap, k, q, D, Pl, hcs, hb, hl, hc, hk, hx, hi⟩
  · exact ⟨none, 0, 0, [], rfl, Rd.nil _ _ _, fun i j u _ hu => by simp at hu⟩
  · have hle : len ≤ k := by rw [hk]; split <;> omega
    have each : ∀ i j, i < len → j < m → ∃ u, w.cell? ((a.add (i * m)).add j) = some u ∧ F j u := by
      intro i j hil hj
      obtain ⟨cs', hc', ht'⟩ := hi i (by omega)
      rw [hC] at hc'
      obtain ⟨_, hcl, hat⟩ := World.cells?_some hc'
      obtain ⟨ys, n', _, _, _, hyl, hf⟩ := DataW.trod_struct he ht'
      have hj' : j < fs.size := by omega
      obtain ⟨h1, h2, h3⟩ := hF j fs[j] (Array.getElem?_eq_getElem hj')
      have hy := hf j fs[j] (Array.getElem?_eq_getElem hj')
      rw [List.getElem?_eq_getElem (show j < ys.length by omega)] at hy
      obtain ⟨u, hu, hFu⟩ := h3 _ _ _ hy
      rw [h1, h2] at hu
      refine ⟨u, (hat j hj).trans ?_, hFu⟩
      have := congrArg (fun l => l[0]?) hu
      simpa [List.getElem?_take, List.getElem?_drop] using this
    by_cases hp : 0 < len
    · obtain ⟨u0, e0, _⟩ := each 0 0 hp hm0
      obtain ⟨b, o, spot⟩ := a
      have hs : spot = none := by simpa [Addr.add] using World.cell?_spot e0
      subst hs
      have cel : ∀ i j, i < len → j < m → ∃ u, w.cell? ⟨b, o + (i * m + j), none⟩ = some u ∧ F j u := by
        intro i j hil hj
        obtain ⟨u, hu, hFu⟩ := each i j hil hj
        rw [add_zero_spot, add_zero_spot, Nat.add_assoc] at hu
        exact ⟨u, hu, hFu⟩
      refine ⟨some ⟨b, o, none⟩, len, cap, (List.range (len * m)).map (fun q => (w.cell? ⟨b, o + q, none⟩).getD undef), hcs, ⟨by simp, hl, hc, (fun hh => by cases hh), fun _ => ⟨b, o, rfl, ?_, fun j u hu => ?_⟩⟩, fun i j u hj hu => ?_⟩
      · rw [add_zero_spot, add_zero_spot] at e0
        exact World.block_lt_of_cell? w _ e0
      · rw [List.getElem?_map] at hu
        by_cases hj : j < len * m
        · rw [List.getElem?_range hj] at hu
          have d1 : j / m < len := Nat.div_lt_of_lt_mul (by rw [Nat.mul_comm]; exact hj)
          have d2 : j % m < m := Nat.mod_lt _ hm0
          obtain ⟨v, hv, _⟩ := cel (j / m) (j % m) d1 d2
          rw [show j / m * m + j % m = j by rw [Nat.mul_comm]; exact Nat.div_add_mod j m] at hv
          simp [hv] at hu
          rw [hv, hu]
        · rw [List.getElem?_eq_none (by simpa using hj)] at hu
          cases hu
      · rw [List.getElem?_map] at hu
        by_cases hq : i * m + j < len * m
        · rw [List.getElem?_range hq] at hu
          have d1 : i < len := by
            rcases Nat.lt_or_ge i len with h | h
            · exact h
            · have := Nat.mul_le_mul_right m h; omega
          obtain ⟨v, hv, hFv⟩ := cel i j d1 hj
          simp [hv] at hu
          rw [← hu]; exact hFv
        · rw [List.getElem?_eq_none (by simpa using hq)] at hu
          cases hu
    · have : len = 0 := by omega
      subst this
      exact ⟨some a, 0, cap, [], hcs, ⟨by simp, hl, hc, (fun hh => by cases hh), fun h => by omega⟩, fun i j u _ hu => by simp at hu⟩

/-- Structs of int64s. -/
theorem open_flatI {t e : TypeId} {fs : Array Field} {m : Nat} {fuel : Nat} {cs : List Value} {x : DataW H × List MemPlace}
    (ht : P.underlying t = some (.slice e)) (he : P.underlying e = some (.struct fs)) (hC : P.cellsOf e = m) (hm : fs.size = m) (hm0 : 0 < m)
    (hF : ∀ (j : Nat) (f : Field), fs[j]? = some f → P.underlying f.type = some (.int .i64) ∧ P.cellsOf f.type = 1 ∧ f.offset = j)
    (h : DataW.trod enc P w base spare held fuel t cs = some x) :
    ∃ (A : Option Addr) (n c : Nat) (xs : List Value), cs = [.slice A n c] ∧ Rd w w.heap.size A c m n xs ∧ AllI xs := by
  obtain ⟨A, n, c, xs, e1, e2, e3⟩ := open_flat (F := fun _ u => ∃ x, u = .int .i64 x ∧ (Lit.int .i64 x).wf = true) ht he hC hm hm0 (fun j f hf => by
    obtain ⟨h1, h2, h3⟩ := hF j f hf
    refine ⟨h2, h3, fun fuel cs x hx => ?_⟩
    obtain ⟨n, hn, _, hw⟩ := DataW.trod_int h1 hx
    exact ⟨_, hn, n, rfl, hw⟩) h
  refine ⟨A, n, c, xs, e1, e2, fun q u hq => e3 (q / m) (q % m) u (Nat.mod_lt _ hm0) ?_⟩
  rw [show q / m * m + q % m = q by rw [Nat.mul_comm]; exact Nat.div_add_mod q m]
  exact hq
end

section
variable {w : World} {B c m n : Nat} {A : Option Addr} {xs : List Value}
/-- The cells of the struct at place i. -/
theorem Rd.flat (h : Rd w B A c m n xs) {i : Nat} (hi : i < n) (hm : 0 < m) : ∃ b o, A = some ⟨b, o, none⟩ ∧ b < B ∧ ∀ j, j < m → ∃ u, xs[i * m + j]? = some u ∧ w.cell? ⟨b, o + i * m + j, none⟩ = some u := by
  have hlt : i * m + m ≤ n * m := by rw [← Nat.succ_mul]; exact Nat.mul_le_mul_right m hi
  obtain ⟨b, o, hA, hb, hc⟩ := h.2.2.2.2 (by omega)
  refine ⟨b, o, hA, hb, fun j hj => ?_⟩
  have hl : i * m + j < xs.length := by rw [h.len]; omega
  exact ⟨_, List.getElem?_eq_getElem hl, by rw [Nat.add_assoc]; exact hc _ _ (List.getElem?_eq_getElem hl)⟩
theorem Rd.flatI (h : Rd w B A c m n xs) (hI : AllI xs) {i : Nat} (hi : i < n) (hm : 0 < m) : ∃ b o, A = some ⟨b, o, none⟩ ∧ b < B ∧ ∀ j, j < m → ∃ x, w.cell? ⟨b, o + i * m + j, none⟩ = some (.int .i64 x) := by
  obtain ⟨b, o, hA, hb, hc⟩ := h.flat hi hm
  refine ⟨b, o, hA, hb, fun j hj => ?_⟩
  obtain ⟨u, hu, hcell⟩ := hc j hj
  obtain ⟨x, rfl, _⟩ := hI _ _ hu
  exact ⟨x, hcell⟩
end
end Go.Proofs.YtkckibcfanaglaaDoor

/- Entries as cells, by value and in slices; what is known of those that came in. No program is named here. -/
namespace Go.Proofs.YtkckibcfanaglaaDoor
open Go.RowKit Go.ChangeShapes Go.WideShapes

/-- An entry's cells; an entry by value; a list's cells. -/
def ecs (e : Ent) : List Value := [.int .i64 e.fr, .int .i64 e.boot, .int .i64 e.seq, .int .i64 e.ord, .int .i64 e.lev, .int .i64 e.stamp, .string e.data]
def ev (e : Ent) : Value := .agg #[.int .i64 e.fr, .int .i64 e.boot, .int .i64 e.seq, .int .i64 e.ord, .int .i64 e.lev, .int .i64 e.stamp, .string e.data]
def els : List Ent → List Value
  | [] => []
  | e :: r => ecs e ++ els r
theorem ecs_length (e : Ent) : (ecs e).length = 7 := rfl
theorem els_length (l : List Ent) : (els l).length = l.length * 7 := by
  induction l with
  | nil => rfl
  | cons e r ih => simp only [els, List.length_append, ecs_length, ih, List.length_cons]; omega
theorem els_append (a b : List Ent) : els (a ++ b) = els a ++ els b := by
  induction a with
  | nil => rfl
  | cons x r ih => simp [els, ih]
theorem els_one (l : List Ent) : ∀ u ∈ els l, u.oneCell' = true := by
  induction l with
  | nil => intro u h; simp [els] at h
  | cons e r ih =>
    intro u h
    rcases List.mem_append.1 h with h | h
    · simp only [ecs, List.mem_cons, List.not_mem_nil, or_false] at h
      rcases h with rfl | rfl | rfl | rfl | rfl | rfl | rfl <;> rfl
    · exact ih u h
theorem els_drop (l : List Ent) : ∀ i, (els l).drop (i * 7) = els (l.drop i) := by
  induction l with
  | nil => intro i; simp [els]
  | cons e r ih =>
    intro i
    cases i with
    | zero => simp
    | succ i =>
      have h := ih i
      show (ecs e ++ els r).drop ((i + 1) * 7) = els (r.drop i)
      rw [← h, show (i + 1) * 7 = (ecs e).length + i * 7 by rw [ecs_length]; omega, ← List.drop_drop, List.drop_left]
theorem els_take (l : List Ent) : ∀ i, (els l).take (i * 7) = els (l.take i) := by
  induction l with
  | nil => intro i; simp [els]
  | cons e r ih =>
    intro i
    cases i with
    | zero => simp [els]
    | succ i =>
      have h := ih i
      show (ecs e ++ els r).take ((i + 1) * 7) = ecs e ++ els (r.take i)
      rw [← h, show (i + 1) * 7 = (ecs e).length + i * 7 by rw [ecs_length]; omega, List.take_add, List.take_left, List.drop_left]
theorem els_at {l : List Ent} {i : Nat} {e : Ent} (h : l[i]? = some e) {j : Nat} (hj : j < 7) : (els l)[i * 7 + j]? = (ecs e)[j]? := by
  obtain ⟨hi, he⟩ := List.getElem?_eq_some_iff.1 h
  have h1 := els_drop l i
  have h2 : l.drop i = e :: l.drop (i + 1) := by rw [List.drop_eq_getElem_cons hi, he]
  rw [h2] at h1
  have h3 := congrArg (fun q => q[j]?) h1
  simp only [List.getElem?_drop] at h3
  rw [h3]
  show (ecs e ++ els (l.drop (i + 1)))[j]? = _
  rw [List.getElem?_append_left (by rw [ecs_length]; omega)]

/-- What is known of an entry that came in. -/
structure EntOk (e : Ent) : Prop where
  fit : PEnt.Fit e
  sz : e.data.size ≤ maxLen

section
variable {w w' : World} {B c n : Nat} {A : Option Addr} {l : List Ent}
theorem Rd.elen (h : Rd w B A c 7 n (els l)) : l.length = n := by have := h.len; rw [els_length] at this; omega
/-- The cells of the entry at place i. -/
theorem Rd.ent (h : Rd w B A c 7 n (els l)) {i : Nat} (hi : i < n) : ∃ b o e, A = some ⟨b, o, none⟩ ∧ b < B ∧ l[i]? = some e ∧ e ∈ l ∧
    w.cell? ⟨b, o + i * 7, none⟩ = some (.int .i64 e.fr) ∧ w.cell? ⟨b, o + i * 7 + 1, none⟩ = some (.int .i64 e.boot) ∧ w.cell? ⟨b, o + i * 7 + 2, none⟩ = some (.int .i64 e.seq) ∧ w.cell? ⟨b, o + i * 7 + 3, none⟩ = some (.int .i64 e.ord) ∧
    w.cell? ⟨b, o + i * 7 + 4, none⟩ = some (.int .i64 e.lev) ∧ w.cell? ⟨b, o + i * 7 + 5, none⟩ = some (.int .i64 e.stamp) ∧ w.cell? ⟨b, o + i * 7 + 6, none⟩ = some (.string e.data) := by
  obtain ⟨b, o, hA, hb, hc⟩ := h.flat hi (by omega)
  have hl := h.elen
  have he : l[i]? = some l[i] := List.getElem?_eq_getElem (by omega)
  have g : ∀ j u, j < 7 → (ecs l[i])[j]? = some u → w.cell? ⟨b, o + i * 7 + j, none⟩ = some u := by
    intro j u hj hu
    obtain ⟨v, hv, hcell⟩ := hc j hj
    rw [els_at he hj, hu] at hv
    rw [hcell, hv]
  exact ⟨b, o, l[i], hA, hb, he, List.getElem_mem _, g 0 _ (by omega) rfl, g 1 _ (by omega) rfl, g 2 _ (by omega) rfl, g 3 _ (by omega) rfl, g 4 _ (by omega) rfl, g 5 _ (by omega) rfl, g 6 _ (by omega) rfl⟩
/-- A block that holds an entry. -/
theorem Blk.ent {g : Nat} {t : TypeId} {e : Ent} (h : Blk w g t (ecs e)) :
    w.cell? ⟨g, 0, none⟩ = some (.int .i64 e.fr) ∧ w.cell? ⟨g, 1, none⟩ = some (.int .i64 e.boot) ∧ w.cell? ⟨g, 2, none⟩ = some (.int .i64 e.seq) ∧ w.cell? ⟨g, 3, none⟩ = some (.int .i64 e.ord) ∧
    w.cell? ⟨g, 4, none⟩ = some (.int .i64 e.lev) ∧ w.cell? ⟨g, 5, none⟩ = some (.int .i64 e.stamp) ∧ w.cell? ⟨g, 6, none⟩ = some (.string e.data) :=
  ⟨h.cell (i := 0) rfl, h.cell (i := 1) rfl, h.cell (i := 2) rfl, h.cell (i := 3) rfl, h.cell (i := 4) rfl, h.cell (i := 5) rfl, h.cell (i := 6) rfl⟩
theorem Blk.newEnt (w : World) (t : TypeId) (e : Ent) : Blk (w.alloc (.cells #[.int .i64 e.fr, .int .i64 e.boot, .int .i64 e.seq, .int .i64 e.ord, .int .i64 e.lev, .int .i64 e.stamp, .string e.data] t)) w.heap.size t (ecs e) := Blk.new w _ t
end

/-- What is known of the cell of field j. -/
def FE (j : Nat) (u : Value) : Prop := (j < 6 → ∃ x, u = .int .i64 x ∧ (Lit.int .i64 x).wf = true) ∧ (j = 6 → ∃ s : ByteArray, u = .string s ∧ s.size ≤ maxLen)
theorem ent_of7 {a0 a1 a2 a3 a4 a5 a6 : Value} (h0 : FE 0 a0) (h1 : FE 1 a1) (h2 : FE 2 a2) (h3 : FE 3 a3) (h4 : FE 4 a4) (h5 : FE 5 a5) (h6 : FE 6 a6) : ∃ e, [a0, a1, a2, a3, a4, a5, a6] = ecs e ∧ EntOk e := by
  obtain ⟨x0, rfl, w0⟩ := h0.1 (by omega)
  obtain ⟨x1, rfl, w1⟩ := h1.1 (by omega)
  obtain ⟨x2, rfl, w2⟩ := h2.1 (by omega)
  obtain ⟨x3, rfl, w3⟩ := h3.1 (by omega)
  obtain ⟨x4, rfl, w4⟩ := h4.1 (by omega)
  obtain ⟨x5, rfl, w5⟩ := h5.1 (by omega)
  obtain ⟨s, rfl, hs⟩ := h6.2 rfl
  exact ⟨⟨x0, x1, x2, x3, x4, x5, s⟩, rfl, ⟨bounds_i64 w0, bounds_i64 w1, bounds_i64 w2, bounds_i64 w3, bounds_i64 w4, bounds_i64 w5⟩, hs⟩
theorem ents_of : ∀ (n : Nat) (xs : List Value), xs.length = n * 7 → (∀ (i j : Nat) (u : Value), j < 7 → xs[i * 7 + j]? = some u → FE j u) → ∃ l, xs = els l ∧ ∀ e ∈ l, EntOk e
  | 0, xs, h, _ => ⟨[], List.eq_nil_of_length_eq_zero (by omega), by simp⟩
  | n + 1, xs, h, hF => by
    match xs, h with
    | a0 :: a1 :: a2 :: a3 :: a4 :: a5 :: a6 :: r, h =>
      obtain ⟨l, hl, ho⟩ := ents_of n r (by simp only [List.length_cons] at h; omega) (fun i j u hj hu => hF (i + 1) j u hj (by
        rw [show (i + 1) * 7 + j = i * 7 + j + 7 by omega]; exact hu))
      obtain ⟨e, he, hok⟩ := ent_of7 (hF 0 0 a0 (by omega) rfl) (hF 0 1 a1 (by omega) rfl) (hF 0 2 a2 (by omega) rfl) (hF 0 3 a3 (by omega) rfl) (hF 0 4 a4 (by omega) rfl) (hF 0 5 a5 (by omega) rfl) (hF 0 6 a6 (by omega) rfl)
      refine ⟨e :: l, ?_, ?_⟩
      · show _ = ecs e ++ els l
        rw [← he, ← hl]; rfl
      · intro x hx
        rcases List.mem_cons.1 hx with rfl | hx
        · exact hok
        · exact ho x hx
    | [], h => simp at h
    | [_], h => simp only [List.length_cons, List.length_nil] at h; omega
    | [_, _], h => simp only [List.length_cons, List.length_nil] at h; omega
    | [_, _, _], h => simp only [List.length_cons, List.length_nil] at h; omega
    | [_, _, _, _], h => simp only [List.length_cons, List.length_nil] at h; omega
    | [_, _, _, _, _], h => simp only [List.length_cons, List.length_nil] at h; omega
    | [_, _, _, _, _, _], h => simp only [List.length_cons, List.length_nil] at h; omega

section
variable {H : Type} {enc : TypeId × Value → H} {P : Program} {w : World} {base : Nat} {spare : Nat → Bool} {held : Bool}
/-- How an entry's fields lie. -/
def EntT (P : Program) (fs : Array Field) : Prop := fs.size = 7 ∧ ∀ (j : Nat) (f : Field), fs[j]? = some f → P.cellsOf f.type = 1 ∧ f.offset = j ∧ (j < 6 → P.underlying f.type = some (.int .i64)) ∧ (j = 6 → P.underlying f.type = some .string)
theorem EntT.field {fs : Array Field} (hT : EntT P fs) {j : Nat} {f : Field} (hj : fs[j]? = some f) {fuel : Nat} {cs : List Value} {x : DataW H × List MemPlace} (h : DataW.trod enc P w base spare held fuel f.type cs = some x) : ∃ u, cs = [u] ∧ FE j u := by
  obtain ⟨_, _, h2, h3⟩ := hT.2 j f hj
  have hj7 : j < 7 := by have := (Array.getElem?_eq_some_iff.1 hj).1; rw [hT.1] at this; exact this
  by_cases h6 : j = 6
  · obtain ⟨s, hs, _, hm⟩ := DataW.trod_string (h3 h6) h
    exact ⟨_, hs, fun h' => by omega, fun _ => ⟨s, rfl, hm⟩⟩
  · obtain ⟨n, hn, _, hw⟩ := DataW.trod_int (h2 (by omega)) h
    exact ⟨_, hn, fun _ => ⟨n, rfl, hw⟩, fun h' => absurd h' h6⟩
/-- A slice of entries that came in. -/
theorem open_ents {t e : TypeId} {fs : Array Field} {fuel : Nat} {cs : List Value} {x : DataW H × List MemPlace} (ht : P.underlying t = some (.slice e)) (he : P.underlying e = some (.struct fs)) (hC : P.cellsOf e = 7) (hT : EntT P fs)
    (h : DataW.trod enc P w base spare held fuel t cs = some x) : ∃ (A : Option Addr) (n c : Nat) (l : List Ent), cs = [.slice A n c] ∧ Rd w w.heap.size A c 7 n (els l) ∧ ∀ e ∈ l, EntOk e := by
  obtain ⟨A, n, c, xs, e1, e2, e3⟩ := open_flat (F := FE) ht he hC hT.1 (by omega) (fun j f hf => ⟨(hT.2 j f hf).1, (hT.2 j f hf).2.1, fun fuel cs x hx => hT.field hf hx⟩) h
  obtain ⟨l, rfl, hl⟩ := ents_of n xs e2.len e3
  exact ⟨A, n, c, l, e1, e2, hl⟩
/-- An entry by value that came in. -/
theorem open_ent {r : Reach} {b0 : Nat} {t : TypeId} {fs : Array Field} {v : Value} {d : DataW H} {ps : List MemPlace} (ht : P.underlying t = some (.struct fs)) (hC : P.cellsOf t = 7) (hT : EntT P fs)
    (hval : Value.okWide P w r b0 t v) (hd : DataW.Trod enc P w base spare held t v d ps) : ∃ e, v = ev e ∧ EntOk e := by
  obtain ⟨cs, rfl, hsz⟩ := okWide_struct ht hval
  obtain ⟨fuel, hf⟩ := hd
  obtain ⟨xs, n, rfl, hx, hl, hxl, hfs⟩ := DataW.trod_struct ht hf
  have hl7 : cs.toList.length = 1 * 7 := by rw [hC] at hl; exact hl
  obtain ⟨l, hc, ho⟩ := ents_of 1 cs.toList hl7 (fun i j u hj hu => by
    have hlt := (List.getElem?_eq_some_iff.1 hu).1
    have hi : i = 0 := by omega
    subst hi
    rw [Nat.zero_mul, Nat.zero_add] at hu hlt
    have hjf : j < fs.size := by rw [hT.1]; exact hj
    have hy := hfs j fs[j] (Array.getElem?_eq_getElem hjf)
    rw [List.getElem?_eq_getElem (show j < xs.length by omega)] at hy
    obtain ⟨v, hv, hFv⟩ := hT.field (Array.getElem?_eq_getElem hjf) hy
    obtain ⟨h1, h2, _⟩ := hT.2 j fs[j] (Array.getElem?_eq_getElem hjf)
    rw [h1, h2] at hv
    have h3 := congrArg (fun q => q[0]?) hv
    simp only [List.getElem?_take, List.getElem?_drop] at h3
    simp only [Nat.lt_succ_self, if_true, Nat.add_zero, List.getElem?_cons_zero] at h3
    have : some u = some v := hu.symm.trans h3
    exact Option.some.inj this ▸ hFv)
  match l, hc, ho with
  | [e], hc, ho =>
    refine ⟨e, ?_, ho e (List.mem_singleton.2 rfl)⟩
    rw [ev, ← Array.toArray_toList (xs := cs), hc]; rfl
  | [], hc, _ => rw [hc] at hl7; simp [els] at hl7
  | a :: b :: r, hc, _ => rw [hc, els_length] at hl7; simp only [List.length_cons] at hl7; omega
end
end Go.Proofs.YtkckibcfanaglaaDoor

/- The zero entry; an entry's cells in the program. -/
namespace Go.Proofs.YtkckibcfanaglaaDoor
open Go.RowKit

/-- No entry: all zero. -/
def zeroE : Ent := ⟨0, 0, 0, 0, 0, 0, ⟨#[]⟩⟩
theorem ent_info : (Tryd.prog.info? 53).map (fun i => (i.zero, i.size, i.bytes)) = some (some (ev zeroE), 7, 64) := by kernel_rfl

end Go.Proofs.YtkckibcfanaglaaDoor

/- A region that draws its order where several writes or calls may come up: each of them is walked. No program is named here. -/
namespace Go.Proofs.YtkckibcfanaglaaDoor
open Go.RowKit

section
variable {P : Program} {ops : Array Oper} {Q : Exit → Act → World → Prop}

/-- What is asked where number i comes up. -/
def Pk (P : Program) (ops : Array Oper) (Q : Exit → Act → World → Prop) (B n : Nat) (listed : Array Bool) (a : Act) (w : World) (i : Nat) : Prop :=
  wpOp P ops (NoPanic Q) i (fun a' w' => Below B w w' ∧ wpAnyH P .any ops (NoPanic Q) (Below B w) n (listed.setIfInBounds i true) a' w') a w

theorem Hb.two {B n : Nat} {listed : Array Bool} {a : Act} {w : World} (i j : Nat) (h1 : Pk P ops Q B n listed a w i) (h2 : Pk P ops Q B n listed a w j) (hr : Region.ready .any ops listed = [i, j] := by kernel_rfl) : Hb P ops Q B (n + 1) listed a w := by
  refine wpAnyH_all hr (by simp) fun x hx => ?_
  simp only [List.mem_cons, List.not_mem_nil, or_false] at hx
  rcases hx with rfl | rfl
  · exact h1
  · exact h2
theorem Hb.three {B n : Nat} {listed : Array Bool} {a : Act} {w : World} (i j k : Nat) (h1 : Pk P ops Q B n listed a w i) (h2 : Pk P ops Q B n listed a w j) (h3 : Pk P ops Q B n listed a w k) (hr : Region.ready .any ops listed = [i, j, k] := by kernel_rfl) : Hb P ops Q B (n + 1) listed a w := by
  refine wpAnyH_all hr (by simp) fun x hx => ?_
  simp only [List.mem_cons, List.not_mem_nil, or_false] at hx
  rcases hx with rfl | rfl | rfl
  · exact h1
  · exact h2
  · exact h3

theorem Hb.pick {B n : Nat} {listed : Array Bool} {a : Act} {w : World} {o : Oper} (i : Nat) (d : Option Nat) (hi : ops[i]? = some o)
    (h : wpList P ops (Nx Q fun a' w' => Below B w w' ∧ ∃ B', B ≤ B' ∧ Hb P ops Q B' n (listed.setIfInBounds i true) a' w') [{ o with guard := none, dst := d }] a w)
    (hw : Region.wanted o (yielded ops a.tmps) = true := by rfl) (hd : o.dst = d := by rfl) : Pk P ops Q B n listed a w i := by
  subst hd
  unfold Pk wpOp
  simp only [hi, hw, if_true]
  have he : execOp a.eval { o with guard := none } = execOp a.eval o := rfl
  unfold wpList at h
  have hw' : Region.wanted { o with guard := none } (yielded ops a.tmps) = true := rfl
  rw [if_pos hw'] at h
  rcases h with h | ⟨h, q⟩
  · refine .inl ?_
    unfold Oper.wp at *
    rw [he] at h
    generalize (execOp a.eval o).run P w = r at *
    have step : ∀ a' w', wpList P ops (Nx Q fun a' w' => Below B w w' ∧ ∃ B', B ≤ B' ∧ Hb P ops Q B' n (listed.setIfInBounds i true) a' w') [] a' w' → Below B w w' ∧ wpAnyH P .any ops (NoPanic Q) (Below B w) n (listed.setIfInBounds i true) a' w' := by
      rintro a' w' ⟨hb, B', hB, hh⟩
      exact ⟨hb, hh.on hb hB⟩
    cases r with
    | ok n w' =>
      cases n <;> simp only [Oper.upon] at h ⊢ <;>
        first
          | exact step _ _ h
          | exact Calls.mono h (fun e w'' he => by
              cases e
              · exact step _ _ he
              · exact he
              · exact he)
          | exact Rows.mono h (fun _ _ he => step _ _ he)
    | halt x w' => cases x <;> simp only [Oper.upon] at h ⊢ <;> exact h
  · exact .inr ⟨h, q⟩

theorem Hb.pickCall {B n : Nat} {listed : Array Bool} {a : Act} {w : World} {o : Oper} {f : FuncId} {args : Array Value} (i d : Nat) (hi : ops[i]? = some o)
    (h : Calls P f args w fun e w' => ∃ v a', e = .returned v ∧ a.put (some d) v = a' ∧ Below B w w' ∧ ∃ B', B ≤ B' ∧ Hb P ops Q B' n (listed.setIfInBounds i true) a' w')
    (hrun : (execOp a.eval o).run P w = .ok (.enter f args) w)
    (hw : Region.wanted o (yielded ops a.tmps) = true := by rfl) (hd : o.dst = some d := by rfl) : Pk P ops Q B n listed a w i := by
  rw [← hd] at h
  unfold Pk wpOp
  simp only [hi, hw, if_true]
  refine .inl ?_
  unfold Oper.wp
  rw [hrun]
  refine h.mono fun e w' => ?_
  rintro ⟨v, a', rfl, rfl, hb, B', hB, hh⟩
  exact ⟨hb, hh.on hb hB⟩

/-- A new zero variable, said by the caller. -/
theorem wpList_runTo' {rest : List Oper} {o : Oper} {a : Act} {w : World} (hg : o.guard = none) (v : Value) (w' : World) (hrun : (execOp a.eval o).run P w = .ok (.value v) w')
    (h : wpList P ops Q rest (a.put o.dst v) w') : wpList P ops Q (o :: rest) a w := by
  refine wpList_plain hg fun K hK => ?_
  unfold Oper.wp
  rw [hrun, Oper.upon_value]
  exact hK _ _ h
end
end Go.Proofs.YtkckibcfanaglaaDoor

/- An entry loaded in a region that draws. -/
namespace Go.Proofs.YtkckibcfanaglaaDoor
open Go.RowKit

theorem rangeAt_below {w w' : World} {B b o : Nat} {xs : List Value} (h : w.rangeAt b o xs) (hb : Below B w w') (hlt : b < B) : w'.rangeAt b o xs := fun j v hv => (hb.cell (p := ⟨b, o + j, none⟩) hlt).trans (h j v hv)
theorem Blk.range {w : World} {g : Nat} {t : TypeId} {xs : List Value} (h : Blk w g t xs) : w.rangeAt g 0 xs := fun j v hv => by rw [Nat.zero_add]; exact h.cell hv
/-- An entry is loaded, in a region that draws. -/
theorem run_loadE {w : World} {dst : Option Tmp} {x : Operand} {ty : TypeId} {pos : String} {after : Array Edge} {guard : Option (Nat × Bool)} {ρ : Operand → Value} {b o : Nat} {e : Ent}
    (hr : w.rangeAt b o (ecs e)) (hx : ρ x = .pointer (some ⟨b, o, none⟩)) :
    (execOp ρ { dst, op := .load 53 x, type := ty, pos, after, guard }).run Tryd.prog w = .ok (.value (ev e)) w := by
  have := run_loadAt_mid (P := Tryd.prog) w b o 53 (ecs e) _ hr Tryd.underlying53 rfl (by kernel_rfl)
  unfold execOp
  simp only [hx, Sem.run_bind, this, Result.andThen_ok, Sem.run_pure]
  rfl

end Go.Proofs.YtkckibcfanaglaaDoor

/- Messages as cells, by value; what is known of one that came in. No program is named here. -/
namespace Go.Proofs.YtkckibcfanaglaaDoor
open Go.RowKit Go.ChangeShapes Go.WideShapes

/-- A message's cells, its entries at A; a message by value; its numbers by value. -/
def mcs (m : Msg) (A : Option Addr) (c : Nat) : List Value := [.int .i64 m.kind, .int .i64 m.fr, .int .i64 m.dst, .int .i64 m.boot, .int .i64 m.view, .int .i64 m.last, .int .i64 m.mem, .int .i64 m.pos, .slice A m.es.length c, .int .i64 m.com, .int .i64 m.num, .int .i64 m.clk, .bool m.yes]
def mv (m : Msg) (A : Option Addr) (c : Nat) : Value := .agg #[.int .i64 m.kind, .int .i64 m.fr, .int .i64 m.dst, .int .i64 m.boot, .int .i64 m.view, .int .i64 m.last, .int .i64 m.mem, .int .i64 m.pos, .slice A m.es.length c, .int .i64 m.com, .int .i64 m.num, .int .i64 m.clk, .bool m.yes]
theorem mv_mcs (m : Msg) (A : Option Addr) (c : Nat) : mv m A c = .agg (mcs m A c).toArray := rfl
def zeroM : Msg := ⟨0, 0, 0, 0, 0, 0, 0, 0, [], 0, 0, 0, false⟩
/-- Thirteen numbers by value; a message's. -/
def nv13 (x : List Int) : Value := .agg (x.map (Value.int .i64)).toArray

/-- What is known of a message that came in. -/
structure MsgOk (m : Msg) : Prop where
  f0 : -9223372036854775808 ≤ m.kind ∧ m.kind ≤ 9223372036854775807
  f1 : -9223372036854775808 ≤ m.fr ∧ m.fr ≤ 9223372036854775807
  f2 : -9223372036854775808 ≤ m.dst ∧ m.dst ≤ 9223372036854775807
  f3 : -9223372036854775808 ≤ m.boot ∧ m.boot ≤ 9223372036854775807
  f4 : -9223372036854775808 ≤ m.view ∧ m.view ≤ 9223372036854775807
  f5 : -9223372036854775808 ≤ m.last ∧ m.last ≤ 9223372036854775807
  f6 : -9223372036854775808 ≤ m.mem ∧ m.mem ≤ 9223372036854775807
  f7 : -9223372036854775808 ≤ m.pos ∧ m.pos ≤ 9223372036854775807
  f9 : -9223372036854775808 ≤ m.com ∧ m.com ≤ 9223372036854775807
  f10 : -9223372036854775808 ≤ m.num ∧ m.num ≤ 9223372036854775807
  f11 : -9223372036854775808 ≤ m.clk ∧ m.clk ≤ 9223372036854775807
  ents : ∀ e ∈ m.es, EntOk e

section
variable {w w' : World} {g : Nat} {t : TypeId} {m : Msg} {A : Option Addr} {c : Nat}
/-- The cells of a block that holds a message. -/
theorem Blk.msg (h : Blk w g t (mcs m A c)) :
    w.cell? ⟨g, 0, none⟩ = some (.int .i64 m.kind) ∧ w.cell? ⟨g, 1, none⟩ = some (.int .i64 m.fr) ∧ w.cell? ⟨g, 2, none⟩ = some (.int .i64 m.dst) ∧ w.cell? ⟨g, 3, none⟩ = some (.int .i64 m.boot) ∧ w.cell? ⟨g, 4, none⟩ = some (.int .i64 m.view) ∧
    w.cell? ⟨g, 5, none⟩ = some (.int .i64 m.last) ∧ w.cell? ⟨g, 6, none⟩ = some (.int .i64 m.mem) ∧ w.cell? ⟨g, 7, none⟩ = some (.int .i64 m.pos) ∧ w.cell? ⟨g, 8, none⟩ = some (.slice A m.es.length c) ∧ w.cell? ⟨g, 9, none⟩ = some (.int .i64 m.com) ∧
    w.cell? ⟨g, 10, none⟩ = some (.int .i64 m.num) ∧ w.cell? ⟨g, 11, none⟩ = some (.int .i64 m.clk) ∧ w.cell? ⟨g, 12, none⟩ = some (.bool m.yes) :=
  ⟨h.cell (i := 0) rfl, h.cell (i := 1) rfl, h.cell (i := 2) rfl, h.cell (i := 3) rfl, h.cell (i := 4) rfl, h.cell (i := 5) rfl, h.cell (i := 6) rfl, h.cell (i := 7) rfl, h.cell (i := 8) rfl, h.cell (i := 9) rfl, h.cell (i := 10) rfl, h.cell (i := 11) rfl, h.cell (i := 12) rfl⟩
end

/-- What is known of the cell of field j. -/
def FM (w : World) (j : Nat) (u : Value) : Prop := (j ≠ 8 → j ≠ 12 → ∃ x, u = .int .i64 x ∧ (Lit.int .i64 x).wf = true) ∧ (j = 8 → ∃ (A : Option Addr) (n c : Nat) (l : List Ent), u = .slice A n c ∧ Rd w w.heap.size A c 7 n (els l) ∧ ∀ e ∈ l, EntOk e) ∧ (j = 12 → ∃ b, u = .bool b)
theorem msg_of {w : World} {cs : List Value} (hl : cs.length = 13) (h : ∀ (j : Nat) (u : Value), cs[j]? = some u → FM w j u) : ∃ (m : Msg) (A : Option Addr) (c : Nat), cs = mcs m A c ∧ Rd w w.heap.size A c 7 m.es.length (els m.es) ∧ MsgOk m := by
  match cs, hl with
  | [a0, a1, a2, a3, a4, a5, a6, a7, a8, a9, a10, a11, a12], _ =>
    obtain ⟨x0, rfl, w0⟩ := (h 0 a0 rfl).1 (by omega) (by omega)
    obtain ⟨x1, rfl, w1⟩ := (h 1 a1 rfl).1 (by omega) (by omega)
    obtain ⟨x2, rfl, w2⟩ := (h 2 a2 rfl).1 (by omega) (by omega)
    obtain ⟨x3, rfl, w3⟩ := (h 3 a3 rfl).1 (by omega) (by omega)
    obtain ⟨x4, rfl, w4⟩ := (h 4 a4 rfl).1 (by omega) (by omega)
    obtain ⟨x5, rfl, w5⟩ := (h 5 a5 rfl).1 (by omega) (by omega)
    obtain ⟨x6, rfl, w6⟩ := (h 6 a6 rfl).1 (by omega) (by omega)
    obtain ⟨x7, rfl, w7⟩ := (h 7 a7 rfl).1 (by omega) (by omega)
    obtain ⟨A, n, c, l, rfl, hr, ho⟩ := (h 8 a8 rfl).2.1 rfl
    obtain ⟨x9, rfl, w9⟩ := (h 9 a9 rfl).1 (by omega) (by omega)
    obtain ⟨x10, rfl, w10⟩ := (h 10 a10 rfl).1 (by omega) (by omega)
    obtain ⟨x11, rfl, w11⟩ := (h 11 a11 rfl).1 (by omega) (by omega)
    obtain ⟨b, rfl⟩ := (h 12 a12 rfl).2.2 rfl
    have hn := hr.elen
    subst hn
    exact ⟨⟨x0, x1, x2, x3, x4, x5, x6, x7, l, x9, x10, x11, b⟩, A, c, rfl, hr, ⟨bounds_i64 w0, bounds_i64 w1, bounds_i64 w2, bounds_i64 w3, bounds_i64 w4, bounds_i64 w5, bounds_i64 w6, bounds_i64 w7, bounds_i64 w9, bounds_i64 w10, bounds_i64 w11, ho⟩⟩

section
variable {H : Type} {enc : TypeId × Value → H} {P : Program} {w : World} {base : Nat} {spare : Nat → Bool} {held : Bool}
/-- How a message's fields lie. -/
def MsgT (P : Program) (fs : Array Field) (E : TypeId) : Prop := fs.size = 13 ∧ ∀ (j : Nat) (f : Field), fs[j]? = some f → P.cellsOf f.type = 1 ∧ f.offset = j ∧ (j ≠ 8 → j ≠ 12 → P.underlying f.type = some (.int .i64)) ∧ (j = 8 → P.underlying f.type = some (.slice E)) ∧ (j = 12 → P.underlying f.type = some .bool)
/-- A message by value that came in. -/
theorem open_msg {r : Reach} {b0 : Nat} {t E : TypeId} {fs es : Array Field} {v : Value} {d : DataW H} {ps : List MemPlace} (ht : P.underlying t = some (.struct fs)) (hC : P.cellsOf t = 13) (hT : MsgT P fs E)
    (hE : P.underlying E = some (.struct es)) (hEC : P.cellsOf E = 7) (hET : EntT P es)
    (hval : Value.okWide P w r b0 t v) (hd : DataW.Trod enc P w base spare held t v d ps) : ∃ (m : Msg) (A : Option Addr) (c : Nat), v = mv m A c ∧ Rd w w.heap.size A c 7 m.es.length (els m.es) ∧ MsgOk m := by
  obtain ⟨cs, rfl, hsz⟩ := okWide_struct ht hval
  obtain ⟨fuel, hf⟩ := hd
  obtain ⟨xs, n, rfl, hx, hl, hxl, hfs⟩ := DataW.trod_struct ht hf
  have hl13 : cs.toList.length = 13 := by rw [hC] at hl; exact hl
  obtain ⟨m, A, c, hc, hr, ho⟩ := msg_of (w := w) hl13 (fun j u hu => by
    have hj := (List.getElem?_eq_some_iff.1 hu).1
    have hjf : j < fs.size := by rw [hT.1]; omega
    have hfj := Array.getElem?_eq_getElem hjf
    have hy := hfs j fs[j] hfj
    rw [List.getElem?_eq_getElem (show j < xs.length by omega)] at hy
    obtain ⟨h1, h2, h3, h4, h5⟩ := hT.2 j fs[j] hfj
    have key : ∀ v, (cs.toList.drop fs[j].offset).take (P.cellsOf fs[j].type) = [v] → u = v := by
      intro v hv
      rw [h1, h2] at hv
      have h3 := congrArg (fun q => q[0]?) hv
      simp only [List.getElem?_take, List.getElem?_drop] at h3
      simp only [Nat.lt_succ_self, if_true, Nat.add_zero, List.getElem?_cons_zero] at h3
      exact Option.some.inj (hu.symm.trans h3)
    by_cases e8 : j = 8
    · obtain ⟨A, n, c, l, hcs, hr, ho⟩ := open_ents (h4 e8) hE hEC hET hy
      have := key _ hcs
      exact ⟨fun h => absurd e8 h, fun _ => ⟨A, n, c, l, this, hr, ho⟩, fun h => by omega⟩
    · by_cases e12 : j = 12
      · obtain ⟨b, hcs, _⟩ := DataW.trod_bool (h5 e12) hy
        have := key _ hcs
        exact ⟨fun _ h => absurd e12 h, fun h => absurd h e8, fun _ => ⟨b, this⟩⟩
      · obtain ⟨x, hcs, _, hw⟩ := DataW.trod_int (h3 e8 e12) hy
        have := key _ hcs
        exact ⟨fun _ _ => ⟨x, this, hw⟩, fun h => absurd h e8, fun h => absurd h e12⟩)
  exact ⟨m, A, c, by rw [mv_mcs, ← hc], hr, ho⟩
end
end Go.Proofs.YtkckibcfanaglaaDoor

/- A message loaded, rows of int64s compared, in a region that draws. -/
namespace Go.Proofs.YtkckibcfanaglaaDoor
open Go.RowKit

/-- A message is loaded, in a region that draws. -/
theorem run_loadM {w : World} {dst : Option Tmp} {x : Operand} {ty : TypeId} {pos : String} {after : Array Edge} {guard : Option (Nat × Bool)} {ρ : Operand → Value} {g : Nat} {t : TypeId} {m : Msg} {A : Option Addr} {c : Nat}
    (K : Blk w g t (mcs m A c)) (hx : ρ x = .pointer (some ⟨g, 0, none⟩)) :
    (execOp ρ { dst, op := .load 31 x, type := ty, pos, after, guard }).run Tryd.prog w = .ok (.value (mv m A c)) w := by
  have := run_loadAt_mid (P := Tryd.prog) w g 0 31 (mcs m A c) _ K.range Tryd.underlying31 rfl (by kernel_rfl)
  unfold execOp
  simp only [hx, Sem.run_bind, this, Result.andThen_ok, Sem.run_pure]
  rfl

section
variable {P : Program} (w : World)
theorem range_eq : ∀ (xs ys : List Int), xs.length = ys.length → ((List.range xs.length).all fun i => xs.getD i 0 == ys.getD i 0) = decide (xs = ys)
  | [], [], _ => rfl
  | [], _ :: _, h => by simp at h
  | _ :: _, [], h => by simp at h
  | x :: xs, y :: ys, h => by
    have h1 := range_eq xs ys (by simpa using h)
    rw [List.length_cons, List.range_succ_eq_map, List.all_cons, List.all_map]
    simp only [List.getD_cons_zero, Function.comp_def, List.getD_cons_succ, h1]
    rw [Bool.eq_iff_iff]; simp
/-- Two arrays of int64s are the same, number by number. -/
theorem run_equalIn_nums (d : Nat) (t e : TypeId) (n : Nat) (ht : P.underlying t = some (.array n e)) (he : P.underlying e = some (.int .i64)) (hs : ∀ w, (sizeOf e).run P w = .ok 1 w) (xs ys : List Int) (hx : xs.length = n) (hy : ys.length = n) :
    (Op.equalIn (d + 2) t (nv13 xs) (nv13 ys)).run P w = .ok (decide (xs = ys)) w := by
  rw [← range_eq xs ys (hx.trans hy.symm), hx, List.range_eq_range', nv13, nv13, Op.equalIn]
  simp only [Sem.run_bind, run_underlying ht, Result.andThen_ok, hs, Std.Legacy.Range.forIn_eq_forIn_range', Std.Legacy.Range.size, Nat.sub_zero, Nat.add_sub_cancel, Nat.div_one]
  have hl : ∀ i ∈ List.range' 0 n 1, i < n := fun i hi => by simpa using (List.mem_range'_1.1 hi).2
  generalize List.range' 0 n 1 = l at hl ⊢
  induction l with
  | nil => simp
  | cons i l ih =>
    have hi : i < n := hl i (by simp)
    have px : (part e (xs.map (Value.int .i64)).toArray (i * 1)).run P w = .ok (.int .i64 (xs.getD i 0)) w := by
      simp [part, isAgg, run_underlying he, List.getD, List.getElem?_eq_getElem (show i < xs.length by omega)]
    have py : (part e (ys.map (Value.int .i64)).toArray (i * 1)).run P w = .ok (.int .i64 (ys.getD i 0)) w := by
      simp [part, isAgg, run_underlying he, List.getD, List.getElem?_eq_getElem (show i < ys.length by omega)]
    simp only [List.forIn_cons, Sem.run_bind, px, py, run_equalIn_int w d e .i64 .i64 _ _ he, Result.andThen_ok, List.all_cons]
    cases hb : (xs.getD i 0 == ys.getD i 0)
    · simp
    · simp only [Bool.not_true, Bool.false_eq_true, if_false, Sem.run_pure, Result.andThen_ok, Bool.true_and]
      exact ih fun j hj => hl j (by simp [hj])
end

theorem run_loadN {w : World} {dst : Option Tmp} {x : Operand} {ty : TypeId} {pos : String} {after : Array Edge} {guard : Option (Nat × Bool)} {ρ : Operand → Value} {g : Nat} {t : TypeId} {y0 y1 y2 y3 y4 y5 y6 y7 y8 y9 y10 y11 y12 : Int}
    (K : Blk w g t [.int .i64 y0, .int .i64 y1, .int .i64 y2, .int .i64 y3, .int .i64 y4, .int .i64 y5, .int .i64 y6, .int .i64 y7, .int .i64 y8, .int .i64 y9, .int .i64 y10, .int .i64 y11, .int .i64 y12]) (hx : ρ x = .pointer (some ⟨g, 0, none⟩)) :
    (execOp ρ { dst, op := .load 63 x, type := ty, pos, after, guard }).run Tryd.prog w = .ok (.value (nv13 [y0, y1, y2, y3, y4, y5, y6, y7, y8, y9, y10, y11, y12])) w := by
  have := run_loadAt_mid (P := Tryd.prog) w g 0 63 [.int .i64 y0, .int .i64 y1, .int .i64 y2, .int .i64 y3, .int .i64 y4, .int .i64 y5, .int .i64 y6, .int .i64 y7, .int .i64 y8, .int .i64 y9, .int .i64 y10, .int .i64 y11, .int .i64 y12] _ K.range Tryd.underlying63 rfl (by kernel_rfl)
  unfold execOp
  simp only [hx, Sem.run_bind, this, Result.andThen_ok, Sem.run_pure]
  rfl

theorem run_numsEq {w : World} {dst : Option Tmp} {x y : Operand} {ty : TypeId} {pos : String} {after : Array Edge} {guard : Option (Nat × Bool)} {ρ : Operand → Value} {xs ys : List Int} {b : Bool} (hx : ρ x = nv13 xs) (hy : ρ y = nv13 ys) (lx : xs.length = 13) (ly : ys.length = 13) (hb : decide (xs = ys) = b) :
    (execOp ρ { dst, op := .binOp .eql 63 x y 63, type := ty, pos, after, guard }).run Tryd.prog w = .ok (.value (.bool b)) w := by
  have h1 := run_equalIn_nums (P := Tryd.prog) w 9998 63 2 13 Tryd.underlying63 Tryd.underlying2 (fun w => by kernel_rfl) xs ys lx ly
  have h0 : Tryd.prog.eqGuardType Tryd.prog.depth 63 = false := by kernel_rfl
  unfold execOp
  simp only [hx, hy]
  unfold nv13 at *
  simp only [Sem.run_bind, run_eqGuard_agg (P := Tryd.prog) w .eql 63 x y _ _ h0, Result.andThen_ok, run_eql_struct, h1, hb, Sem.run_pure]
theorem run_numsNe {w : World} {dst : Option Tmp} {x y : Operand} {ty : TypeId} {pos : String} {after : Array Edge} {guard : Option (Nat × Bool)} {ρ : Operand → Value} {xs ys : List Int} {b : Bool} (hx : ρ x = nv13 xs) (hy : ρ y = nv13 ys) (lx : xs.length = 13) (ly : ys.length = 13) (hb : (!decide (xs = ys)) = b) :
    (execOp ρ { dst, op := .binOp .neq 63 x y 63, type := ty, pos, after, guard }).run Tryd.prog w = .ok (.value (.bool b)) w := by
  have h1 := run_equalIn_nums (P := Tryd.prog) w 9998 63 2 13 Tryd.underlying63 Tryd.underlying2 (fun w => by kernel_rfl) xs ys lx ly
  have h0 : Tryd.prog.eqGuardType Tryd.prog.depth 63 = false := by kernel_rfl
  unfold execOp
  simp only [hx, hy]
  unfold nv13 at *
  simp only [Sem.run_bind, run_eqGuard_agg (P := Tryd.prog) w .neq 63 x y _ _ h0, Result.andThen_ok, run_neq_struct, h1, hb, Sem.run_pure]
end Go.Proofs.YtkckibcfanaglaaDoor

/- 'Nt': the program's net at block g, with the blocks that are its own; 'NtW': what a call that writes it leaves; 'Ms': a row of messages of the law's own. -/
namespace Go.Proofs.YtkckibcfanaglaaDoor
open Go.RowKit

/-- A message with a slice beside it: its entries', or its bytes'. -/
structure Mp where
  m : Msg
  A : Option Addr
  c : Nat
/-- A packet's cells; several ones'; messages' cells. -/
def pcs (q : Mp) : List Value := [.int .i64 q.m.dst, .slice q.A (PMsg.enc q.m).length q.c]
def pks (Q : List Mp) : List Value := Q.flatMap pcs
def mgc (q : Mp) : List Value := mcs q.m q.A q.c
def mgs (Q : List Mp) : List Value := Q.flatMap mgc
theorem pcs_length (q : Mp) : (pcs q).length = 2 := rfl
theorem mgc_length (q : Mp) : (mgc q).length = 13 := rfl
theorem pks_length (Q : List Mp) : (pks Q).length = Q.length * 2 := rows_len pcs_length Q
theorem mgs_length (Q : List Mp) : (mgs Q).length = Q.length * 13 := rows_len mgc_length Q
theorem pks_append (a b : List Mp) : pks (a ++ b) = pks a ++ pks b := by simp [pks]
theorem mgs_append (a b : List Mp) : mgs (a ++ b) = mgs a ++ mgs b := by simp [mgs]
theorem pks_one (q : Mp) : pks [q] = pcs q := by simp [pks]
theorem mgs_one (q : Mp) : mgs [q] = mgc q := by simp [mgs]
theorem pks_take (Q : List Mp) (i : Nat) : (pks Q).take (i * 2) = pks (Q.take i) := rows_take pcs_length Q i
theorem pks_drop (Q : List Mp) (i : Nat) : (pks Q).drop (i * 2) = pks (Q.drop i) := rows_drop pcs_length Q i
theorem mgs_take (Q : List Mp) (i : Nat) : (mgs Q).take (i * 13) = mgs (Q.take i) := rows_take mgc_length Q i
theorem mgs_drop (Q : List Mp) (i : Nat) : (mgs Q).drop (i * 13) = mgs (Q.drop i) := rows_drop mgc_length Q i
theorem pcs_oneCell (q : Mp) : ∀ u ∈ pcs q, u.oneCell' = true := by
  intro u hu
  simp only [pcs, List.mem_cons, List.not_mem_nil, or_false] at hu
  rcases hu with rfl | rfl <;> rfl
theorem mgc_oneCell (q : Mp) : ∀ u ∈ mgc q, u.oneCell' = true := by
  intro u hu
  simp only [mgc, mcs, List.mem_cons, List.not_mem_nil, or_false] at hu
  rcases hu with rfl | rfl | rfl | rfl | rfl | rfl | rfl | rfl | rfl | rfl | rfl | rfl | rfl <;> rfl
theorem pks_oneCell (Q : List Mp) : ∀ u ∈ pks Q, u.oneCell' = true := fun u hu => by
  obtain ⟨q, _, h⟩ := List.mem_flatMap.1 hu
  exact pcs_oneCell q u h
theorem mgs_oneCell (Q : List Mp) : ∀ u ∈ mgs Q, u.oneCell' = true := fun u hu => by
  obtain ⟨q, _, h⟩ := List.mem_flatMap.1 hu
  exact mgc_oneCell q u h

section
variable {w w' : World} {base k n c g : Nat} {e : TypeId} {A : Option Addr} {xs : List Value} {S : List Nat}
theorem Ow.blk (h : Ow w base e k A n c xs) (hg : bk A = Option.some g) : ∃ ys, Blk w g e ys := by
  rcases h.2 with ⟨h0, _⟩ | ⟨g', Z, hA, _, hB, _⟩
  · rw [h0] at hg; cases hg
  · rw [hA] at hg
    have e1 : g' = g := by simpa [bk] using hg
    subst e1; exact ⟨_, hB⟩
/-- Behind a call that wrote blocks of other types. -/
theorem Ow.other (h : Ow w base e k A n c xs) (ht : Touch S w w') (hs : ∀ s ∈ S, ∃ t ys, Blk w s t ys ∧ t ≠ e) : Ow w' base e k A n c xs :=
  h.touch ht (fun s hm hk => by
    obtain ⟨t, ys, hB, hne⟩ := hs s hm
    obtain ⟨zs, hZ⟩ := h.blk hk
    exact hB.ne hZ hne rfl)
end

/-- The net at block g holds L; F are its blocks. -/
structure Nt (w : World) (g : Nat) (F : List Nat) (L : List Msg) : Prop where
  ex : ∃ (A : Option Addr) (c : Nat) (Q : List Mp), L = Q.map Mp.m ∧ Blk w g 48 [.slice A Q.length c] ∧ Ow w 0 55 2 A Q.length c (pks Q) ∧
    (∀ q ∈ Q, Ow w 0 5 1 q.A (PMsg.enc q.m).length q.c (bs (PMsg.enc q.m))) ∧ F = g :: (bl A ++ Q.flatMap fun q => bl q.A)
  le : L.length ≤ 400

section
variable {w w' : World} {g : Nat} {F S : List Nat} {L : List Msg}
theorem Nt.kinds (h : Nt w g F L) : ∀ k ∈ F, ∃ t ys, Blk w k t ys ∧ (t = 48 ∨ t = 55 ∨ t = 5) := by
  obtain ⟨A, c, Q, _, hB, hO, hQ, rfl⟩ := h.ex
  intro k hk
  rcases List.mem_cons.1 hk with rfl | hk
  · exact ⟨_, _, hB, .inl rfl⟩
  · rcases List.mem_append.1 hk with hk | hk
    · obtain ⟨ys, hy⟩ := hO.blk (mem_bl.1 hk)
      exact ⟨_, _, hy, .inr (.inl rfl)⟩
    · obtain ⟨q, hq, hk⟩ := List.mem_flatMap.1 hk
      obtain ⟨ys, hy⟩ := (hQ q hq).blk (mem_bl.1 hk)
      exact ⟨_, _, hy, .inr (.inr rfl)⟩
/-- Its blocks are none of another type. -/
theorem Nt.not (h : Nt w g F L) {e : TypeId} (h1 : e ≠ 48) (h2 : e ≠ 55) (h3 : e ≠ 5) : ∀ k ∈ F, ∃ t ys, Blk w k t ys ∧ t ≠ e := fun k hk => by
  obtain ⟨t, ys, hB, ht⟩ := h.kinds k hk
  refine ⟨t, ys, hB, ?_⟩
  rintro rfl
  rcases ht with ht | ht | ht
  · exact h1 ht
  · exact h2 ht
  · exact h3 ht
theorem Nt.apart (h : Nt w g F L) {x : Nat} {e : TypeId} {xs : List Value} (K : Blk w x e xs) (h1 : e ≠ 48) (h2 : e ≠ 55) (h3 : e ≠ 5) : x ∉ F := fun hx => by
  obtain ⟨t, ys, hB, hne⟩ := h.not h1 h2 h3 x hx
  exact hB.ne K hne rfl
theorem Nt.hi (h : Nt w g F L) : ∀ k ∈ F, k < w.heap.size := fun k hk => by
  obtain ⟨t, ys, hB, _⟩ := h.kinds k hk
  exact hB.lt
theorem Nt.self (h : Nt w g F L) : g ∈ F := by obtain ⟨A, c, Q, _, hB, hO, hQ, rfl⟩ := h.ex; exact List.mem_cons_self ..
theorem Nt.touch (h : Nt w g F L) (ht : Touch S w w') (hd : ∀ k ∈ S, k ∉ F) : Nt w' g F L := by
  obtain ⟨A, c, Q, e, hB, hO, hQ, rfl⟩ := h.ex
  refine ⟨⟨A, c, Q, e, hB.touch ht (fun hm => hd g hm (List.mem_cons_self ..)), hO.touch ht (fun s hs e => hd s hs (List.mem_cons_of_mem _ (List.mem_append_left _ (mem_bl.2 e)))), fun q hq => (hQ q hq).touch ht (fun s hs e => hd s hs (List.mem_cons_of_mem _ (List.mem_append_right _ (List.mem_flatMap.2 ⟨q, hq, mem_bl.2 e⟩)))), rfl⟩, h.le⟩
theorem Nt.past (h : Nt w g F L) (hb : Below w.heap.size w w') : Nt w' g F L := h.touch (S := []) (.of_below hb) (by simp)
theorem Nt.drew (h : Nt w g F L) : Nt w.drew g F L := ⟨h.ex, h.le⟩
theorem Nt.alloc (h : Nt w g F L) (o : Obj) : Nt (w.alloc o) g F L := h.past ((Below.refl _ _).alloc (Nat.le_refl _) _)

/-- What a call leaves that writes the net at block g, whose blocks were F. -/
structure NtW (w w' : World) (g : Nat) (F : List Nat) (L : List Msg) : Prop where
  ex : ∃ F', Nt w' g F' L ∧ ∀ k ∈ F', k ∈ F ∨ w.heap.size ≤ k
  touch : Touch F w w'
theorem NtW.same (h : Nt w g F L) (hb : Below w.heap.size w w') : NtW w w' g F L := ⟨⟨F, h.past hb, fun _ hk => .inl hk⟩, .of_below hb⟩
theorem NtW.behind {w0 : World} (h : NtW w w' g F L) (hb : Below w0.heap.size w0 w) : NtW w0 w' g F L := by
  obtain ⟨⟨F', h1, h2⟩, h3⟩ := h
  exact ⟨⟨F', h1, fun k hk => (h2 k hk).imp id (fun h => Nat.le_trans hb.size h)⟩, (Touch.of_below hb).trans h3⟩
theorem NtW.ahead {w2 : World} (h : NtW w w' g F L) (hb : Below w'.heap.size w' w2) : NtW w w2 g F L := by
  obtain ⟨⟨F', h1, h2⟩, h3⟩ := h
  exact ⟨⟨F', h1.past hb, h2⟩, h3.trans (.of_below hb)⟩
theorem NtW.trans {w1 w2 : World} {F' : List Nat} {L' : List Msg} (hF : ∀ k ∈ F', k ∈ F ∨ w.heap.size ≤ k) (ht : Touch F w w1) (k : NtW w1 w2 g F' L') : NtW w w2 g F L' := by
  obtain ⟨⟨F2, h1, h2⟩, h3⟩ := k
  refine ⟨⟨F2, h1, fun k hk => ?_⟩, ⟨h3.os.trans ht.os, h3.tape.trans ht.tape, h3.output.trans ht.output, Nat.le_trans ht.size h3.size, fun k hk hn => ?_⟩⟩
  · rcases h2 k hk with q | q
    · exact hF k q
    · exact .inr (Nat.le_trans ht.size q)
  · refine (h3.block k (Nat.lt_of_lt_of_le hk ht.size) (fun hm => ?_)).trans (ht.block k hk hn)
    rcases hF k hm with q | q
    · exact hn q
    · omega
/-- Its slice is another one, stored: of packets that were there or are new. -/
theorem Nt.anewP {w0 w2 : World} (N : Nat → Prop) {A A2 : Option Addr} {n0 c c0 c2 : Nat} {ys : List Value} {Q Q2 : List Mp} (hb : Below w0.heap.size w0 w) (hB : Blk w g 48 [.slice A Q.length c]) (hO : Ow w 0 55 2 A n0 c0 ys)
    (hg : w.grownBy w2 (bk A)) (hA : ∀ k, bk A2 = some k → bk A = some k ∨ N k) (hO2 : Ow w2 0 55 2 A2 Q2.length c2 (pks Q2))
    (hQ2 : ∀ p ∈ Q2, Ow w 0 5 1 p.A (PMsg.enc p.m).length p.c (bs (PMsg.enc p.m)) ∧ (p ∈ Q ∨ ∀ k, bk p.A = some k → N k)) (hl : Q2.length ≤ 400) :
    (∃ F', Nt (w2.setCell ⟨g, 0, none⟩ (.slice A2 Q2.length c2)) g F' (Q2.map Mp.m) ∧ ∀ k ∈ F', k ∈ (g :: (bl A ++ Q.flatMap fun p => bl p.A)) ∨ N k) ∧ Touch (g :: (bl A ++ Q.flatMap fun p => bl p.A)) w0 (w2.setCell ⟨g, 0, none⟩ (.slice A2 Q2.length c2)) := by
  have hne : bk A ≠ some g := hO.ne hB (by decide)
  have hTA : Touch (bl A) w w2 := Touch.of_bk hg
  have hB2 : Blk w2 g 48 [.slice A Q.length c] := hB.touch hTA (fun hm => hne (mem_bl.1 hm))
  have hs := Touch.of_grown (grown_set w2 g 0 (.slice A2 Q2.length c2))
  have hp : ∀ s ∈ bl A, ∃ t ys, Blk w s t ys ∧ t ≠ 5 := fun s hs => by
    obtain ⟨ys, hy⟩ := hO.blk (mem_bl.1 hs)
    exact ⟨_, _, hy, by decide⟩
  have hT : Touch (g :: (bl A ++ Q.flatMap fun p => bl p.A)) w w2 := hTA.wide (fun k hk => List.mem_cons_of_mem _ (List.mem_append_left _ hk))
  refine ⟨⟨g :: (bl A2 ++ Q2.flatMap fun p => bl p.A), ⟨⟨A2, c2, Q2, rfl, ?_, ?_, fun p hm => ?_, rfl⟩, by simpa using hl⟩, fun k hk => ?_⟩, ((Touch.of_below hb).trans hT).trans (hs.wide (by simp))⟩
  · have := hB2.set 0 (.slice A2 Q2.length c2)
    simpa using this
  · exact hO2.other hs (fun s hm => by rw [List.mem_singleton.1 hm]; exact ⟨_, _, hB2, by decide⟩)
  · exact ((hQ2 p hm).1.other hTA hp).other hs (fun s hm => by rw [List.mem_singleton.1 hm]; exact ⟨_, _, hB2, by decide⟩)
  · rcases List.mem_cons.1 hk with rfl | hk
    · exact .inl (List.mem_cons_self ..)
    · rcases List.mem_append.1 hk with hk | hk
      · rcases hA k (mem_bl.1 hk) with q | q
        · exact .inl (List.mem_cons_of_mem _ (List.mem_append_left _ (mem_bl.2 q)))
        · exact .inr q
      · obtain ⟨p, hm, hk⟩ := List.mem_flatMap.1 hk
        rcases (hQ2 p hm).2 with q | q
        · exact .inl (List.mem_cons_of_mem _ (List.mem_append_right _ (List.mem_flatMap.2 ⟨p, q, hk⟩)))
        · exact .inr (q k (mem_bl.1 hk))
theorem Nt.anew {w0 w2 : World} {A A2 : Option Addr} {n0 c c0 c2 : Nat} {ys : List Value} {Q Q2 : List Mp} (hb : Below w0.heap.size w0 w) (hB : Blk w g 48 [.slice A Q.length c]) (hO : Ow w 0 55 2 A n0 c0 ys)
    (hg : w.grownBy w2 (bk A)) (hA : ∀ k, bk A2 = some k → bk A = some k ∨ w0.heap.size ≤ k) (hO2 : Ow w2 0 55 2 A2 Q2.length c2 (pks Q2))
    (hQ2 : ∀ p ∈ Q2, Ow w 0 5 1 p.A (PMsg.enc p.m).length p.c (bs (PMsg.enc p.m)) ∧ (p ∈ Q ∨ ∀ k, bk p.A = some k → w0.heap.size ≤ k)) (hl : Q2.length ≤ 400) :
    NtW w0 (w2.setCell ⟨g, 0, none⟩ (.slice A2 Q2.length c2)) g (g :: (bl A ++ Q.flatMap fun p => bl p.A)) (Q2.map Mp.m) := by
  obtain ⟨h1, h2⟩ := Nt.anewP (fun k => w0.heap.size ≤ k) hb hB hO hg hA hO2 hQ2 hl
  exact ⟨h1, h2⟩
/-- What a call leaves that takes out of the net at block g. -/
structure NtD (w w' : World) (g : Nat) (F : List Nat) (L : List Msg) : Prop where
  ex : ∃ F', Nt w' g F' L ∧ ∀ k ∈ F', k ∈ F
  touch : Touch F w w'
theorem NtD.wide (h : NtD w w' g F L) : NtW w w' g F L := by
  obtain ⟨⟨F', h1, h2⟩, h3⟩ := h
  exact ⟨⟨F', h1, fun k hk => .inl (h2 k hk)⟩, h3⟩
theorem NtD.behind {w0 : World} (h : NtD w w' g F L) (hb : Below w0.heap.size w0 w) : NtD w0 w' g F L := by
  obtain ⟨⟨F', h1, h2⟩, h3⟩ := h
  exact ⟨⟨F', h1, h2⟩, (Touch.of_below hb).trans h3⟩
end

/-- One more packet. -/
theorem Nt.app {w w0 w2 : World} {g : Nat} {A A2 : Option Addr} {c c2 : Nat} {Q : List Mp} {q : Mp} (hb : Below w0.heap.size w0 w) (hB : Blk w g 48 [.slice A Q.length c]) (hO : Ow w 0 55 2 A Q.length c (pks Q))
    (hQ : ∀ p ∈ Q, Ow w 0 5 1 p.A (PMsg.enc p.m).length p.c (bs (PMsg.enc p.m))) (hq : Ow w w0.heap.size 5 1 q.A (PMsg.enc q.m).length q.c (bs (PMsg.enc q.m))) (hl : Q.length < 400)
    (hg : w.grownBy w2 (bk A)) (hA : ∀ k, bk A2 = some k → bk A = some k ∨ w.heap.size ≤ k) (hO2 : Ow w2 0 55 2 A2 (Q.length + 1) c2 (pks Q ++ pcs q)) :
    NtW w0 (w2.setCell ⟨g, 0, none⟩ (.slice A2 (Q.length + 1 : Nat) c2)) g (g :: (bl A ++ Q.flatMap fun p => bl p.A)) (Q.map Mp.m ++ [q.m]) := by
  have e1 : (Q ++ [q]).length = Q.length + 1 := by simp
  have := Nt.anew (Q2 := Q ++ [q]) (A2 := A2) (c2 := c2) hb hB hO hg (fun k hk => (hA k hk).imp id (fun h => Nat.le_trans hb.size h)) (by rw [e1, pks_append, pks_one]; exact hO2) (fun p hp => by
    rcases List.mem_append.1 hp with h | h
    · exact ⟨hQ p h, .inl h⟩
    · rw [List.mem_singleton.1 h]; exact ⟨hq.down (Nat.zero_le _), .inr hq.low⟩) (by rw [e1]; omega)
  rw [e1, List.map_append] at this
  exact this

/-- A row of messages, with entries, of the law's own (above base). -/
structure Ms (w : World) (base : Nat) (A : Option Addr) (c : Nat) (Q : List Mp) : Prop where
  row : Ow w base 31 13 A Q.length c (mgs Q)
  ents : ∀ q ∈ Q, Ow w base 53 7 q.A q.m.es.length q.c (els q.m.es)
  fit : ∀ q ∈ Q, -9223372036854775808 ≤ q.m.mem ∧ q.m.mem ≤ 9223372036854775807
section
variable {w w' : World} {base c g : Nat} {A : Option Addr} {Q : List Mp} {S : List Nat}
theorem Ms.nil (w : World) (base : Nat) : Ms w base none 0 [] := ⟨Ow.nil _ _ _ _, by simp, by simp⟩
theorem Ms.touch (h : Ms w base A c Q) (ht : Touch S w w') (h1 : ∀ s ∈ S, ∃ t ys, Blk w s t ys ∧ t ≠ 31) (h2 : ∀ s ∈ S, ∃ t ys, Blk w s t ys ∧ t ≠ 53) : Ms w' base A c Q :=
  ⟨h.row.other ht h1, fun q hq => (h.ents q hq).other ht h2, h.fit⟩
theorem Ms.past (h : Ms w base A c Q) (hb : Below w.heap.size w w') : Ms w' base A c Q := h.touch (S := []) (.of_below hb) (by simp) (by simp)
theorem Ms.drew (h : Ms w base A c Q) : Ms w.drew base A c Q := h.past ((Below.refl _ _).drew)
/-- Behind a call that wrote a net. -/
theorem Ms.net {F : List Nat} {L : List Msg} (h : Ms w base A c Q) (hn : Nt w g F L) (ht : Touch F w w') : Ms w' base A c Q :=
  h.touch ht (hn.not (by decide) (by decide) (by decide)) (hn.not (by decide) (by decide) (by decide))
theorem Ms.down {base' : Nat} (h : Ms w base A c Q) (hb : base' ≤ base) : Ms w base' A c Q := ⟨h.row.down hb, fun q hq => (h.ents q hq).down hb, h.fit⟩
/-- The one at place i. -/
theorem Ms.at_ (h : Ms w base A c Q) {i : Nat} (hi : i < Q.length) : ∃ b o q, A = some ⟨b, o, none⟩ ∧ b < w.heap.size ∧ Q[i]? = some q ∧ q ∈ Q ∧ w.rangeAt b (o + i * 13) (mcs q.m q.A q.c) ∧ Rd w w.heap.size q.A q.c 7 q.m.es.length (els q.m.es) := by
  obtain ⟨b, o, hA, hb, hc⟩ := h.row.rd.2.2.2.2 (by omega)
  have he : Q[i]? = some Q[i] := List.getElem?_eq_getElem hi
  refine ⟨b, o, Q[i], hA, hb, he, List.getElem_mem _, fun j v hv => ?_, (h.ents _ (List.getElem_mem _)).rd⟩
  have hj : j < 13 := (List.getElem?_eq_some_iff.1 hv).1
  rw [Nat.add_assoc]
  refine hc (i * 13 + j) v ?_
  have := rows_at mgc_length he hj
  exact this.trans hv
/-- A row that was just made. -/
theorem Ms.lit (us : Array Value) (hu : us.toList = mgs Q) (hb : base ≤ w.heap.size) (hn : Q.length ≤ 1000) (he : ∀ q ∈ Q, Ow w base 53 7 q.A q.m.es.length q.c (els q.m.es)) (hf : ∀ q ∈ Q, -9223372036854775808 ≤ q.m.mem ∧ q.m.mem ≤ 9223372036854775807) :
    Ms (w.alloc (.cells us 31)) base (some ⟨w.heap.size, 0, none⟩) Q.length Q := by
  have hbel : Below w.heap.size w (w.alloc (.cells us 31)) := (Below.refl _ _).alloc (Nat.le_refl _) _
  refine ⟨⟨mgs_length Q, .inr ⟨w.heap.size, [], rfl, hb, ?_, Nat.le_refl _, by unfold maxLen; omega, by rw [List.append_nil, mgs_length]; omega⟩⟩, fun q hq => (he q hq).past hbel, hf⟩
  have := Blk.new w us 31
  rw [hu] at this
  rwa [List.append_nil]
theorem Ms.app {A2 : Option Addr} {c2 : Nat} {q : Mp} (h : Ms w base A c Q) (hg : w.grownBy w' (bk A)) (hO : Ow w' base 31 13 A2 (Q.length + 1) c2 (mgs Q ++ mgc q))
    (he : Ow w base 53 7 q.A q.m.es.length q.c (els q.m.es)) (hf : -9223372036854775808 ≤ q.m.mem ∧ q.m.mem ≤ 9223372036854775807) : Ms w' base A2 c2 (Q ++ [q]) := by
  have hT : Touch (bl A) w w' := Touch.of_bk hg
  have hp : ∀ s ∈ bl A, ∃ t ys, Blk w s t ys ∧ t ≠ 53 := fun s hs => by
    obtain ⟨ys, hy⟩ := h.row.blk (mem_bl.1 hs)
    exact ⟨_, _, hy, by decide⟩
  refine ⟨by rw [mgs_append, mgs_one, List.length_append]; exact hO, fun p hp' => ?_, fun p hp' => ?_⟩
  · rcases List.mem_append.1 hp' with h1 | h1
    · exact (h.ents p h1).other hT hp
    · rw [List.mem_singleton.1 h1]; exact he.other hT hp
  · rcases List.mem_append.1 hp' with h1 | h1
    · exact h.fit p h1
    · rw [List.mem_singleton.1 h1]; exact hf
/-- A part of it, in another row. -/
theorem Ms.part {A2 : Option Addr} {c2 : Nat} {Q2 : List Mp} (h : Ms w base A c Q) (hb : Below w.heap.size w w') (hO : Ow w' base 31 13 A2 Q2.length c2 (mgs Q2)) (hs : ∀ q ∈ Q2, q ∈ Q) : Ms w' base A2 c2 Q2 :=
  ⟨hO, fun q hq => (h.ents q (hs q hq)).past hb, fun q hq => h.fit q (hs q hq)⟩
end

/-- A law's net: what the law made, at block g. -/
structure Sn (w0 w : World) (g : Nat) (L : List Msg) : Prop where
  bel : Below w0.heap.size w0 w
  ex : ∃ F, Nt w g F L ∧ ∀ k ∈ F, w0.heap.size ≤ k
section
variable {w0 w w' : World} {g : Nat} {L L' : List Msg}
theorem Sn.past (h : Sn w0 w g L) (b : Below w.heap.size w w') : Sn w0 w' g L := by
  obtain ⟨F, h1, h2⟩ := h.ex
  exact ⟨h.bel.trans (b.mono h.bel.size), F, h1.past b, h2⟩
theorem Sn.le (h : Sn w0 w g L) : L.length ≤ 400 := by obtain ⟨F, h1, h2⟩ := h.ex; exact h1.le
theorem Sn.go {F : List Nat} (h : Below w0.heap.size w0 w) (hF : ∀ k ∈ F, w0.heap.size ≤ k) (k : NtW w w' g F L') : Sn w0 w' g L' := by
  obtain ⟨⟨F', k1, k2⟩, k3⟩ := k
  refine ⟨h.trans (k3.below hF h.size), F', k1, fun x hx => ?_⟩
  rcases k2 x hx with q | q
  · exact hF x q
  · exact Nat.le_trans h.size q
theorem Sn.tab (h : Sn w0 w g L) (t : Tab w0) : Tab w := t.past h.bel
/-- Another block of the law's was written. -/
theorem Sn.other (h : Sn w0 w g L) {x : Nat} {t : TypeId} {xs : List Value} (K : Blk w x t xs) (h1 : t ≠ 48) (h2 : t ≠ 55) (h3 : t ≠ 5) (hx : w0.heap.size ≤ x) (hg : w.grownBy w' (some x)) : Sn w0 w' g L := by
  obtain ⟨F, k1, k2⟩ := h.ex
  exact ⟨h.bel.trans (grown_below hg hx h.bel.size), F, k1.touch (Touch.of_grown hg) (by simpa using k1.apart K h1 h2 h3), k2⟩
/-- Likewise, a row's. -/
theorem Sn.row (h : Sn w0 w g L) {base k n c : Nat} {t : TypeId} {A : Option Addr} {xs : List Value} (O : Ow w base t k A n c xs) (hb : w0.heap.size ≤ base) (h1 : t ≠ 48) (h2 : t ≠ 55) (h3 : t ≠ 5) (hg : w.grownBy w' (bk A)) : Sn w0 w' g L := by
  obtain ⟨F, k1, k2⟩ := h.ex
  have hT := Touch.of_bk hg
  refine ⟨h.bel.trans (hT.below (fun k hk => Nat.le_trans hb (O.low k (mem_bl.1 hk))) h.bel.size), F, k1.touch hT (fun k hk => ?_), k2⟩
  obtain ⟨ys, hy⟩ := O.blk (mem_bl.1 hk)
  exact k1.apart hy h1 h2 h3
end
end Go.Proofs.YtkckibcfanaglaaDoor

/- Contracts of New, Len, has, To, Look of a net; of the library's Clone of bytes. -/
namespace Go.Proofs.YtkckibcfanaglaaDoor
open Go.RowKit

theorem nNew_c (w : World) : Calls Tryd.prog 9 #[] w fun e w' => e = .returned (.pointer (some ⟨w.heap.size, 0, none⟩)) ∧ Nt w' w.heap.size [w.heap.size] [] ∧ Below w.heap.size w w' := by
  go_enter Tryd.func9, Tryd.ntmps9
  go_wp2_with fail
  go_ret
  have hB := Blk.new w #[.slice none 0 0] 48
  exact ⟨rfl, ⟨⟨none, 0, [], rfl, hB, Ow.nil _ _ _ _, by simp, rfl⟩, by simp⟩, (Below.refl _ _).alloc (Nat.le_refl _) _⟩
theorem nNew_sn {w0 w : World} (hb : Below w0.heap.size w0 w) : Calls Tryd.prog 9 #[] w fun e w' => e = .returned (.pointer (some ⟨w.heap.size, 0, none⟩)) ∧ Sn w0 w' w.heap.size [] ∧ Below w.heap.size w w' :=
  (nNew_c w).mono fun _ _ ⟨h1, h2, h3⟩ => ⟨h1, ⟨hb.trans (h3.mono hb.size), _, h2, by simpa using hb.size⟩, h3⟩

theorem nLen_nil (w : World) : Calls Tryd.prog 17 #[.pointer none] w fun e w' => e = .returned (.int .i64 0) ∧ w = w' := by
  go_enter Tryd.func17, Tryd.ntmps17
  go_wp2_with fail
  go_ret
  exact ⟨rfl, rfl⟩
theorem nHas_nil (w : World) (i : Int) : Calls Tryd.prog 23 #[.pointer none, .int .i64 i] w fun e w' => e = .returned (.bool false) ∧ w = w' := by
  go_enter Tryd.func23, Tryd.ntmps23
  by_cases h0 : 0 ≤ i
  · go_wp2_with fail
    refine (nLen_nil w).mono ?_
    rintro e w' ⟨rfl, rfl⟩
    have h1 : ¬ i < 0 := by omega
    have H1 := Lib.hid h1
    clear h1
    go_wp2_with fail
    go_ret
    exact ⟨by have := H1.out; show Ending.returned (Value.bool (decide (i < 0))) = _; simp only [Ending.returned.injEq, Value.bool.injEq, decide_eq_false_iff_not]; omega, rfl⟩
  · go_wp2_with fail
    go_ret
    exact ⟨rfl, rfl⟩
theorem nTo_nil (w : World) (i : Int) : Calls Tryd.prog 18 #[.pointer none, .int .i64 i] w fun e w' => e = .returned (.int .i64 0) ∧ w = w' := by
  go_enter Tryd.func18, Tryd.ntmps18
  go_wp2_with fail
  refine (nHas_nil w i).mono ?_
  rintro e w' ⟨rfl, rfl⟩
  go_wp2_with fail
  go_ret
  exact ⟨rfl, rfl⟩
theorem nLook_nil (w : World) (i : Int) : Calls Tryd.prog 13 #[.pointer none, .int .i64 i] w fun e w' => e = .returned (.tuple #[.slice none 0 0, .bool false]) ∧ w = w' := by
  go_enter Tryd.func13, Tryd.ntmps13
  go_wp2_with fail
  refine (nHas_nil w i).mono ?_
  rintro e w' ⟨rfl, rfl⟩
  go_wp2_with fail
  go_ret2
  exact ⟨rfl, rfl⟩

section
variable {w : World} {g : Nat} {F : List Nat} {L : List Msg}
theorem nLen_c (hn : Nt w g F L) : Calls Tryd.prog 17 #[.pointer (some ⟨g, 0, none⟩)] w fun e w' => e = .returned (.int .i64 L.length) ∧ w = w' := by
  obtain ⟨A, c, Q, rfl, hB, hO, hQ, rfl⟩ := hn.ex
  have k0 := hB.cell (i := 0) rfl
  clear hn hB hO hQ
  go_enter Tryd.func17, Tryd.ntmps17
  go_wp2_with fail
  go_ret
  exact ⟨by rw [List.length_map]; rfl, rfl⟩
theorem nHas_in (hn : Nt w g F L) {i : Nat} (hi : i < L.length) : Calls Tryd.prog 23 #[.pointer (some ⟨g, 0, none⟩), .int .i64 i] w fun e w' => e = .returned (.bool true) ∧ w = w' := by
  have HN := Lib.hid hn
  clear hn
  have h0 : (0 : Int) ≤ (i : Int) := by omega
  go_enter Tryd.func23, Tryd.ntmps23
  go_wp2_with fail
  refine (nLen_c HN.out).mono ?_
  rintro e w' ⟨rfl, rfl⟩
  go_wp2_with fail
  go_ret
  exact ⟨rfl, rfl⟩
theorem nHas_out (hn : Nt w g F L) {i : Int} (hi : ¬ (0 ≤ i ∧ i < L.length)) : Calls Tryd.prog 23 #[.pointer (some ⟨g, 0, none⟩), .int .i64 i] w fun e w' => e = .returned (.bool false) ∧ w = w' := by
  have HN := Lib.hid hn
  clear hn
  go_enter Tryd.func23, Tryd.ntmps23
  by_cases h0 : 0 ≤ i
  · have H1 := Lib.hid (show ¬ i < (L.length : Int) by omega)
    clear hi
    go_wp2_with fail
    refine (nLen_c HN.out).mono ?_
    rintro e w' ⟨rfl, rfl⟩
    go_wp2_with fail
    go_ret
    exact ⟨by have := H1.out; show Ending.returned (Value.bool (decide (i < (L.length : Int)))) = _; simp only [Ending.returned.injEq, Value.bool.injEq, decide_eq_false_iff_not]; omega, rfl⟩
  · clear hi
    go_wp2_with fail
    go_ret
    exact ⟨rfl, rfl⟩
/-- The packet at place i. -/
theorem Rd.pk {B c n : Nat} {A : Option Addr} {Q : List Mp} (h : Rd w B A c 2 n (pks Q)) {i : Nat} {q : Mp} (hq : Q[i]? = some q) :
    ∃ b o, A = some ⟨b, o, none⟩ ∧ b < B ∧ w.cell? ⟨b, o + i * 2, none⟩ = some (.int .i64 q.m.dst) ∧ w.cell? ⟨b, o + i * 2 + 1, none⟩ = some (.slice q.A (PMsg.enc q.m).length q.c) := by
  have hl : Q.length = n := by have := h.len; rw [pks_length] at this; omega
  have hi : i < n := by have := (List.getElem?_eq_some_iff.1 hq).1; omega
  obtain ⟨b, o, hA, hb, hc⟩ := h.2.2.2.2 (by omega)
  refine ⟨b, o, hA, hb, ?_, ?_⟩
  · have := hc (i * 2 + 0) _ ((rows_at pcs_length hq (j := 0) (by omega)).trans rfl)
    simpa using this
  · have := hc (i * 2 + 1) _ ((rows_at pcs_length hq (j := 1) (by omega)).trans rfl)
    rw [Nat.add_assoc]; exact this
theorem mp_at {Q : List Mp} {i : Nat} {m : Msg} (h : (Q.map Mp.m)[i]? = some m) : ∃ q, Q[i]? = some q ∧ q.m = m ∧ q ∈ Q := by
  rw [List.getElem?_map] at h
  obtain ⟨q, hq, e⟩ := Option.map_eq_some_iff.1 h
  exact ⟨q, hq, e, List.mem_of_getElem? hq⟩
theorem nTo_in (hn : Nt w g F L) {i : Nat} {m : Msg} (hi : L[i]? = some m) : Calls Tryd.prog 18 #[.pointer (some ⟨g, 0, none⟩), .int .i64 i] w fun e w' => e = .returned (.int .i64 m.dst) ∧ w = w' := by
  have HH := Lib.hid (nHas_in hn (List.getElem?_eq_some_iff.1 hi).1)
  obtain ⟨A, c, Q, rfl, hB, hO, hQ, rfl⟩ := hn.ex
  obtain ⟨q, hq, rfl, _⟩ := mp_at hi
  have hil : i < Q.length := (List.getElem?_eq_some_iff.1 hq).1
  obtain ⟨b, o, rfl, _, d0, d1⟩ := hO.rd.pk hq
  have k0 := hB.cell (i := 0) rfl
  have hcap := hO.rd.cap
  clear hn hB hO hQ hi hq d1
  unfold maxLen at hcap
  go_enter Tryd.func18, Tryd.ntmps18
  go_wp2_with fail
  refine HH.out.mono ?_
  rintro e w' ⟨rfl, rfl⟩
  go_wp2_with fail
  go_ret
  exact ⟨rfl, rfl⟩
theorem nTo_out (hn : Nt w g F L) {i : Int} (hi : ¬ (0 ≤ i ∧ i < L.length)) : Calls Tryd.prog 18 #[.pointer (some ⟨g, 0, none⟩), .int .i64 i] w fun e w' => e = .returned (.int .i64 0) ∧ w = w' := by
  have HH := Lib.hid (nHas_out hn hi)
  clear hn hi
  go_enter Tryd.func18, Tryd.ntmps18
  go_wp2_with fail
  refine HH.out.mono ?_
  rintro e w' ⟨rfl, rfl⟩
  go_wp2_with fail
  go_ret
  exact ⟨rfl, rfl⟩
theorem nLook_out (hn : Nt w g F L) {i : Int} (hi : ¬ (0 ≤ i ∧ i < L.length)) : Calls Tryd.prog 13 #[.pointer (some ⟨g, 0, none⟩), .int .i64 i] w fun e w' => e = .returned (.tuple #[.slice none 0 0, .bool false]) ∧ w = w' := by
  have HH := Lib.hid (nHas_out hn hi)
  clear hn hi
  go_enter Tryd.func13, Tryd.ntmps13
  go_wp2_with fail
  refine HH.out.mono ?_
  rintro e w' ⟨rfl, rfl⟩
  go_wp2_with fail
  go_ret2
  exact ⟨rfl, rfl⟩
end

theorem cloneB_c (w : World) (B : Nat) (A : Option Addr) (c n : Nat) (l : List Int) (h : Rd w B A c 1 n (bs l)) (hn : n ≤ 1000000) :
    Calls Tryd.prog 24 #[.slice A n c] w fun e w' => ∃ A' c', e = .returned (.slice A' n c') ∧ w'.ownsRow w.heap.size 5 1 (.slice A' n c') n (bs l) ∧ Below w.heap.size w w' := by
  have hl := h.blen
  cases A with
  | none =>
    have hc := h.2.2.2.1 rfl
    have hle := h.le
    have h0 : n = 0 := by omega
    subst h0
    subst hc
    have e0 : l = [] := List.eq_nil_of_length_eq_zero hl
    subst e0
    clear h hl hle
    have hnil : ∀ W, (binOp .eql 35 (.slice none 0 0) (.slice none 0 0)).run Tryd.prog W = .ok (.bool true) W := fun W => by rw [run_eql_nil_slice W _ _ none 0 0 0 0 Tryd.underlying35]; rfl
    go_enter Tryd.func24, Tryd.ntmps24
    go_wp2_with fail
    go_ret
    exact ⟨none, 0, rfl, World.ownsRow_nil _ _ _ _, Below.refl _ _⟩
  | some ad =>
    have hr := h.alloc (.cells #[] 5)
    have hown0 := World.ownsRow_lit (base := w.heap.size) (e := 5) (size := 1) w #[] 0 (Nat.le_refl _) (by simp [maxLen]) rfl
    have hb0 : Below w.heap.size w (w.alloc (.cells #[] 5)) := (Below.refl _ _).alloc (Nat.le_refl _) _
    clear h hl
    have hnil : ∀ W, (binOp .eql 35 (.slice (some ad) n c) (.slice none 0 0)).run Tryd.prog W = .ok (.bool false) W := fun W => Lib.run_eql_slice_nil W _ _ (some ad) n c 0 0 Tryd.underlying35
    go_enter Tryd.func24, Tryd.ntmps24
    go_wp2_with (at_builtin; go_must (refine wpList_app rfl (.tmp 5) (.tmp 6) _ rfl w.heap.size 5 _ 1 1 Tryd.underlying35 byte_info rfl (by omega) _ 0 [] rfl hown0 B (some ad) c n (bs l) rfl hr (bs_one l) ?c1 ?c2 hb0.size ?_))
    case c1 => unfold maxLen; omega
    case c2 => omega
    intro A' c' w1 hown1 hgrow1 hbel1
    have hown1' : w1.ownsRow w.heap.size 5 1 (.slice A' n c') n (bs l) := by simpa using hown1
    clear hown1
    have e1 : (0 + n) = n := by omega
    try rw [e1]
    go_wp2_with fail
    go_ret
    exact ⟨A', c', rfl, hown1', hb0.trans hbel1⟩

theorem nLook_in {w : World} {g : Nat} {F : List Nat} {L : List Msg} (hn : Nt w g F L) {i : Nat} {m : Msg} (hi : L[i]? = some m) :
    Calls Tryd.prog 13 #[.pointer (some ⟨g, 0, none⟩), .int .i64 i] w fun e w' => ∃ A' c', e = .returned (.tuple #[.slice A' (PMsg.enc m).length c', .bool true]) ∧
      w'.ownsRow w.heap.size 5 1 (.slice A' (PMsg.enc m).length c') (PMsg.enc m).length (bs (PMsg.enc m)) ∧ Below w.heap.size w w' := by
  have HH := Lib.hid (nHas_in hn (List.getElem?_eq_some_iff.1 hi).1)
  obtain ⟨A, c, Q, rfl, hB, hO, hQ, rfl⟩ := hn.ex
  obtain ⟨q, hq, rfl, hqm⟩ := mp_at hi
  have hil : i < Q.length := (List.getElem?_eq_some_iff.1 hq).1
  obtain ⟨b, o, rfl, _, d0, d1⟩ := hO.rd.pk hq
  have k0 := hB.cell (i := 0) rfl
  have hcap := hO.rd.cap
  have HC := Lib.hid (cloneB_c w _ q.A q.c _ _ (hQ q hqm).rd (by have := PMsg.enc_len q.m; omega))
  clear hn hB hO hQ hi hq d0 hqm
  unfold maxLen at hcap
  go_enter Tryd.func13, Tryd.ntmps13
  go_wp2_with fail
  refine HH.out.mono ?_
  rintro e w' ⟨rfl, rfl⟩
  go_wp2_with fail
  refine HC.out.mono ?_
  rintro e w' ⟨A', c', rfl, hown, hb⟩
  go_wp2_with fail
  go_ret2
  exact ⟨A', c', rfl, hown, hb⟩
end Go.Proofs.YtkckibcfanaglaaDoor

/- A region that draws its order, walked in one order, where it writes blocks of the list S alone: all else stays (Hb's twin, over 'Touch'). No program is named here. -/
namespace Go.Proofs.YtkckibcfanaglaaDoor
open Go.RowKit

section
variable {P : Program} {ops : Array Oper} {Q : Exit → Act → World → Prop} {S : List Nat}

/-- Whatever order is drawn from here on; of w's blocks those of S alone may turn. -/
def Hs (P : Program) (ops : Array Oper) (Q : Exit → Act → World → Prop) (S : List Nat) (n : Nat) (listed : Array Bool) (a : Act) (w : World) : Prop :=
  wpAnyH P .any ops (NoPanic Q) (Touch S w) n listed a w
theorem Hs.on {n : Nat} {listed : Array Bool} {a : Act} {w w' : World} (hb : Touch S w w') (h : Hs P ops Q S n listed a w') : wpAnyH P .any ops (NoPanic Q) (Touch S w) n listed a w' :=
  wpAnyH_less (fun _ h' => hb.trans h') _ _ _ _ h
theorem Hs.begin {id : Nat} {a : Act} {w : World} (S : List Nat) (h : Hs P ops Q S ops.size (Array.replicate ops.size false) a w.drew) (hm : P.follows .mixedOrders = true := by kernel_rfl) : (Code.region id ops true).wp P Q a w :=
  wp_region_noPanic (wp_region_held (S := Touch S w.drew) hm h)
/-- It may be taken first. -/
theorem Hs.take {n : Nat} {listed : Array Bool} {a a' : Act} {w : World} {o : Oper} {v : Value} (i d : Nat)
    (hi : ops[i]? = some o) (h : Hs P ops Q S n (listed.setIfInBounds i true) a' w) (hy : ∀ w', Touch S w w' → (execOp a.eval o).run P w' = .ok (.value v) w')
    (hf : firstB ops listed i = true := by kernel_rfl) (hw : Region.wanted o (yielded ops a.tmps) = true := by rfl) (hd : o.dst = some d := by rfl)
    (ha : a.put (some d) v = a' := by simp only [Act.put, List.setIfInBounds_toArray, List.set_cons_succ, List.set_cons_zero]; rfl) : Hs P ops Q S (n + 1) listed a w := by
  subst ha
  rw [← hd] at h
  obtain ⟨h1, h2, h3⟩ := firstB_parts hf
  exact wpAnyH_take hi h1 h2 h3 (fun _ _ _ h => h) (.inl ⟨hw, hy⟩) (Touch.refl _ _) h
/-- Its guard shuts it out. -/
theorem Hs.pass {n : Nat} {listed : Array Bool} {a a' : Act} {w : World} {o : Oper} (i d : Nat) (hi : ops[i]? = some o) (h : Hs P ops Q S n (listed.setIfInBounds i true) a' w)
    (hf : firstB ops listed i = true := by kernel_rfl) (hw : Region.wanted o (yielded ops a.tmps) = false := by rfl) (hd : o.dst = some d := by rfl)
    (ha : a.put (some d) undef = a' := by simp only [Act.put, List.setIfInBounds_toArray, List.set_cons_succ, List.set_cons_zero]; rfl) : Hs P ops Q S (n + 1) listed a w := by
  subst ha
  rw [← hd] at h
  obtain ⟨h1, h2, h3⟩ := firstB_parts hf
  exact wpAnyH_take hi h1 h2 h3 (fun _ _ _ h => h) (.inr ⟨hw, rfl⟩) (Touch.refl _ _) h
/-- What is asked where number i comes up. -/
def Ps (P : Program) (ops : Array Oper) (Q : Exit → Act → World → Prop) (S : List Nat) (n : Nat) (listed : Array Bool) (a : Act) (w : World) (i : Nat) : Prop :=
  wpOp P ops (NoPanic Q) i (fun a' w' => Touch S w w' ∧ wpAnyH P .any ops (NoPanic Q) (Touch S w) n (listed.setIfInBounds i true) a' w') a w
theorem Hs.one {n : Nat} {listed : Array Bool} {a : Act} {w : World} (i : Nat) (h1 : Ps P ops Q S n listed a w i) (hr : Region.ready .any ops listed = [i] := by kernel_rfl) : Hs P ops Q S (n + 1) listed a w := by
  refine wpAnyH_all hr (by simp) fun x hx => ?_
  obtain rfl : x = i := by simpa using hx
  exact h1
theorem Hs.two {n : Nat} {listed : Array Bool} {a : Act} {w : World} (i j : Nat) (h1 : Ps P ops Q S n listed a w i) (h2 : Ps P ops Q S n listed a w j) (hr : Region.ready .any ops listed = [i, j] := by kernel_rfl) : Hs P ops Q S (n + 1) listed a w := by
  refine wpAnyH_all hr (by simp) fun x hx => ?_
  simp only [List.mem_cons, List.not_mem_nil, or_false] at hx
  rcases hx with rfl | rfl
  · exact h1
  · exact h2
theorem Hs.pick {n : Nat} {listed : Array Bool} {a : Act} {w : World} {o : Oper} (i : Nat) (d : Option Nat) (hi : ops[i]? = some o)
    (h : wpList P ops (Nx Q fun a' w' => Touch S w w' ∧ Hs P ops Q S n (listed.setIfInBounds i true) a' w') [{ o with guard := none, dst := d }] a w)
    (hw : Region.wanted o (yielded ops a.tmps) = true := by rfl) (hd : o.dst = d := by rfl) : Ps P ops Q S n listed a w i := by
  subst hd
  unfold Ps wpOp
  simp only [hi, hw, if_true]
  have he : execOp a.eval { o with guard := none } = execOp a.eval o := rfl
  unfold wpList at h
  have hw' : Region.wanted { o with guard := none } (yielded ops a.tmps) = true := rfl
  rw [if_pos hw'] at h
  rcases h with h | ⟨h, q⟩
  · refine .inl ?_
    unfold Oper.wp at *
    rw [he] at h
    generalize (execOp a.eval o).run P w = r at *
    have step : ∀ a' w', wpList P ops (Nx Q fun a' w' => Touch S w w' ∧ Hs P ops Q S n (listed.setIfInBounds i true) a' w') [] a' w' → Touch S w w' ∧ wpAnyH P .any ops (NoPanic Q) (Touch S w) n (listed.setIfInBounds i true) a' w' := by
      rintro a' w' ⟨hb, hh⟩
      exact ⟨hb, hh.on hb⟩
    cases r with
    | ok n w' =>
      cases n <;> simp only [Oper.upon] at h ⊢ <;>
        first
          | exact step _ _ h
          | exact Calls.mono h (fun e w'' he => by
              cases e
              · exact step _ _ he
              · exact he
              · exact he)
          | exact Rows.mono h (fun _ _ he => step _ _ he)
    | halt x w' => cases x <;> simp only [Oper.upon] at h ⊢ <;> exact h
  · exact .inr ⟨h, q⟩
/-- It alone may come up. -/
theorem Hs.only {n : Nat} {listed : Array Bool} {a : Act} {w : World} {o : Oper} (i : Nat) (d : Option Nat) (hi : ops[i]? = some o)
    (h : wpList P ops (Nx Q fun a' w' => Touch S w w' ∧ Hs P ops Q S n (listed.setIfInBounds i true) a' w') [{ o with guard := none, dst := d }] a w)
    (hr : Region.ready .any ops listed = [i] := by kernel_rfl) (hw : Region.wanted o (yielded ops a.tmps) = true := by rfl) (hd : o.dst = d := by rfl) : Hs P ops Q S (n + 1) listed a w :=
  Hs.one i (Hs.pick i d hi h hw hd) hr
theorem Hs.pickCall {n : Nat} {listed : Array Bool} {a : Act} {w : World} {o : Oper} {f : FuncId} {args : Array Value} (i d : Nat) (hi : ops[i]? = some o)
    (h : Calls P f args w fun e w' => ∃ v a', e = .returned v ∧ a.put (some d) v = a' ∧ Touch S w w' ∧ Hs P ops Q S n (listed.setIfInBounds i true) a' w')
    (hrun : (execOp a.eval o).run P w = .ok (.enter f args) w)
    (hw : Region.wanted o (yielded ops a.tmps) = true := by rfl) (hd : o.dst = some d := by rfl) : Ps P ops Q S n listed a w i := by
  rw [← hd] at h
  unfold Ps wpOp
  simp only [hi, hw, if_true]
  refine .inl ?_
  unfold Oper.wp
  rw [hrun]
  refine h.mono fun e w' => ?_
  rintro ⟨v, a', rfl, rfl, hb, hh⟩
  exact ⟨hb, hh.on hb⟩
/-- A call of a Go function, it alone. -/
theorem Hs.call {n : Nat} {listed : Array Bool} {a : Act} {w : World} {o : Oper} {f : FuncId} {args : Array Value} (i d : Nat) (hi : ops[i]? = some o)
    (h : Calls P f args w fun e w' => ∃ v a', e = .returned v ∧ a.put (some d) v = a' ∧ Touch S w w' ∧ Hs P ops Q S n (listed.setIfInBounds i true) a' w')
    (hrun : (execOp a.eval o).run P w = .ok (.enter f args) w)
    (hr : Region.ready .any ops listed = [i] := by kernel_rfl) (hw : Region.wanted o (yielded ops a.tmps) = true := by rfl) (hd : o.dst = some d := by rfl) : Hs P ops Q S (n + 1) listed a w :=
  Hs.one i (Hs.pickCall i d hi h hrun hw hd) hr
/-- Behind a call. -/
theorem Hs.back {n d : Nat} {listed : Array Bool} {a a' : Act} {w w' : World} {v : Value} (hb : Touch S w w') (h : Hs P ops Q S n listed a' w')
    (ha : a.put (some d) v = a' := by simp only [Act.put, List.setIfInBounds_toArray, List.set_cons_succ, List.set_cons_zero]; rfl) :
    ∃ v' a', Ending.returned v = .returned v' ∧ a.put (some d) v' = a' ∧ Touch S w w' ∧ Hs P ops Q S n listed a' w' := ⟨v, a', rfl, ha, hb, h⟩
/-- Behind an operation that was alone, or was picked. -/
theorem Hs.next {n : Nat} {listed : Array Bool} {a a' : Act} {w w' : World} (hb : Touch S w w') (h : Hs P ops Q S n listed a' w')
    (ha : a = a' := by simp only [Act.put, List.setIfInBounds_toArray, List.set_cons_succ, List.set_cons_zero]; rfl) :
    wpList P ops (Nx Q fun a' w' => Touch S w w' ∧ Hs P ops Q S n listed a' w') [] a w' := by subst ha; exact ⟨hb, h⟩
theorem Hs.done {n : Nat} {listed : Array Bool} {a : Act} {w : World} (h : Q .normal a w) (hr : Region.ready .any ops listed = [] := by kernel_rfl) : Hs P ops Q S n listed a w :=
  wpAnyH_done hr (show NoPanic Q .normal a w from h) _
end
end Go.Proofs.YtkckibcfanaglaaDoor

