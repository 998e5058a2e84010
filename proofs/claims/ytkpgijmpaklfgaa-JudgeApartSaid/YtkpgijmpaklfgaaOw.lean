/- 'Ow': a slice of the call's own, at the head of its block, whatever lies behind its capacity ('l[:i:i]' too); what append leaves of it. No program is named here. -/
import Derived.Test.YtkpgijmpaklfgaaTouch
import Derived.ArgAppend
import Derived.Deep.Upon
namespace Go.Proofs.Ytkpgijmpaklfgaa
open Go.RowKit

def Ow (w : World) (base : Nat) (e : TypeId) (k : Nat) (A : Option Addr) (n c : Nat) (xs : List Value) : Prop :=
  xs.length = n * k ∧ ((A = none ∧ n = 0 ∧ c = 0) ∨ ∃ g Z, A = some ⟨g, 0, none⟩ ∧ base ≤ g ∧ Blk w g e (xs ++ Z) ∧ n ≤ c ∧ c ≤ maxLen ∧ c * k ≤ (xs ++ Z).length)
/-- The slice's block. -/
def bk (A : Option Addr) : Option Nat := A.map (·.block)

section
variable {w w' : World} {base k n c g i : Nat} {e : TypeId} {A : Option Addr} {xs : List Value} {S : List Nat}
theorem Ow.nil (w : World) (base : Nat) (e : TypeId) (k : Nat) : Ow w base e k none 0 0 [] := ⟨by simp, .inl ⟨rfl, rfl, rfl⟩⟩
theorem Ow.of_own (h : w.ownsRow base e k (.slice A n c) n xs) : Ow w base e k A n c xs := by
  refine ⟨h.1, ?_⟩
  rcases h.2 with ⟨h1, h2⟩ | ⟨g, cap, cur, hv, hb, hh, hn, hc, hs, ht⟩
  · cases h1; exact .inl ⟨rfl, rfl, rfl⟩
  · cases hv
    have e1 : xs ++ cur.toList.drop (n * k) = cur.toList := by rw [← ht, List.take_append_drop]
    refine .inr ⟨g, cur.toList.drop (n * k), rfl, hb, ?_, hn, hc, ?_⟩
    · rw [e1]; simpa [Blk] using hh
    · rw [e1]; simp [hs]
theorem Ow.le (h : Ow w base e k A n c xs) : n ≤ c := by
  rcases h.2 with ⟨_, h1, h2⟩ | ⟨_, _, _, _, _, h1, _⟩
  · omega
  · exact h1
theorem Ow.rd (h : Ow w base e k A n c xs) : Rd w w.heap.size A c k n xs := by
  refine ⟨h.1, h.le, ?_⟩
  rcases h.2 with ⟨h0, h1, h2⟩ | ⟨g, Z, hA, hb, hB, hn, hc, hz⟩
  · exact ⟨by rw [h2]; simp [maxLen], fun _ => h2, fun hp => by rw [h1] at hp; simp at hp⟩
  · refine ⟨hc, (fun h => by rw [hA] at h; cases h), fun _ => ⟨g, 0, hA, hB.lt, fun j u hu => ?_⟩⟩
    rw [Nat.zero_add]
    exact hB.cell (by rw [List.getElem?_append_left (List.getElem?_eq_some_iff.1 hu).1]; exact hu)
theorem Ow.touch (h : Ow w base e k A n c xs) (ht : Touch S w w') (hs : ∀ g ∈ S, bk A ≠ some g) : Ow w' base e k A n c xs := by
  refine ⟨h.1, ?_⟩
  rcases h.2 with h2 | ⟨g, Z, hA, hb, hB, r⟩
  · exact .inl h2
  · exact .inr ⟨g, Z, hA, hb, hB.touch ht (fun hm => hs g hm (by rw [hA]; rfl)), r⟩
theorem Ow.past (h : Ow w base e k A n c xs) (hb : Below w.heap.size w w') : Ow w' base e k A n c xs := h.touch (S := []) (.of_below hb) (by simp)
/-- Blocks of another type are others. -/
theorem Ow.ne {e' : TypeId} {ys : List Value} (h : Ow w base e k A n c xs) (h' : Blk w g e' ys) (he : e ≠ e') : bk A ≠ some g := by
  rcases h.2 with ⟨h0, _⟩ | ⟨g', Z, hA, hb, hB, _⟩
  · rw [h0]; simp [bk]
  · rw [hA]
    intro hg
    have e1 : g' = g := by simpa [bk] using hg
    subst e1
    exact hB.ne h' he rfl
/-- 'l[:m:m]'. -/
theorem Ow.head (h : Ow w base e k A n c xs) {m : Nat} (hm : m ≤ n) : Ow w base e k A m m (xs.take (m * k)) := by
  have hl := h.1
  have hmk : m * k ≤ n * k := Nat.mul_le_mul_right k hm
  refine ⟨by rw [List.length_take]; omega, ?_⟩
  rcases h.2 with ⟨h0, h1, h2⟩ | ⟨g, Z, hA, hb, hB, hn, hc, hz⟩
  · exact .inl ⟨h0, by omega, by omega⟩
  · refine .inr ⟨g, xs.drop (m * k) ++ Z, hA, hb, ?_, Nat.le_refl _, by omega, ?_⟩
    · rw [← List.append_assoc, List.take_append_drop]; exact hB
    · simp only [List.length_append, List.length_take, List.length_drop]; omega
/-- A cell of it. -/
theorem Ow.cell (h : Ow w base e k A n c xs) (hA : A = some ⟨g, 0, none⟩) {u : Value} (hu : xs[i]? = some u) : w.cell? ⟨g, i, none⟩ = some u ∧ w.frozen? ⟨g, i, none⟩ = false := by
  rcases h.2 with ⟨h0, _⟩ | ⟨g', Z, hA', hb, hB, _⟩
  · rw [h0] at hA; cases hA
  · rw [hA] at hA'; cases hA'
    exact ⟨hB.cell (by rw [List.getElem?_append_left (List.getElem?_eq_some_iff.1 hu).1]; exact hu), hB.free i⟩
theorem Ow.set (h : Ow w base e k A n c xs) (hA : A = some ⟨g, 0, none⟩) (hi : i < xs.length) (u : Value) : Ow (w.setCell ⟨g, i, none⟩ u) base e k A n c (xs.set i u) := by
  refine ⟨by rw [List.length_set]; exact h.1, ?_⟩
  rcases h.2 with ⟨h0, _⟩ | ⟨g', Z, hA', hb, hB, hn, hc, hz⟩
  · rw [h0] at hA; cases hA
  · rw [hA] at hA'; cases hA'
    have := hB.set i u
    rw [List.set_append_left _ _ hi] at this
    exact .inr ⟨g, Z, hA, hb, this, hn, hc, by simpa using hz⟩
theorem Ow.some (h : Ow w base e k A n c xs) (hn : 0 < n) : ∃ g, A = .some ⟨g, 0, none⟩ ∧ base ≤ g ∧ g < w.heap.size := by
  rcases h.2 with ⟨_, h1, _⟩ | ⟨g, Z, hA, hb, hB, _⟩
  · omega
  · exact ⟨g, hA, hb, hB.lt⟩
theorem Ow.down {base' : Nat} (h : Ow w base e k A n c xs) (hb : base' ≤ base) : Ow w base' e k A n c xs := by
  refine ⟨h.1, ?_⟩
  rcases h.2 with h2 | ⟨g, Z, hA, hg, r⟩
  · exact .inl h2
  · exact .inr ⟨g, Z, hA, by omega, r⟩
theorem Ow.hi (h : Ow w base e k A n c xs) : ∀ g, bk A = Option.some g → g < w.heap.size := by
  intro g hg
  rcases h.2 with ⟨h0, _⟩ | ⟨g', Z, hA, hb, hB, _⟩
  · rw [h0] at hg; cases hg
  · rw [hA] at hg
    have e1 : g' = g := by simpa [bk] using hg
    subst e1; exact hB.lt
theorem Ow.low (h : Ow w base e k A n c xs) : ∀ g, bk A = Option.some g → base ≤ g := by
  intro g hg
  rcases h.2 with ⟨h0, _⟩ | ⟨g', Z, hA, hb, _⟩
  · rw [h0] at hg; cases hg
  · rw [hA] at hg; simp [bk] at hg; omega
end

/-- The slice's block, as a list. -/
def bl (A : Option Addr) : List Nat := match bk A with | some g => [g] | none => []
theorem mem_bl {A : Option Addr} {g : Nat} : g ∈ bl A ↔ bk A = some g := by
  unfold bl
  cases bk A <;> simp [eq_comm]
theorem Touch.of_bk {w w' : World} {A : Option Addr} (h : w.grownBy w' (bk A)) : Touch (bl A) w w' := Touch.of_grown_none h (fun _ hk => mem_bl.2 hk)

section
variable {P : Program}
/-- 'append' onto a slice of the call's own, whatever the source. -/
theorem run_app (w : World) (t ty e : TypeId) (i : TypeInfo) (z : Value) (k bytes : Nat) (ht : P.underlying t = some (.slice e)) (hi : P.info? e = some i) (hz : i.zero = some z) (hk : i.size = k) (hby : i.bytes = bytes) (hzs : z.cells.size = k) (hk0 : 0 < k)
    {base n c : Nat} {A : Option Addr} {xs : List Value} (h : Ow w base e k A n c xs) {B cx m : Nat} {X : Option Addr} {news : List Value} (hr : Rd w B X cx k m news) (h1 : ∀ u ∈ news, u.oneCell' = true)
    (h63 : n + m ≤ maxLen) (hbytes : (n + m) * bytes ≤ 140737488355328) (hbase : base ≤ w.heap.size) :
    ∃ A' c' w', (Builtin.append_ #[t, t] ty #[.slice A n c, .slice X m cx]).run P w = .ok (.slice A' (n + m) c') w' ∧ Ow w' base e k A' (n + m) c' (xs ++ news) ∧ w.grownBy w' (bk A) ∧ (∀ g, bk A' = Option.some g → bk A = Option.some g ∨ w.heap.size ≤ g) ∧ (c < n + m → w.grownBy w' none ∧ Ow w' w.heap.size e k A' (n + m) c' (xs ++ news)) ∧ (c = n → w.grownBy w' none) := by
  rcases Nat.eq_zero_or_pos m with rfl | hm
  · have hn : news = [] := List.eq_nil_of_length_eq_zero (by simpa using hr.1)
    subst hn
    have hle := h.le
    refine ⟨A, c, w, ?_, by simpa using h, World.grownBy.refl _ _, fun g hg => .inl hg, fun h' => absurd h' (by omega), fun _ => World.grownBy.refl _ _⟩
    cases A <;> cases X <;> simp [Builtin.append_, run_underlying ht, sizeOf, typeInfo, hi, Builtin.lenOf, hle, Builtin.firstCells, loadCells, loadCellsFrom, storeCells]
  · obtain ⟨bx, ox, rfl, _, hc⟩ := hr.2.2.2.2 (Nat.mul_pos hm hk0)
    have hnews : ∀ j u, news[j]? = Option.some u → w.cell? ((⟨bx, ox, none⟩ : Addr).add j) = Option.some u := fun j u hu => by rw [add_zero_spot]; exact hc j u hu
    have hown := h
    rcases h.2 with ⟨rfl, rfl, rfl⟩ | ⟨g, Z, rfl, hb, hB, hn, hcm, hfit⟩
    · have hx : xs = [] := List.eq_nil_of_length_eq_zero (by simpa using h.1)
      subst hx
      obtain ⟨v', w', hrun, ho, hg, _⟩ := run_append_own (P := P) w w.heap.size t ty e i z k bytes ht hi hz hk hby hzs hk0 (.slice none 0 0) 0 [] (World.ownsRow_nil w w.heap.size e k) ⟨bx, ox, none⟩ m cx news hr.1 hnews h1 h63 hbytes (Nat.le_refl _)
      obtain ⟨A', c', rfl⟩ := own_slice ho
      exact ⟨A', c', w', hrun, Ow.of_own (own_base ho hbase), hg, fun g hg => .inr ((Ow.of_own ho).low g hg), fun _ => ⟨hg, Ow.of_own ho⟩, fun _ => hg⟩
    · by_cases hroom : n + m ≤ c
      · have hl : xs.length = n * k := hown.1
        have hnl := hr.1
        have hfit2 : n * k + news.length ≤ (xs ++ Z).length := by
          rw [hnl, ← Nat.add_mul]; exact Nat.le_trans (Nat.mul_le_mul_right k hroom) hfit
        have hrun := run_append_room (P := P) w t ty e i ht hi g n c (xs ++ Z).toArray hB ⟨bx, ox, none⟩ m cx news (by rw [hk]; exact hr.1) hnews h1 hroom (by rw [hk]; simpa using hfit2)
        refine ⟨_, _, _, hrun, ⟨by rw [List.length_append, hl, hnl, Nat.add_mul], .inr ⟨g, Z.drop news.length, rfl, hb, ?_, hroom, hcm, ?_⟩⟩, grown_row _ _ _, fun g hg => .inl hg, fun h' => absurd h' (by omega), fun h' => absurd h' (by omega)⟩
        · have e1 : (xs ++ Z).take (n * k) = xs := by rw [← hl]; exact List.take_left
          have e2 : (xs ++ Z).drop (n * k + news.length) = Z.drop news.length := by
            rw [← hl, List.drop_append, List.drop_of_length_le (by omega), List.nil_append]
            congr 1; omega
          have := hB.row (xs ++ news ++ Z.drop news.length).toArray
          rw [hk]
          simp only [e1, e2]
          exact this
        · simp only [List.length_append, List.length_drop] at hfit hfit2 ⊢; omega
      · obtain ⟨v', w', hrun, ho, hg⟩ := run_append_arg_grows (P := P) w t ty e i z k bytes ht hi hz hk hby hzs hk0 ⟨g, 0, none⟩ n c xs hown.1 (fun j u hu => by rw [add_zero_spot, Nat.zero_add]; exact (hown.cell rfl hu).1) ⟨bx, ox, none⟩ m cx news hr.1 hnews (by omega) h63 hbytes
        obtain ⟨A', c', rfl⟩ := own_slice ho
        exact ⟨A', c', w', hrun, Ow.of_own (own_base ho hbase), ⟨hg.os, hg.tape, hg.output, hg.size, fun k hk _ => hg.block k hk (by simp)⟩, fun g hg => .inr ((Ow.of_own ho).low g hg), fun _ => ⟨hg, Ow.of_own ho⟩, fun _ => hg⟩

theorem wpList_app2 {w : World} {ops : Array Oper} {rest : List Oper} {o : Oper} {a : Act} {Q : Exit → Act → World → Prop} (hgd : o.guard = none) (s x : Operand) (t : TypeId)
    (ho : o.op = .call { callee := .builtin .append, args := #[s, x], argTypes := #[t, t] })
    (base : Nat) (e : TypeId) (z : Value) (k bytes : Nat) (ht : P.underlying t = some (.slice e)) (hi : (P.info? e).map (fun i => (i.zero, i.size, i.bytes)) = some (some z, k, bytes)) (hzs : z.cells.size = k) (hk0 : 0 < k)
    (A : Option Addr) (n c : Nat) (xs : List Value) (hs : a.eval s = .slice A n c) (hown : Ow w base e k A n c xs)
    (B : Nat) (X : Option Addr) (cx m : Nat) (news : List Value) (hx : a.eval x = .slice X m cx) (hr : Rd w B X cx k m news) (h1 : ∀ u ∈ news, u.oneCell' = true)
    (h63 : n + m ≤ maxLen) (hbytes : (n + m) * bytes ≤ 140737488355328) (hbase : base ≤ w.heap.size)
    (h : ∀ A' c' w', Ow w' base e k A' (n + m) c' (xs ++ news) → w.grownBy w' (bk A) → (∀ g, bk A' = Option.some g → bk A = Option.some g ∨ w.heap.size ≤ g) → wpList P ops Q rest (a.put o.dst (.slice A' (n + m) c')) w') : wpList P ops Q (o :: rest) a w := by
  refine wpList_plain hgd fun K hK => ?_
  obtain ⟨i, hi0, hz, hk, hby⟩ := info_parts hi
  obtain ⟨A', c', w', hrun, h2, h3, h4, _⟩ := run_app (P := P) w t o.type e i z k bytes ht hi0 hz hk hby hzs hk0 hown hr h1 h63 hbytes hbase
  unfold Oper.wp execOp
  simp only [ho, resolve, invoke, builtin, Sem.run_bind, Sem.run_pure, Result.andThen_ok, List.map_toArray, List.map_cons, List.map_nil, hs, hx, hrun]
  exact hK _ _ (h A' c' w' h2 h3 h4)

/-- Where its capacity is its length: nothing old is written. -/
theorem wpList_appH {w : World} {ops : Array Oper} {rest : List Oper} {o : Oper} {a : Act} {Q : Exit → Act → World → Prop} (hgd : o.guard = none) (s x : Operand) (t : TypeId)
    (ho : o.op = .call { callee := .builtin .append, args := #[s, x], argTypes := #[t, t] })
    (base : Nat) (e : TypeId) (z : Value) (k bytes : Nat) (ht : P.underlying t = some (.slice e)) (hi : (P.info? e).map (fun i => (i.zero, i.size, i.bytes)) = some (some z, k, bytes)) (hzs : z.cells.size = k) (hk0 : 0 < k)
    (A : Option Addr) (n c : Nat) (xs : List Value) (hs : a.eval s = .slice A n c) (hown : Ow w base e k A n c xs)
    (B : Nat) (X : Option Addr) (cx m : Nat) (news : List Value) (hx : a.eval x = .slice X m cx) (hr : Rd w B X cx k m news) (h1 : ∀ u ∈ news, u.oneCell' = true)
    (h63 : n + m ≤ maxLen) (hbytes : (n + m) * bytes ≤ 140737488355328) (hbase : base ≤ w.heap.size) (hfull : c = n)
    (h : ∀ A' c' w', Ow w' base e k A' (n + m) c' (xs ++ news) → w.grownBy w' none → wpList P ops Q rest (a.put o.dst (.slice A' (n + m) c')) w') : wpList P ops Q (o :: rest) a w := by
  refine wpList_plain hgd fun K hK => ?_
  obtain ⟨i, hi0, hz, hk, hby⟩ := info_parts hi
  obtain ⟨A', c', w', hrun, h2, _, _, _, h3⟩ := run_app (P := P) w t o.type e i z k bytes ht hi0 hz hk hby hzs hk0 hown hr h1 h63 hbytes hbase
  unfold Oper.wp execOp
  simp only [ho, resolve, invoke, builtin, Sem.run_bind, Sem.run_pure, Result.andThen_ok, List.map_toArray, List.map_cons, List.map_nil, hs, hx, hrun]
  exact hK _ _ (h A' c' w' h2 (h3 hfull))

/-- Where it does not fit: the row is new. -/
theorem wpList_appG {w : World} {ops : Array Oper} {rest : List Oper} {o : Oper} {a : Act} {Q : Exit → Act → World → Prop} (hgd : o.guard = none) (s x : Operand) (t : TypeId)
    (ho : o.op = .call { callee := .builtin .append, args := #[s, x], argTypes := #[t, t] })
    (base : Nat) (e : TypeId) (z : Value) (k bytes : Nat) (ht : P.underlying t = some (.slice e)) (hi : (P.info? e).map (fun i => (i.zero, i.size, i.bytes)) = some (some z, k, bytes)) (hzs : z.cells.size = k) (hk0 : 0 < k)
    (A : Option Addr) (n c : Nat) (xs : List Value) (hs : a.eval s = .slice A n c) (hown : Ow w base e k A n c xs)
    (B : Nat) (X : Option Addr) (cx m : Nat) (news : List Value) (hx : a.eval x = .slice X m cx) (hr : Rd w B X cx k m news) (h1 : ∀ u ∈ news, u.oneCell' = true)
    (h63 : n + m ≤ maxLen) (hbytes : (n + m) * bytes ≤ 140737488355328) (hbase : base ≤ w.heap.size) (hfull : c < n + m)
    (h : ∀ A' c' w', Ow w' w.heap.size e k A' (n + m) c' (xs ++ news) → w.grownBy w' none → wpList P ops Q rest (a.put o.dst (.slice A' (n + m) c')) w') : wpList P ops Q (o :: rest) a w := by
  refine wpList_plain hgd fun K hK => ?_
  obtain ⟨i, hi0, hz, hk, hby⟩ := info_parts hi
  obtain ⟨A', c', w', hrun, _, _, _, h2, _⟩ := run_app (P := P) w t o.type e i z k bytes ht hi0 hz hk hby hzs hk0 hown hr h1 h63 hbytes hbase
  unfold Oper.wp execOp
  simp only [ho, resolve, invoke, builtin, Sem.run_bind, Sem.run_pure, Result.andThen_ok, List.map_toArray, List.map_cons, List.map_nil, hs, hx, hrun]
  exact hK _ _ (h A' c' w' (h2 hfull).2 (h2 hfull).1)

/-- 'l[:m:m]' ahead of its region. -/
theorem run_head {w : World} (t e : TypeId) {z : Option Value} {k bytes : Nat} (ht : P.underlying t = some (.slice e)) (hi : (P.info? e).map (fun i => (i.zero, i.size, i.bytes)) = some (z, k, bytes))
    (A : Option Addr) (n c m : Nat) (hm : m ≤ c) : (Instr.sliceAt t (.slice A n c) none (some (.int .i64 m)) (some (.int .i64 m))).run P w = .ok (.slice A m m) w := by
  obtain ⟨i, hi0, hzz⟩ := Option.map_eq_some_iff.1 hi
  have el : P.elem t = e := by simp [Program.elem, ht]
  have ht' : P.underlying t = some (.slice (P.elem t)) := by rw [el]; exact ht
  have hs : (sizeOf (P.elem t)).run P w = .ok k w := by rw [el]; simp [sizeOf, typeInfo, hi0]; simp only [Prod.mk.injEq] at hzz; exact hzz.2.1
  have h3 : (Instr.sliceAt t (.slice A n c) none (some (.int .i64 m)) (some (.int .i64 m))).run P w = (Instr.slice t (.slice A n c) none (some (.int .i64 m)) (some (.int .i64 m))).run P w := by
    simp [Instr.sliceAt, run_underlying ht]
  have h4 : (0 : Int) ≤ (m : Int) := by omega
  rw [h3]
  simp [Instr.slice, run_underlying ht', Instr.sliceBounds, run_sliceBound, hs, hm]
  intro _
  cases A <;> simp [Addr.add]
theorem run_headOp {w : World} {dst : Option Tmp} {t : TypeId} {x y z : Operand} {ty : TypeId} {pos : String} {after : Array Edge} {guard : Option (Nat × Bool)} {ρ : Operand → Value} (e : TypeId) {zz : Option Value} {k bytes : Nat} (ht : P.underlying t = some (.slice e)) (hi : (P.info? e).map (fun i => (i.zero, i.size, i.bytes)) = some (zz, k, bytes))
    {A : Option Addr} {n c m : Nat} (hm : m ≤ c) (hx : ρ x = .slice A n c) (hy : ρ y = .int .i64 m) (hz : ρ z = .int .i64 m) :
    (execOp ρ { dst, op := .slice t x none (some y) (some z), type := ty, pos, after, guard }).run P w = .ok (.value (.slice A m m)) w := by
  unfold execOp
  simp only [Option.map_none, Option.map_some, hx, hy, hz, Sem.run_bind, run_head (P := P) t e ht hi A n c m hm, Result.andThen_ok, Sem.run_pure]
end
section
variable {w w' : World} {base k n c g : Nat} {e : TypeId} {A : Option Addr} {xs : List Value} {S : List Nat}
theorem Ow.blk (h : Ow w base e k A n c xs) (hg : bk A = Option.some g) : ∃ ys, Blk w g e ys := by
  rcases h.2 with ⟨h0, _⟩ | ⟨g', Z, hA, _, hB, _⟩
  · rw [h0] at hg; cases hg
  · rw [hA] at hg
    have e1 : g' = g := by simpa [bk] using hg
    subst e1; exact ⟨_, hB⟩
/-- Behind a call that wrote blocks of other types. -/
theorem Ow.other (h : Ow w base e k A n c xs) (ht : Touch S w w') (hs : ∀ s ∈ S, ∃ t ys, Blk w s t ys ∧ t ≠ e) : Ow w' base e k A n c xs :=
  h.touch ht (fun s hm hk => by
    obtain ⟨t, ys, hB, hne⟩ := hs s hm
    obtain ⟨zs, hZ⟩ := h.blk hk
    exact hB.ne hZ hne rfl)
end

end Go.Proofs.Ytkpgijmpaklfgaa
