/- Contracts of the library's Delete at packets, of Drop, Take of a net. -/
import Derived.Test.YtkckibcfanaglaaDoorSeg2
import Derived.Lib.SliceRun
import Derived.Test.YtkckibcfanaglaaDoorSeg1
import Derived.Test.YtkckibcfanaglaaDoorRows
import Derived.Laws.StructEq
import Derived.Laws.BitsAllLaws
import Derived.Laws.Bits128
namespace Go.Proofs.YtkckibcfanaglaaDoor
open Go.RowKit

section
variable {P : Program}
theorem run_shortN {w : World} (t e : TypeId) {z : Option Value} {k bytes : Nat} (ht : P.underlying t = some (.slice e)) (hi : (P.info? e).map (fun i => (i.zero, i.size, i.bytes)) = some (z, k, bytes))
    (A : Option Addr) (n c m : Nat) (hm : m ≤ c) : (Instr.sliceAt t (.slice A n c) none (some (.int .i64 m)) none).run P w = .ok (.slice A m c) w := by
  rw [run_cut t e ht hi A n c none (some (.int .i64 m)) .i64 .i64 0 m (Or.inl ⟨rfl, rfl⟩) (Or.inr rfl) (Nat.zero_le _) hm]
  have h0 : (if c = 0 then A else A.map (·.add (0 * k))) = A := by
    split
    · rfl
    · cases A <;> simp [Addr.add]
  rw [h0]; rfl
theorem run_shortOp {w : World} {dst : Option Tmp} {t : TypeId} {x y : Operand} {ty : TypeId} {pos : String} {after : Array Edge} {guard : Option (Nat × Bool)} {ρ : Operand → Value} (e : TypeId) {zz : Option Value} {k bytes : Nat} (ht : P.underlying t = some (.slice e)) (hi : (P.info? e).map (fun i => (i.zero, i.size, i.bytes)) = some (zz, k, bytes))
    {A : Option Addr} {n c m : Nat} (hm : m ≤ c) (hx : ρ x = .slice A n c) (hy : ρ y = .int .i64 m) :
    (execOp ρ { dst, op := .slice t x none (some y) none, type := ty, pos, after, guard }).run P w = .ok (.value (.slice A m c)) w := by
  unfold execOp
  simp only [Option.map_none, Option.map_some, hx, hy, Sem.run_bind, run_shortN (P := P) t e ht hi A n c m hm, Result.andThen_ok, Sem.run_pure]
/-- 's[l:]' ahead of its region. -/
theorem run_restOp {w : World} {dst : Option Tmp} {t : TypeId} {x y : Operand} {ty : TypeId} {pos : String} {after : Array Edge} {guard : Option (Nat × Bool)} {ρ : Operand → Value} (e : TypeId) {zz : Option Value} {k bytes : Nat} (ht : P.underlying t = some (.slice e)) (hi : (P.info? e).map (fun i => (i.zero, i.size, i.bytes)) = some (zz, k, bytes))
    {A : Option Addr} {n c l : Nat} (hl : l ≤ n) (hn : n ≤ c) (hx : ρ x = .slice A n c) (hy : ρ y = .int .i64 l) :
    (execOp ρ { dst, op := .slice t x (some y) none none, type := ty, pos, after, guard }).run P w = .ok (.value (.slice (if c = l then A else A.map (·.add (l * k))) (n - l) (c - l))) w := by
  unfold execOp
  simp only [Option.map_none, Option.map_some, hx, hy, Sem.run_bind, run_cut (P := P) (w := w) t e ht hi A n c (some (.int .i64 l)) none .i64 .i64 l n (.inr rfl) (.inl ⟨rfl, rfl⟩) hl hn, Result.andThen_ok, Sem.run_pure]

section
variable {w w' : World} {base k n c g : Nat} {e : TypeId} {A : Option Addr} {xs : List Value}
/-- 's[:m]': the capacity stays. -/
theorem Ow.cut (h : Ow w base e k A n c xs) {m : Nat} (hm : m ≤ n) : Ow w base e k A m c (xs.take (m * k)) := by
  have hl := h.1
  have hmk : m * k ≤ n * k := Nat.mul_le_mul_right k hm
  refine ⟨by rw [List.length_take]; omega, ?_⟩
  rcases h.2 with ⟨h0, h1, h2⟩ | ⟨g, Z, hA, hb, hB, hn, hc, hz⟩
  · exact .inl ⟨h0, by omega, h2⟩
  · refine .inr ⟨g, xs.drop (m * k) ++ Z, hA, hb, ?_, by omega, hc, ?_⟩
    · rw [← List.append_assoc, List.take_append_drop]; exact hB
    · rw [← List.append_assoc, List.take_append_drop]; exact hz
/-- A cell behind its end is written. -/
theorem Ow.hind (h : Ow w base e k A n c xs) (hA : A = Option.some ⟨g, 0, none⟩) {i : Nat} (hi : n * k ≤ i) (u : Value) : Ow (w.setCell ⟨g, i, none⟩ u) base e k A n c xs := by
  refine ⟨h.1, ?_⟩
  have hl := h.1
  rcases h.2 with ⟨h0, _⟩ | ⟨g', Z, hA', hb, hB, hn, hc, hz⟩
  · rw [h0] at hA; cases hA
  · rw [hA] at hA'; cases hA'
    have := hB.set i u
    rw [List.set_append_right _ _ (by omega)] at this
    exact .inr ⟨g, Z.set (i - xs.length) u, hA, hb, this, hn, hc, by simpa using hz⟩
theorem Ow.there (h : Ow w base e k A n c xs) (hA : A = Option.some ⟨g, 0, none⟩) {i : Nat} (hi : i < c * k) : (w.cell? ⟨g, i, none⟩).isSome = true ∧ w.frozen? ⟨g, i, none⟩ = false := by
  rcases h.2 with ⟨h0, _⟩ | ⟨g', Z, hA', hb, hB, hn, hc, hz⟩
  · rw [h0] at hA; cases hA
  · rw [hA] at hA'; cases hA'
    have hlt : i < (xs ++ Z).length := by omega
    exact ⟨by rw [hB.cell (List.getElem?_eq_getElem hlt)]; rfl, hB.free i⟩
end

/-- 'append' where there is room: in place. -/
theorem run_appR (w : World) (t ty e : TypeId) (i : TypeInfo) (k : Nat) (ht : P.underlying t = some (.slice e)) (hi : P.info? e = some i) (hk : i.size = k) (hk0 : 0 < k)
    {base n c : Nat} {A : Option Addr} {xs : List Value} (h : Ow w base e k A n c xs) {B cx m : Nat} {X : Option Addr} {news : List Value} (hr : Rd w B X cx k m news) (h1 : ∀ u ∈ news, u.oneCell' = true) (hroom : n + m ≤ c) :
    ∃ w', (Builtin.append_ #[t, t] ty #[.slice A n c, .slice X m cx]).run P w = .ok (.slice A (n + m) c) w' ∧ Ow w' base e k A (n + m) c (xs ++ news) ∧ w.grownBy w' (bk A) := by
  rcases Nat.eq_zero_or_pos m with rfl | hm
  · have hn : news = [] := List.eq_nil_of_length_eq_zero (by simpa using hr.1)
    subst hn
    have hle := h.le
    refine ⟨w, ?_, by simpa using h, World.grownBy.refl _ _⟩
    cases A <;> cases X <;> simp [Builtin.append_, run_underlying ht, sizeOf, typeInfo, hi, Builtin.lenOf, hle, Builtin.firstCells, loadCells, loadCellsFrom, storeCells]
  · obtain ⟨bx, ox, rfl, _, hc⟩ := hr.2.2.2.2 (Nat.mul_pos hm hk0)
    have hnews : ∀ j u, news[j]? = Option.some u → w.cell? ((⟨bx, ox, none⟩ : Addr).add j) = Option.some u := fun j u hu => by rw [add_zero_spot]; exact hc j u hu
    have hown := h
    rcases h.2 with ⟨rfl, rfl, rfl⟩ | ⟨g, Z, rfl, hb, hB, hn, hcm, hfit⟩
    · omega
    · have hl : xs.length = n * k := hown.1
      have hnl := hr.1
      have hfit2 : n * k + news.length ≤ (xs ++ Z).length := by
        rw [hnl, ← Nat.add_mul]; exact Nat.le_trans (Nat.mul_le_mul_right k hroom) hfit
      have hrun := run_append_room (P := P) w t ty e i ht hi g n c (xs ++ Z).toArray hB ⟨bx, ox, none⟩ m cx news (by rw [hk]; exact hr.1) hnews h1 hroom (by rw [hk]; simpa using hfit2)
      refine ⟨_, hrun, ⟨by rw [List.length_append, hl, hnl, Nat.add_mul], .inr ⟨g, Z.drop news.length, rfl, hb, ?_, hroom, hcm, ?_⟩⟩, grown_row _ _ _⟩
      · have e1 : (xs ++ Z).take (n * k) = xs := by rw [← hl]; exact List.take_left
        have e2 : (xs ++ Z).drop (n * k + news.length) = Z.drop news.length := by
          rw [← hl, List.drop_append, List.drop_of_length_le (by omega), List.nil_append]
          congr 1; omega
        have := hB.row (xs ++ news ++ Z.drop news.length).toArray
        rw [hk]
        simp only [e1, e2]
        exact this
      · simp only [List.length_append, List.length_drop] at hfit hfit2 ⊢; omega
theorem wpList_appR {w : World} {ops : Array Oper} {rest : List Oper} {o : Oper} {a : Act} {Q : Exit → Act → World → Prop} (hgd : o.guard = none) (s x : Operand) (t : TypeId)
    (ho : o.op = .call { callee := .builtin .append, args := #[s, x], argTypes := #[t, t] })
    (base : Nat) (e : TypeId) (z : Value) (k bytes : Nat) (ht : P.underlying t = some (.slice e)) (hi : (P.info? e).map (fun i => (i.zero, i.size, i.bytes)) = some (some z, k, bytes)) (hk0 : 0 < k)
    (A : Option Addr) (n c : Nat) (xs : List Value) (hs : a.eval s = .slice A n c) (hown : Ow w base e k A n c xs)
    (B : Nat) (X : Option Addr) (cx m : Nat) (news : List Value) (hx : a.eval x = .slice X m cx) (hr : Rd w B X cx k m news) (h1 : ∀ u ∈ news, u.oneCell' = true) (hroom : n + m ≤ c)
    (h : ∀ w', Ow w' base e k A (n + m) c (xs ++ news) → w.grownBy w' (bk A) → wpList P ops Q rest (a.put o.dst (.slice A (n + m) c)) w') : wpList P ops Q (o :: rest) a w := by
  refine wpList_plain hgd fun K hK => ?_
  obtain ⟨i, hi0, hz, hk, hby⟩ := info_parts hi
  obtain ⟨w', hrun, h2, h3⟩ := run_appR (P := P) w t o.type e i k ht hi0 hk hk0 hown hr h1 hroom
  unfold Oper.wp execOp
  simp only [ho, resolve, invoke, builtin, Sem.run_bind, Sem.run_pure, Result.andThen_ok, List.map_toArray, List.map_cons, List.map_nil, hs, hx, hrun]
  exact hK _ _ (h w' h2 h3)
/-- The same operation in two worlds that hold the same. -/
theorem wpList_tail {w : World} {ops : Array Oper} {rest : List Oper} {o : Oper} {a : Act} {Q : Exit → Act → World → Prop} (hgd : o.guard = none) (t : TypeId) (x lo hig : Operand) (ho : o.op = .slice t x (some lo) (some hig) none)
    (e : TypeId) (z : Option Value) (k bytes : Nat) (ht : P.underlying t = some (.slice e)) (hi : (P.info? e).map (fun i => (i.zero, i.size, i.bytes)) = some (z, k, bytes))
    (g c n l m : Nat) (hx : a.eval x = .slice (some ⟨g, 0, none⟩) n c) (hlo : a.eval lo = .int .i64 l) (hhi : a.eval hig = .int .i64 m) (h1 : l < m) (h2 : m ≤ c)
    (h : wpList P ops Q rest (a.put o.dst (.slice (some ⟨g, l * k, none⟩) (m - l) (c - l))) w) : wpList P ops Q (o :: rest) a w := by
  refine wpList_plain hgd fun K hK => ?_
  have hrun := run_cut (P := P) (w := w) t e ht hi (some ⟨g, 0, none⟩) n c (some (.int .i64 l)) (some (.int .i64 m)) .i64 .i64 l m (.inr rfl) (.inr rfl) (by omega) h2
  have ha : (if c = l then (some ⟨g, 0, none⟩ : Option Addr) else (some ⟨g, 0, none⟩ : Option Addr).map (·.add (l * k))) = some ⟨g, l * k, none⟩ := by
    rw [if_neg (by omega)]; simp [add_zero_spot]
  rw [ha] at hrun
  unfold Oper.wp execOp
  simp only [ho, hx, hlo, hhi, Option.map_none, Option.map_some, Sem.run_bind, hrun, Result.andThen_ok, Sem.run_pure]
  exact hK _ _ h
end

theorem pk_info : (Tryd.prog.info? 55).map (fun i => (i.zero, i.size, i.bytes)) = some (some (.agg #[.int .i64 0, .slice none 0 0]), 2, 32) := by kernel_rfl
/-- 'clear' of one packet. -/
theorem run_clearP {w : World} {g o c : Nat} {ty : TypeId} (h0 : (w.cell? ⟨g, o, none⟩).isSome = true ∧ w.frozen? ⟨g, o, none⟩ = false) (h1 : (w.cell? ⟨g, o + 1, none⟩).isSome = true ∧ w.frozen? ⟨g, o + 1, none⟩ = false) :
    (Builtin.clear_ #[46] ty #[.slice (some ⟨g, o, none⟩) 1 c]).run Tryd.prog w = .ok (.tuple #[]) ((w.setCell ⟨g, o, none⟩ (.int .i64 0)).setCell ⟨g, o + 1, none⟩ (.slice none 0 0)) := by
  have hv : (zeroValue 55).run Tryd.prog w = .ok (.agg #[.int .i64 0, .slice none 0 0]) w := by kernel_rfl
  have hzc : (Builtin.zeroCells (Value.agg #[.int .i64 0, .slice none 0 0]).cells 1).toList = [.int .i64 0, .slice none 0 0] := by kernel_rfl
  have hst := run_storeCells_cells (P := Tryd.prog) g o [.int .i64 0, .slice none 0 0] 0 w
    (fun j hj => by
      rcases (by simp at hj; omega : j = 0 ∨ j = 1) with rfl | rfl
      · exact h0.1
      · exact h1.1)
    (fun j hj => by
      rcases (by simp at hj; omega : j = 0 ∨ j = 1) with rfl | rfl
      · exact h0.2
      · exact h1.2)
    (fun v hv => by
      simp only [List.mem_cons, List.not_mem_nil, or_false] at hv
      rcases hv with rfl | rfl <;> rfl)
  simp only [Nat.add_zero] at hst
  simp [Builtin.clear_, run_underlying Tryd.underlying46, hv, hzc, hst, World.setCells]
theorem wpList_clearP {w : World} {ops : Array Oper} {rest : List Oper} {o : Oper} {a : Act} {Q : Exit → Act → World → Prop} (hgd : o.guard = none) (x : Operand)
    (ho : o.op = .call { callee := .builtin .clear, args := #[x], argTypes := #[46] })
    (base g l c cx : Nat) (xs : List Value) (hx : a.eval x = .slice (some ⟨g, l * 2, none⟩) 1 cx) (hown : Ow w base 55 2 (some ⟨g, 0, none⟩) l c xs) (hc : l < c)
    (h : ∀ w', Ow w' base 55 2 (some ⟨g, 0, none⟩) l c xs → w.grownBy w' (some g) → wpList Tryd.prog ops Q rest (a.put o.dst (.tuple #[])) w') : wpList Tryd.prog ops Q (o :: rest) a w := by
  refine wpList_plain hgd fun K hK => ?_
  have hrun := run_clearP (w := w) (g := g) (o := l * 2) (c := cx) (ty := o.type) (hown.there rfl (by omega)) (hown.there rfl (by omega))
  unfold Oper.wp execOp
  simp only [ho, resolve, invoke, builtin, Sem.run_bind, Sem.run_pure, Result.andThen_ok, List.map_toArray, List.map_cons, List.map_nil, hx, hrun]
  exact hK _ _ (h _ ((hown.hind rfl (Nat.le_refl _) _).hind rfl (Nat.le_succ _) _) ((grown_set w g (l * 2) _).trans (grown_set _ g (l * 2 + 1) _)))

set_option maxHeartbeats 4000000 in
set_option maxRecDepth 100000 in
theorem del_c (w : World) (base : Nat) (A : Option Addr) (n c i : Nat) (Q : List Mp) (h : Ow w base 55 2 A n c (pks Q)) (hi : i < n) (hn : n ≤ 1000) :
    Calls Tryd.prog 28 #[.slice A n c, .int .i64 i, .int .i64 ((i : Int) + 1)] w fun e w' => e = .returned (.slice A ((n - 1 : Nat)) c) ∧
      Ow w' base 55 2 A (n - 1) c (pks (Q.take i ++ Q.drop (i + 1))) ∧ w.grownBy w' (bk A) := by
  have hl : Q.length = n := by have := h.1; rw [pks_length] at this; omega
  have hle := h.le
  have hcap := h.rd.cap
  unfold maxLen at hcap
  obtain ⟨g, rfl, -, -⟩ := h.some (by omega)
  have HO := Lib.hid h
  have HL := Lib.hid hl
  have HC := Lib.hid (h.cut (m := i) (by omega))
  have HR := Lib.hid (show Rd w w.heap.size (if c = i + 1 then some ⟨g, 0, none⟩ else (some ⟨g, 0, none⟩ : Option Addr).map (·.add ((i + 1) * 2))) (c - (i + 1)) 2 (n - (i + 1)) (pks (Q.drop (i + 1))) from by
    have := h.rd.cut (l := i + 1) (m := n) (by omega) (Nat.le_refl _)
    rw [pks_drop, ← hl, List.take_of_length_le (by rw [pks_length, List.length_drop, hl]; omega), hl] at this
    exact this)
  clear h hl
  have h1 : (i : Int) ≠ (i : Int) + 1 := by omega
  go_enter Tryd.func28, Tryd.ntmps28
  go_wp2_with fail
  have HOd := Lib.hid (show Ow w.drew base 55 2 (some ⟨g, 0, none⟩) i c ((pks Q).take (i * 2)) from HC.out)
  have HRd := Lib.hid (HR.out.drew)
  have E1 := Lib.hid (show i + (n - (i + 1)) = n - 1 by omega)
  have E2 := Lib.hid (show (pks Q).take (i * 2) ++ pks (Q.drop (i + 1)) = pks (Q.take i ++ Q.drop (i + 1)) by rw [pks_take, pks_append])
  clear HC HR
  refine Hs.begin (bl (some ⟨g, 0, none⟩)) ?_
  refine Hs.take (v := .slice (some ⟨g, 0, none⟩) n c) 0 20 rfl ?_ (fun _ _ => rfl)
  refine Hs.take (v := .int .i64 i) 1 21 rfl ?_ (fun _ _ => rfl)
  refine Hs.take (v := .slice (some ⟨g, 0, none⟩) i c) 2 22 rfl ?_ (fun w' hw' => run_shortOp 55 Tryd.underlying46 pk_info (by omega) rfl rfl)
  refine Hs.take (v := .slice (some ⟨g, 0, none⟩) n c) 3 23 rfl ?_ (fun _ _ => rfl)
  refine Hs.take (v := .int .i64 ((i + 1 : Nat) : Int)) 4 24 rfl ?_ (fun _ _ => rfl)
  refine Hs.take (v := .slice (if c = i + 1 then some ⟨g, 0, none⟩ else (some ⟨g, 0, none⟩ : Option Addr).map (·.add ((i + 1) * 2))) (n - (i + 1)) (c - (i + 1))) 5 25 rfl ?_ (fun w' hw' => run_restOp 55 Tryd.underlying46 pk_info (by omega) hle rfl rfl)
  refine Hs.only 6 (some 26) rfl ?_
  refine wpList_appR rfl (.tmp 22) (.tmp 25) 46 rfl base 55 _ 2 32 Tryd.underlying46 pk_info (by omega) (some ⟨g, 0, none⟩) i c _ rfl HOd.out _ _ _ (n - (i + 1)) _ rfl HRd.out (pks_oneCell _) (by omega) ?_
  rw [E1.out, E2.out]
  intro w1 O1 g1
  refine Hs.next (Touch.of_bk g1) ?_ (by simp only [Act.put, List.setIfInBounds_toArray, List.set_cons_succ, List.set_cons_zero]; rfl)
  refine Hs.take (v := .slice (some ⟨g, 0, none⟩) (n - 1 : Nat) c) 7 0 rfl ?_ (fun _ _ => rfl)
  refine Hs.done ?_
  have O2 := Lib.hid O1
  have G2 := Lib.hid (show w.grownBy w1 (some g) from ⟨g1.os, g1.tape, g1.output, g1.size, fun k hk hn => g1.block k hk (by simpa [bk] using hn)⟩)
  clear O1 g1 HOd HRd
  go_wp2_with (first
    | ((with_reducible show wpList _ _ _ ((⟨some 31, Op.slice _ _ _ _ _, _, _, _, _⟩ : Oper) :: _) _ _); go_must (refine wpList_tail rfl 46 (.tmp 27) (.tmp 29) (.tmp 30) rfl 55 _ 2 32 Tryd.underlying46 pk_info g c (n - 1) (n - 1) n rfl rfl rfl (by omega) hle ?_))
    | ((with_reducible show wpList _ _ _ ((⟨none, Op.call _, _, _, _, _⟩ : Oper) :: _) _ _); go_must (refine wpList_clearP rfl (.tmp 31) rfl base g (n - 1) c _ _ (by rw [show n - (n - 1) = 1 by omega]; rfl) O2.out (by omega) ?_; rintro w3 o3 g3)))
  all_goals (go_ret; first | exact ⟨rfl, o3, G2.out.trans g3⟩ | (subst_vars; exact ⟨rfl, o3, G2.out.trans g3⟩))

/-- A slice of packets is loaded out of its cell, stored into it. -/
theorem run_loadP {w : World} {dst : Option Tmp} {x : Operand} {ty : TypeId} {pos : String} {after : Array Edge} {guard : Option (Nat × Bool)} {ρ : Operand → Value} {p : Addr} {A : Option Addr} {n c : Nat}
    (h : w.cell? p = some (.slice A n c)) (hx : ρ x = .pointer (some p)) : (execOp ρ { dst, op := .load 46 x, type := ty, pos, after, guard }).run Tryd.prog w = .ok (.value (.slice A n c)) w := by
  go_simp
theorem run_storeP {w : World} {dst : Option Tmp} {x y : Operand} {ty : TypeId} {pos : String} {after : Array Edge} {guard : Option (Nat × Bool)} {ρ : Operand → Value} {g i : Nat} {A A' : Option Addr} {n c n' c' : Nat}
    (h : w.cell? ⟨g, i, none⟩ = some (.slice A' n' c')) (hf : w.frozen? ⟨g, i, none⟩ = false) (hx : ρ x = .pointer (some ⟨g, i, none⟩)) (hy : ρ y = .slice A n c) :
    (execOp ρ { dst, op := .store 46 x y, type := ty, pos, after, guard }).run Tryd.prog w = .ok .skip (w.setCell ⟨g, i, none⟩ (.slice A n c)) := by
  go_simp

theorem nDrop_nil (w : World) (i : Int) : Calls Tryd.prog 16 #[.pointer none, .int .i64 i] w fun e w' => e = .returned (.bool false) ∧ w = w' := by
  go_enter Tryd.func16, Tryd.ntmps16
  go_wp2_with fail
  refine (nHas_nil w i).mono ?_
  rintro e w' ⟨rfl, rfl⟩
  go_wp2_with fail
  go_ret
  exact ⟨rfl, rfl⟩
theorem nTake_nil (w : World) (i : Int) : Calls Tryd.prog 14 #[.pointer none, .int .i64 i] w fun e w' => e = .returned (.tuple #[.slice none 0 0, .bool false]) ∧ w = w' := by
  go_enter Tryd.func14, Tryd.ntmps14
  go_wp2_with fail
  refine (nLook_nil w i).mono ?_
  rintro e w' ⟨rfl, rfl⟩
  go_wp2_with fail
  refine (nDrop_nil w i).mono ?_
  rintro e w' ⟨rfl, rfl⟩
  go_wp2_with fail
  go_ret2
  exact ⟨rfl, rfl⟩

section
variable {w : World} {g : Nat} {F : List Nat} {L : List Msg}
theorem nDrop_out (hn : Nt w g F L) {i : Int} (hi : ¬ (0 ≤ i ∧ i < L.length)) : Calls Tryd.prog 16 #[.pointer (some ⟨g, 0, none⟩), .int .i64 i] w fun e w' => e = .returned (.bool false) ∧ w = w' := by
  have HH := Lib.hid (nHas_out hn hi)
  clear hn hi
  go_enter Tryd.func16, Tryd.ntmps16
  go_wp2_with fail
  refine HH.out.mono ?_
  rintro e w' ⟨rfl, rfl⟩
  go_wp2_with fail
  go_ret
  exact ⟨rfl, rfl⟩
theorem nTake_out (hn : Nt w g F L) {i : Int} (hi : ¬ (0 ≤ i ∧ i < L.length)) : Calls Tryd.prog 14 #[.pointer (some ⟨g, 0, none⟩), .int .i64 i] w fun e w' => e = .returned (.tuple #[.slice none 0 0, .bool false]) ∧ w = w' := by
  have H1 := Lib.hid (nLook_out hn hi)
  have H2 := Lib.hid (nDrop_out hn hi)
  clear hn hi
  go_enter Tryd.func14, Tryd.ntmps14
  go_wp2_with fail
  refine H1.out.mono ?_
  rintro e w' ⟨rfl, rfl⟩
  go_wp2_with fail
  refine H2.out.mono ?_
  rintro e w' ⟨rfl, rfl⟩
  go_wp2_with fail
  go_ret2
  exact ⟨rfl, rfl⟩
set_option maxHeartbeats 4000000 in
set_option maxRecDepth 100000 in
theorem nDrop_in (hn : Nt w g F L) {i : Nat} (hi : i < L.length) : Calls Tryd.prog 16 #[.pointer (some ⟨g, 0, none⟩), .int .i64 i] w fun e w' => e = .returned (.bool true) ∧ NtD w w' g F (PNet.del L i) := by
  have HH := Lib.hid (nHas_in hn hi)
  have hl := hn.le
  obtain ⟨A, c, Q, rfl, hB, hO, hQ, rfl⟩ := hn.ex
  rw [List.length_map] at hi hl
  have k0 := hB.cell (i := 0) rfl
  have HD := Lib.hid (del_c w 0 A Q.length c i Q hO hi (by omega))
  have HB := Lib.hid hB
  have HO := Lib.hid hO
  have HQ := Lib.hid hQ
  clear hn hB hO hQ
  go_enter Tryd.func16, Tryd.ntmps16
  go_wp2_with fail
  refine HH.out.mono ?_
  rintro e w' ⟨rfl, rfl⟩
  go_wp2_with fail
  refine HD.out.mono ?_
  rintro e w1 ⟨rfl, o1, g1⟩
  have hne : bk A ≠ some g := HO.out.ne HB.out (by decide)
  have HB1 := Lib.hid (HB.out.touch (Touch.of_bk g1) (fun hm => hne (mem_bl.1 hm)))
  have e1 : (Q.take i ++ Q.drop (i + 1)).length = Q.length - 1 := by simp; omega
  have HW := Nt.anewP (fun _ => False) (w0 := w) (Q := Q) (Q2 := Q.take i ++ Q.drop (i + 1)) (c := c) (c2 := c) (A2 := A) (Below.refl _ _) HB.out HO.out g1 (fun k hk => .inl hk) (by rw [e1]; exact o1) (fun p hp => by
    have hp' : p ∈ Q := by
      rcases List.mem_append.1 hp with h | h
      · exact List.mem_of_mem_take h
      · exact List.mem_of_mem_drop h
    exact ⟨HQ.out p hp', .inl hp'⟩) (by rw [e1]; omega)
  rw [e1] at HW
  have HW' := Lib.hid (show NtD w _ g _ _ from ⟨by obtain ⟨F', h1, h2⟩ := HW.1; exact ⟨F', h1, fun k hk => (h2 k hk).elim id False.elim⟩, HW.2⟩)
  have k1 := HB1.out.cell (i := 0) rfl
  have f1 := HB1.out.free 0
  clear o1 g1 hne e1 HW k0
  go_wp2_with fail
  go_ret
  exact ⟨rfl, by rw [PNet.del_map]; exact HW'.out⟩
theorem nTake_in (hn : Nt w g F L) {i : Nat} {m : Msg} (hi : L[i]? = some m) :
    Calls Tryd.prog 14 #[.pointer (some ⟨g, 0, none⟩), .int .i64 i] w fun e w' => ∃ A' c', e = .returned (.tuple #[.slice A' (PMsg.enc m).length c', .bool true]) ∧
      Ow w' w.heap.size 5 1 A' (PMsg.enc m).length c' (bs (PMsg.enc m)) ∧ NtD w w' g F (PNet.del L i) := by
  have HN := Lib.hid hn
  have H1 := Lib.hid (nLook_in hn hi)
  have HI := Lib.hid (List.getElem?_eq_some_iff.1 hi).1
  clear hn hi
  go_enter Tryd.func14, Tryd.ntmps14
  go_wp2_with fail
  refine H1.out.mono ?_
  rintro e w1 ⟨A1, c1, rfl, o1, b1⟩
  have N1 := Lib.hid (HN.out.past b1)
  have O1 := Lib.hid (Ow.of_own o1)
  have B1 := Lib.hid b1
  clear o1 b1
  go_wp2_with fail
  refine (nDrop_in N1.out HI.out).mono ?_
  rintro e w2 ⟨rfl, h2⟩
  have W2 := Lib.hid (h2.behind B1.out)
  have O2 := Lib.hid (O1.out.touch h2.touch (fun s hs hk => by
    have h1 := HN.out.hi s hs
    have h2 := O1.out.low s hk
    omega))
  clear h2
  go_wp2_with fail
  go_ret2
  exact ⟨A1, c1, rfl, O2.out, W2.out⟩
end
end Go.Proofs.YtkckibcfanaglaaDoor

/- Contract of crc.Seal. -/
namespace Go.Proofs.YtkckibcfanaglaaDoor
open Go.RowKit

set_option maxRecDepth 100000 in
theorem Seal_c (w : World) (B : Nat) (A : Option Addr) (c n : Nat) (l : List Int) (h : Rd w B A c 1 n (bs l)) (hb : isB l) (ht : Tab w) (hn : n ≤ 140000000000000) :
    Calls Tryd.prog 33 #[.slice A n c] w fun e w' => ∃ A' c', e = .returned (.slice A' (n + 4) c') ∧ w'.ownsRow w.heap.size 5 1 (.slice A' (n + 4) c') (n + 4) (bs (PCrc.sealed l)) ∧ Below w.heap.size w w' := by
  obtain ⟨i0, hi, hz0, hz1, hz2⟩ := info_parts byte_info
  have hs := PCrc.sum_lt hb
  have h4 := four_cells _ hs
  have H4 := Lib.hid h4; clear h4
  go_enter Tryd.func33, Tryd.ntmps33
  go_wp2_with fail
  refine (Sum_c w B A c n l h hb ht).mono ?_
  rintro e w1 ⟨rfl, rfl⟩
  have hse : PCrc.sealed l = l ++ PCrc.four (PCrc.sum l) := rfl
  have HSE := Lib.hid hse; clear hse
  generalize PCrc.sum l = s at *
  go_wp2_with (at_make; refine wpList_make_own _ rfl _ _ 35 rfl w.heap.size 5 i0 (.int .u8 0) 1 Tryd.underlying35 hi hz0 hz1 _ _ _ (n + 4) rfl rfl (by omega) ?b2 ?b3 (Nat.le_refl _) ?_)
  case b2 => rw [hz2]; omega
  case b3 => unfold maxLen; omega
  intro w0 hown0 hgrow0
  have hb0 : Below w.heap.size w w0 := (Below.refl _ _).grown hgrow0 (Nat.le_refl _) (fun k h => by cases h)
  have hr := h.past hb0
  have hsz0 := hb0.size
  go_wp2_with (at_builtin; refine wpList_app rfl (.tmp 11) (.tmp 12) _ rfl w.heap.size 5 _ 1 1 Tryd.underlying35 byte_info rfl (by omega) _ 0 [] rfl hown0 B A c n (bs l) rfl hr (bs_one l) (by unfold maxLen; omega) (by omega) hb0.size ?_)
  intro A' c' w1 hown1 hgrow1 hbel1
  have hown1' : w1.ownsRow w.heap.size 5 1 (.slice A' n c') n (bs l) := by simpa using hown1
  clear hown1
  have hsz1 := hbel1.size
  go_wp2_with (at_builtin; go_must (refine wpList_pushes rfl (.tmp 14) (.tmp 26) _ rfl w.heap.size 5 _ 1 1 4 Tryd.underlying35 byte_info rfl (by omega) rfl (by simp [maxLen]) A' c' n (bs l) rfl hown1' rfl ?c1 ?c2 ?c3 ?c4 ?_))
  case c1 => exact ⟨rfl, rfl, rfl, rfl⟩
  case c2 => unfold maxLen; omega
  case c3 => omega
  case c4 => omega
  intro A2 c2 w2 hown2 hgrow2 hbel2
  rw [H4.out, ← bs_append, ← HSE.out] at hown2
  go_wp2_with fail
  go_ret
  exact ⟨A2, c2, rfl, hown2, (hb0.trans hbel1).trans hbel2⟩
end Go.Proofs.YtkckibcfanaglaaDoor

/- Contracts of entries: isIn, May, Same, Eq, of the program and of the document. -/
namespace Go.Proofs.YtkckibcfanaglaaDoor
open Go.RowKit

theorem isIn_c (w : World) (n lo hi : Int) :
    Calls Tryd.prog 50 #[.int .i64 n, .int .i64 lo, .int .i64 hi] w fun e w' => e = .returned (.bool (decide (lo ≤ n ∧ n ≤ hi))) ∧ w = w' := by
  obtain ⟨r, HR⟩ : ∃ r, decide (lo ≤ n ∧ n ≤ hi) = r := ⟨_, rfl⟩
  rw [HR]
  by_cases h1 : lo ≤ n
  · by_cases h2 : n ≤ hi
    · have H := Lib.hid (HR.symm.trans (decide_eq_true (And.intro h1 h2)))
      clear HR
      go_enter Tryd.func50, Tryd.ntmps50
      go_wp2
      go_ret
      exact ⟨by rw [H.out]; rfl, rfl⟩
    · have H := Lib.hid (HR.symm.trans (decide_eq_false (fun h : lo ≤ n ∧ n ≤ hi => h2 h.2)))
      clear HR
      go_enter Tryd.func50, Tryd.ntmps50
      go_wp2
      go_ret
      exact ⟨by rw [H.out]; rfl, rfl⟩
  · have H := Lib.hid (HR.symm.trans (decide_eq_false (fun h : lo ≤ n ∧ n ≤ hi => h1 h.1)))
    clear HR
    go_enter Tryd.func50, Tryd.ntmps50
    go_wp2
    go_ret
    exact ⟨by rw [H.out]; rfl, rfl⟩

set_option maxRecDepth 100000 in
theorem May_c (w : World) (e : Ent) : Calls Tryd.prog 46 #[ev e] w fun x w' => x = .returned (.bool (PEnt.may e)) ∧ Below w.heap.size w w' := by
  obtain ⟨fr, boot, seq, ord, lev, stamp, data⟩ := e
  by_cases h0 : ¬ (1 ≤ fr ∧ fr ≤ 7)
  · have HM := Lib.hid (show PEnt.may ⟨fr, boot, seq, ord, lev, stamp, data⟩ = false from decide_eq_false (fun h => h0 h.1))
    have D0 := Lib.hid (decide_eq_false h0)
    clear h0
    show Calls _ _ #[.agg #[.int .i64 fr, .int .i64 boot, .int .i64 seq, .int .i64 ord, .int .i64 lev, .int .i64 stamp, .string data]] _ _
    go_enter Tryd.func46, Tryd.ntmps46
    go_wp2_with fail
    refine (isIn_c _ fr 1 7).mono ?_
    rw [D0.out]
    rintro e w1 ⟨rfl, rfl⟩
    go_wp2_with fail
    go_ret
    exact ⟨by rw [HM.out]; rfl, (Below.refl _ _).alloc (Nat.le_refl _) _⟩
  replace h0 := Decidable.of_not_not h0
  by_cases h1 : ¬ (1 ≤ boot ∧ boot ≤ 1099511627776)
  · have HM := Lib.hid (show PEnt.may ⟨fr, boot, seq, ord, lev, stamp, data⟩ = false from decide_eq_false (fun h => h1 h.2.1))
    have D0 := Lib.hid (decide_eq_true h0)
    have D1 := Lib.hid (decide_eq_false h1)
    clear h0 h1
    show Calls _ _ #[.agg #[.int .i64 fr, .int .i64 boot, .int .i64 seq, .int .i64 ord, .int .i64 lev, .int .i64 stamp, .string data]] _ _
    go_enter Tryd.func46, Tryd.ntmps46
    go_wp2_with fail
    refine (isIn_c _ fr 1 7).mono ?_
    rw [D0.out]
    rintro e w1 ⟨rfl, rfl⟩
    go_wp2_with fail
    refine (isIn_c _ boot 1 1099511627776).mono ?_
    rw [D1.out]
    rintro e w1 ⟨rfl, rfl⟩
    go_wp2_with fail
    go_ret
    exact ⟨by rw [HM.out]; rfl, (Below.refl _ _).alloc (Nat.le_refl _) _⟩
  replace h1 := Decidable.of_not_not h1
  by_cases h2 : ¬ (1 ≤ seq ∧ seq ≤ 1099511627776)
  · have HM := Lib.hid (show PEnt.may ⟨fr, boot, seq, ord, lev, stamp, data⟩ = false from decide_eq_false (fun h => h2 h.2.2.1))
    have D0 := Lib.hid (decide_eq_true h0)
    have D1 := Lib.hid (decide_eq_true h1)
    have D2 := Lib.hid (decide_eq_false h2)
    clear h0 h1 h2
    show Calls _ _ #[.agg #[.int .i64 fr, .int .i64 boot, .int .i64 seq, .int .i64 ord, .int .i64 lev, .int .i64 stamp, .string data]] _ _
    go_enter Tryd.func46, Tryd.ntmps46
    go_wp2_with fail
    refine (isIn_c _ fr 1 7).mono ?_
    rw [D0.out]
    rintro e w1 ⟨rfl, rfl⟩
    go_wp2_with fail
    refine (isIn_c _ boot 1 1099511627776).mono ?_
    rw [D1.out]
    rintro e w1 ⟨rfl, rfl⟩
    go_wp2_with fail
    refine (isIn_c _ seq 1 1099511627776).mono ?_
    rw [D2.out]
    rintro e w1 ⟨rfl, rfl⟩
    go_wp2_with fail
    go_ret
    exact ⟨by rw [HM.out]; rfl, (Below.refl _ _).alloc (Nat.le_refl _) _⟩
  replace h2 := Decidable.of_not_not h2
  by_cases h3 : ¬ (0 ≤ ord ∧ ord ≤ 2)
  · have HM := Lib.hid (show PEnt.may ⟨fr, boot, seq, ord, lev, stamp, data⟩ = false from decide_eq_false (fun h => h3 h.2.2.2.1))
    have D0 := Lib.hid (decide_eq_true h0)
    have D1 := Lib.hid (decide_eq_true h1)
    have D2 := Lib.hid (decide_eq_true h2)
    have D3 := Lib.hid (decide_eq_false h3)
    clear h0 h1 h2 h3
    show Calls _ _ #[.agg #[.int .i64 fr, .int .i64 boot, .int .i64 seq, .int .i64 ord, .int .i64 lev, .int .i64 stamp, .string data]] _ _
    go_enter Tryd.func46, Tryd.ntmps46
    go_wp2_with fail
    refine (isIn_c _ fr 1 7).mono ?_
    rw [D0.out]
    rintro e w1 ⟨rfl, rfl⟩
    go_wp2_with fail
    refine (isIn_c _ boot 1 1099511627776).mono ?_
    rw [D1.out]
    rintro e w1 ⟨rfl, rfl⟩
    go_wp2_with fail
    refine (isIn_c _ seq 1 1099511627776).mono ?_
    rw [D2.out]
    rintro e w1 ⟨rfl, rfl⟩
    go_wp2_with fail
    refine (isIn_c _ ord 0 2).mono ?_
    rw [D3.out]
    rintro e w1 ⟨rfl, rfl⟩
    go_wp2_with fail
    go_ret
    exact ⟨by rw [HM.out]; rfl, (Below.refl _ _).alloc (Nat.le_refl _) _⟩
  replace h3 := Decidable.of_not_not h3
  by_cases h4 : ¬ (0 ≤ lev ∧ lev ≤ 2)
  · have HM := Lib.hid (show PEnt.may ⟨fr, boot, seq, ord, lev, stamp, data⟩ = false from decide_eq_false (fun h => h4 h.2.2.2.2.1))
    have D0 := Lib.hid (decide_eq_true h0)
    have D1 := Lib.hid (decide_eq_true h1)
    have D2 := Lib.hid (decide_eq_true h2)
    have D3 := Lib.hid (decide_eq_true h3)
    have D4 := Lib.hid (decide_eq_false h4)
    clear h0 h1 h2 h3 h4
    show Calls _ _ #[.agg #[.int .i64 fr, .int .i64 boot, .int .i64 seq, .int .i64 ord, .int .i64 lev, .int .i64 stamp, .string data]] _ _
    go_enter Tryd.func46, Tryd.ntmps46
    go_wp2_with fail
    refine (isIn_c _ fr 1 7).mono ?_
    rw [D0.out]
    rintro e w1 ⟨rfl, rfl⟩
    go_wp2_with fail
    refine (isIn_c _ boot 1 1099511627776).mono ?_
    rw [D1.out]
    rintro e w1 ⟨rfl, rfl⟩
    go_wp2_with fail
    refine (isIn_c _ seq 1 1099511627776).mono ?_
    rw [D2.out]
    rintro e w1 ⟨rfl, rfl⟩
    go_wp2_with fail
    refine (isIn_c _ ord 0 2).mono ?_
    rw [D3.out]
    rintro e w1 ⟨rfl, rfl⟩
    go_wp2_with fail
    refine (isIn_c _ lev 0 2).mono ?_
    rw [D4.out]
    rintro e w1 ⟨rfl, rfl⟩
    go_wp2_with fail
    go_ret
    exact ⟨by rw [HM.out]; rfl, (Below.refl _ _).alloc (Nat.le_refl _) _⟩
  replace h4 := Decidable.of_not_not h4
  by_cases h5 : ¬ (0 ≤ stamp ∧ stamp ≤ 1099511627776)
  · have HM := Lib.hid (show PEnt.may ⟨fr, boot, seq, ord, lev, stamp, data⟩ = false from decide_eq_false (fun h => h5 h.2.2.2.2.2.1))
    have D0 := Lib.hid (decide_eq_true h0)
    have D1 := Lib.hid (decide_eq_true h1)
    have D2 := Lib.hid (decide_eq_true h2)
    have D3 := Lib.hid (decide_eq_true h3)
    have D4 := Lib.hid (decide_eq_true h4)
    have D5 := Lib.hid (decide_eq_false h5)
    clear h0 h1 h2 h3 h4 h5
    show Calls _ _ #[.agg #[.int .i64 fr, .int .i64 boot, .int .i64 seq, .int .i64 ord, .int .i64 lev, .int .i64 stamp, .string data]] _ _
    go_enter Tryd.func46, Tryd.ntmps46
    go_wp2_with fail
    refine (isIn_c _ fr 1 7).mono ?_
    rw [D0.out]
    rintro e w1 ⟨rfl, rfl⟩
    go_wp2_with fail
    refine (isIn_c _ boot 1 1099511627776).mono ?_
    rw [D1.out]
    rintro e w1 ⟨rfl, rfl⟩
    go_wp2_with fail
    refine (isIn_c _ seq 1 1099511627776).mono ?_
    rw [D2.out]
    rintro e w1 ⟨rfl, rfl⟩
    go_wp2_with fail
    refine (isIn_c _ ord 0 2).mono ?_
    rw [D3.out]
    rintro e w1 ⟨rfl, rfl⟩
    go_wp2_with fail
    refine (isIn_c _ lev 0 2).mono ?_
    rw [D4.out]
    rintro e w1 ⟨rfl, rfl⟩
    go_wp2_with fail
    refine (isIn_c _ stamp 0 1099511627776).mono ?_
    rw [D5.out]
    rintro e w1 ⟨rfl, rfl⟩
    go_wp2_with fail
    go_ret
    exact ⟨by rw [HM.out]; rfl, (Below.refl _ _).alloc (Nat.le_refl _) _⟩
  replace h5 := Decidable.of_not_not h5
  by_cases h6 : ¬ (data.size ≤ 16)
  · have HM := Lib.hid (show PEnt.may ⟨fr, boot, seq, ord, lev, stamp, data⟩ = false from decide_eq_false (fun h => h6 h.2.2.2.2.2.2))
    have D0 := Lib.hid (decide_eq_true h0)
    have D1 := Lib.hid (decide_eq_true h1)
    have D2 := Lib.hid (decide_eq_true h2)
    have D3 := Lib.hid (decide_eq_true h3)
    have D4 := Lib.hid (decide_eq_true h4)
    have D5 := Lib.hid (decide_eq_true h5)
    clear h0 h1 h2 h3 h4 h5
    show Calls _ _ #[.agg #[.int .i64 fr, .int .i64 boot, .int .i64 seq, .int .i64 ord, .int .i64 lev, .int .i64 stamp, .string data]] _ _
    go_enter Tryd.func46, Tryd.ntmps46
    go_wp2_with fail
    refine (isIn_c _ fr 1 7).mono ?_
    rw [D0.out]
    rintro e w1 ⟨rfl, rfl⟩
    go_wp2_with fail
    refine (isIn_c _ boot 1 1099511627776).mono ?_
    rw [D1.out]
    rintro e w1 ⟨rfl, rfl⟩
    go_wp2_with fail
    refine (isIn_c _ seq 1 1099511627776).mono ?_
    rw [D2.out]
    rintro e w1 ⟨rfl, rfl⟩
    go_wp2_with fail
    refine (isIn_c _ ord 0 2).mono ?_
    rw [D3.out]
    rintro e w1 ⟨rfl, rfl⟩
    go_wp2_with fail
    refine (isIn_c _ lev 0 2).mono ?_
    rw [D4.out]
    rintro e w1 ⟨rfl, rfl⟩
    go_wp2_with fail
    refine (isIn_c _ stamp 0 1099511627776).mono ?_
    rw [D5.out]
    rintro e w1 ⟨rfl, rfl⟩
    go_wp2_with fail
    go_ret
    exact ⟨by rw [HM.out]; show Ending.returned (.bool (decide ((data.size : Int) ≤ 16))) = _; rw [decide_eq_false (by omega)], (Below.refl _ _).alloc (Nat.le_refl _) _⟩
  replace h6 := Decidable.of_not_not h6
  have HM := Lib.hid (show PEnt.may ⟨fr, boot, seq, ord, lev, stamp, data⟩ = true from decide_eq_true ⟨h0, h1, h2, h3, h4, h5, h6⟩)
  have D0 := Lib.hid (decide_eq_true h0)
  have D1 := Lib.hid (decide_eq_true h1)
  have D2 := Lib.hid (decide_eq_true h2)
  have D3 := Lib.hid (decide_eq_true h3)
  have D4 := Lib.hid (decide_eq_true h4)
  have D5 := Lib.hid (decide_eq_true h5)
  clear h0 h1 h2 h3 h4 h5
  show Calls _ _ #[.agg #[.int .i64 fr, .int .i64 boot, .int .i64 seq, .int .i64 ord, .int .i64 lev, .int .i64 stamp, .string data]] _ _
  go_enter Tryd.func46, Tryd.ntmps46
  go_wp2_with fail
  refine (isIn_c _ fr 1 7).mono ?_
  rw [D0.out]
  rintro e w1 ⟨rfl, rfl⟩
  go_wp2_with fail
  refine (isIn_c _ boot 1 1099511627776).mono ?_
  rw [D1.out]
  rintro e w1 ⟨rfl, rfl⟩
  go_wp2_with fail
  refine (isIn_c _ seq 1 1099511627776).mono ?_
  rw [D2.out]
  rintro e w1 ⟨rfl, rfl⟩
  go_wp2_with fail
  refine (isIn_c _ ord 0 2).mono ?_
  rw [D3.out]
  rintro e w1 ⟨rfl, rfl⟩
  go_wp2_with fail
  refine (isIn_c _ lev 0 2).mono ?_
  rw [D4.out]
  rintro e w1 ⟨rfl, rfl⟩
  go_wp2_with fail
  refine (isIn_c _ stamp 0 1099511627776).mono ?_
  rw [D5.out]
  rintro e w1 ⟨rfl, rfl⟩
  go_wp2_with fail
  go_ret
  exact ⟨by rw [HM.out]; show Ending.returned (.bool (decide ((data.size : Int) ≤ 16))) = _; rw [decide_eq_true (by omega)], (Below.refl _ _).alloc (Nat.le_refl _) _⟩
end Go.Proofs.YtkckibcfanaglaaDoor

/- Six numbers by value; what is owned from further up; an array by value asked. -/
namespace Go.Proofs.YtkckibcfanaglaaDoor
open Go.RowKit


/-- An entry's numbers, as an array by value. -/
def nv (e : Ent) : Value := .agg #[.int .i64 e.fr, .int .i64 e.boot, .int .i64 e.seq, .int .i64 e.ord, .int .i64 e.lev, .int .i64 e.stamp]
/-- What is a later world's own is an elder one's own. -/
theorem own_from {w : World} {base b0 : Nat} {e : TypeId} {k n : Nat} {v : Value} {xs : List Value} (h : w.ownsRow base e k v n xs) (hb : b0 ≤ base) : w.ownsRow b0 e k v n xs := by
  refine ⟨h.1, ?_⟩
  rcases h.2 with h2 | ⟨g, cap, cur, h1, h2, h3⟩
  · exact .inl h2
  · exact .inr ⟨g, cap, cur, h1, Nat.le_trans hb h2, h3⟩
section
variable {P : Program}
theorem run_part1 {w : World} {e : TypeId} {cs : List Value} {i : Nat} {u : Value} (ha : (isAgg e).run P w = .ok false w) (hu : cs[i]? = some u) : (part e cs.toArray i).run P w = .ok u w := by
  unfold part
  simp [Sem.run_bind, ha, hu]
/-- 'a[i]' of an array by value, its elements of one cell. -/
theorem wpList_index1 {w : World} {ops : Array Oper} {rest : List Oper} {o : Oper} {a : Act} {Q : Exit → Act → World → Prop} (hgd : o.guard = none) (t : TypeId) (x ix : Operand) (ho : o.op = .index t x ix)
    (n : Nat) (e : TypeId) (ht : P.underlying t = some (.array n e)) (ha : ∀ w, (isAgg e).run P w = .ok false w) (hz : ∀ w, (sizeOf e).run P w = .ok 1 w)
    (cs : List Value) (hx : a.eval x = .agg cs.toArray) (i : Nat) (hi : a.eval ix = .int .i64 i) (hlt : i < n) (u : Value) (hu : cs[i]? = some u)
    (h : wpList P ops Q rest (a.put o.dst u) w) : wpList P ops Q (o :: rest) a w := by
  refine wpList_plain hgd fun K hK => ?_
  have hrun : (Instr.index t (.agg cs.toArray) (.int .i64 i)).run P w = .ok u w := by
    simp [Instr.index, Sem.run_bind, asIntOf, run_underlying ht, hlt, hz, run_part1 (ha w) hu]
  unfold Oper.wp execOp
  simp only [ho, hx, hi, Sem.run_bind, hrun, Result.andThen_ok, Sem.run_pure]
  exact hK _ _ h
end
theorem encN_snoc {l : List Int} {i : Nat} {x : Int} (h : l[i]? = some x) : PEnt.encN (l.take (i + 1)) = PEnt.encN (l.take i) ++ PNum.sev (PNum.zig x) := by
  obtain ⟨hi, he⟩ := List.getElem?_eq_some_iff.1 h
  rw [List.take_succ_eq_append_getElem hi, PEnt.encN_append, he]
  simp [PEnt.encN]
end Go.Proofs.YtkckibcfanaglaaDoor

/- Small facts of encoded lists. -/
namespace Go.Proofs.YtkckibcfanaglaaDoor
open Go.RowKit


theorem all_snoc {l : List Ent} {i : Nat} {e : Ent} (h : l[i]? = some e) : (l.take (i + 1)).all PEnt.may = ((l.take i).all PEnt.may && PEnt.may e) := by
  obtain ⟨hi, he⟩ := List.getElem?_eq_some_iff.1 h
  rw [List.take_succ_eq_append_getElem hi, he]; simp
theorem enc_snoc {l : List Ent} {i : Nat} {e : Ent} (h : l[i]? = some e) : PEnt.enc (l.take (i + 1)) = PEnt.enc (l.take i) ++ PEnt.encE e := by
  obtain ⟨hi, he⟩ := List.getElem?_eq_some_iff.1 h
  rw [List.take_succ_eq_append_getElem hi, PEnt.enc_append, he]; simp [PEnt.enc]
theorem encode_bad {l : List Ent} {e : Ent} (hm : e ∈ l) (h : PEnt.may e = false) : PEnt.encode l = [] := by
  unfold PEnt.encode
  rw [if_neg]
  intro ha
  have := List.all_eq_true.1 ha e hm
  rw [h] at this; cases this
theorem encode_good {l : List Ent} (h : l.all PEnt.may = true) : PEnt.encode l = PEnt.enc l := if_pos h
end Go.Proofs.YtkckibcfanaglaaDoor

/- Contracts of isIn, bit, numbersOf, msgOf, mayEntries. -/
namespace Go.Proofs.YtkckibcfanaglaaDoor
open Go.RowKit

theorem wIsIn_c (w : World) (n lo hi : Int) :
    Calls Tryd.prog 38 #[.int .i64 n, .int .i64 lo, .int .i64 hi] w fun e w' => e = .returned (.bool (decide (lo ≤ n ∧ n ≤ hi))) ∧ w = w' := by
  obtain ⟨r, HR⟩ : ∃ r, decide (lo ≤ n ∧ n ≤ hi) = r := ⟨_, rfl⟩
  rw [HR]
  by_cases h1 : lo ≤ n
  · by_cases h2 : n ≤ hi
    · have H := Lib.hid (HR.symm.trans (decide_eq_true (And.intro h1 h2)))
      clear HR
      go_enter Tryd.func38, Tryd.ntmps38
      go_wp2
      go_ret
      exact ⟨by rw [H.out]; rfl, rfl⟩
    · have H := Lib.hid (HR.symm.trans (decide_eq_false (fun h : lo ≤ n ∧ n ≤ hi => h2 h.2)))
      clear HR
      go_enter Tryd.func38, Tryd.ntmps38
      go_wp2
      go_ret
      exact ⟨by rw [H.out]; rfl, rfl⟩
  · have H := Lib.hid (HR.symm.trans (decide_eq_false (fun h : lo ≤ n ∧ n ≤ hi => h1 h.1)))
    clear HR
    go_enter Tryd.func38, Tryd.ntmps38
    go_wp2
    go_ret
    exact ⟨by rw [H.out]; rfl, rfl⟩

theorem bit_c (w : World) (b : Bool) : Calls Tryd.prog 41 #[.bool b] w fun e w' => e = .returned (.int .i64 (PMsg.bit b)) ∧ w = w' := by
  cases b
  all_goals
    go_enter Tryd.func41, Tryd.ntmps41
    go_wp2
    go_ret
    exact ⟨rfl, rfl⟩

set_option maxHeartbeats 4000000 in
set_option maxRecDepth 100000 in
theorem wNums_c (w : World) (m : Msg) (A : Option Addr) (c : Nat) : Calls Tryd.prog 31 #[mv m A c] w fun x w' => x = .returned (nv13 (PMsg.ns m)) ∧ Below w.heap.size w w' := by
  obtain ⟨kind, fr, dst, boot, view, last, mem, pos, es, com, num, clk, yes⟩ := m
  have W1 := Lib.hid ((Below.refl w.heap.size w).alloc (Nat.le_refl _) (.cells #[.int .i64 kind, .int .i64 fr, .int .i64 dst, .int .i64 boot, .int .i64 view, .int .i64 last, .int .i64 mem, .int .i64 pos, .slice A es.length c, .int .i64 com, .int .i64 num, .int .i64 clk, .bool yes] 31))
  have K0 := Blk.new w #[.int .i64 kind, .int .i64 fr, .int .i64 dst, .int .i64 boot, .int .i64 view, .int .i64 last, .int .i64 mem, .int .i64 pos, .slice A es.length c, .int .i64 com, .int .i64 num, .int .i64 clk, .bool yes] 31
  show Calls _ _ #[.agg #[.int .i64 kind, .int .i64 fr, .int .i64 dst, .int .i64 boot, .int .i64 view, .int .i64 last, .int .i64 mem, .int .i64 pos, .slice A es.length c, .int .i64 com, .int .i64 num, .int .i64 clk, .bool yes]] _ _
  go_enter Tryd.func31, Tryd.ntmps31
  go_wp2_with fail
  have hs : (w.alloc (.cells #[.int .i64 kind, .int .i64 fr, .int .i64 dst, .int .i64 boot, .int .i64 view, .int .i64 last, .int .i64 mem, .int .i64 pos, .slice A es.length c, .int .i64 com, .int .i64 num, .int .i64 clk, .bool yes] 31)).heap.size = w.heap.size + 1 := by simp
  generalize w.alloc (.cells #[.int .i64 kind, .int .i64 fr, .int .i64 dst, .int .i64 boot, .int .i64 view, .int .i64 last, .int .i64 mem, .int .i64 pos, .slice A es.length c, .int .i64 com, .int .i64 num, .int .i64 clk, .bool yes] 31) = w1 at *
  have W2 := Lib.hid (W1.out.trans (((Below.refl w1.heap.size w1).alloc (Nat.le_refl _) (.cells #[.int .i64 0, .int .i64 0, .int .i64 0, .int .i64 0, .int .i64 0, .int .i64 0, .int .i64 0, .int .i64 0, .int .i64 0, .int .i64 0, .int .i64 0, .int .i64 0, .int .i64 0] 63)).mono W1.out.size))
  have K1 := K0.alloc (.cells #[.int .i64 0, .int .i64 0, .int .i64 0, .int .i64 0, .int .i64 0, .int .i64 0, .int .i64 0, .int .i64 0, .int .i64 0, .int .i64 0, .int .i64 0, .int .i64 0, .int .i64 0] 63)
  have K2 := Blk.new w1 #[.int .i64 0, .int .i64 0, .int .i64 0, .int .i64 0, .int .i64 0, .int .i64 0, .int .i64 0, .int .i64 0, .int .i64 0, .int .i64 0, .int .i64 0, .int .i64 0, .int .i64 0] 63
  rw [hs] at K2
  have S2 : (w1.alloc (.cells #[.int .i64 0, .int .i64 0, .int .i64 0, .int .i64 0, .int .i64 0, .int .i64 0, .int .i64 0, .int .i64 0, .int .i64 0, .int .i64 0, .int .i64 0, .int .i64 0, .int .i64 0] 63)).heap.size = w.heap.size + 2 := by simp [hs]
  generalize w1.alloc (.cells #[.int .i64 0, .int .i64 0, .int .i64 0, .int .i64 0, .int .i64 0, .int .i64 0, .int .i64 0, .int .i64 0, .int .i64 0, .int .i64 0, .int .i64 0, .int .i64 0, .int .i64 0] 63) = w2 at *
  clear K0
  have KM := Lib.hid K1
  have KN := Lib.hid K2
  clear K1 K2 hs
-- REGION curfew/wire.numbersOf 1 wnums1 2
  refine Hb.beginB (B := w.heap.size + 1) ?_
  refine Hb.take 0 3 rfl ?_ (fun w' hw' => by go_simp; first | done | rfl)
  refine Hb.take (v := .int .i64 kind) 1 4 rfl ?_ (fun w' hw' => by have hc := (KM.out.drew.below hw' (Nat.lt_succ_self _)).cell (i := 0) rfl; go_simp)
  refine Hb.take 2 5 rfl ?_ (fun w' hw' => by go_simp; first | done | rfl)
  refine Hb.take (v := .int .i64 fr) 3 6 rfl ?_ (fun w' hw' => by have hc := (KM.out.drew.below hw' (Nat.lt_succ_self _)).cell (i := 1) rfl; go_simp)
  refine Hb.take 4 7 rfl ?_ (fun w' hw' => by go_simp; first | done | rfl)
  refine Hb.take (v := .int .i64 dst) 5 8 rfl ?_ (fun w' hw' => by have hc := (KM.out.drew.below hw' (Nat.lt_succ_self _)).cell (i := 2) rfl; go_simp)
  refine Hb.take 6 9 rfl ?_ (fun w' hw' => by go_simp; first | done | rfl)
  refine Hb.take (v := .int .i64 boot) 7 10 rfl ?_ (fun w' hw' => by have hc := (KM.out.drew.below hw' (Nat.lt_succ_self _)).cell (i := 3) rfl; go_simp)
  refine Hb.take 8 11 rfl ?_ (fun w' hw' => by go_simp; first | done | rfl)
  refine Hb.take (v := .int .i64 view) 9 12 rfl ?_ (fun w' hw' => by have hc := (KM.out.drew.below hw' (Nat.lt_succ_self _)).cell (i := 4) rfl; go_simp)
  refine Hb.take 10 13 rfl ?_ (fun w' hw' => by go_simp; first | done | rfl)
  refine Hb.take (v := .int .i64 last) 11 14 rfl ?_ (fun w' hw' => by have hc := (KM.out.drew.below hw' (Nat.lt_succ_self _)).cell (i := 5) rfl; go_simp)
  refine Hb.take 12 15 rfl ?_ (fun w' hw' => by go_simp; first | done | rfl)
  refine Hb.take (v := .int .i64 mem) 13 16 rfl ?_ (fun w' hw' => by have hc := (KM.out.drew.below hw' (Nat.lt_succ_self _)).cell (i := 6) rfl; go_simp)
  refine Hb.take 14 17 rfl ?_ (fun w' hw' => by go_simp; first | done | rfl)
  refine Hb.take (v := .int .i64 pos) 15 18 rfl ?_ (fun w' hw' => by have hc := (KM.out.drew.below hw' (Nat.lt_succ_self _)).cell (i := 7) rfl; go_simp)
  refine Hb.take 16 19 rfl ?_ (fun w' hw' => by go_simp; first | done | rfl)
  refine Hb.take (v := .int .i64 com) 17 20 rfl ?_ (fun w' hw' => by have hc := (KM.out.drew.below hw' (Nat.lt_succ_self _)).cell (i := 9) rfl; go_simp)
  refine Hb.take 18 21 rfl ?_ (fun w' hw' => by go_simp; first | done | rfl)
  refine Hb.take (v := .int .i64 num) 19 22 rfl ?_ (fun w' hw' => by have hc := (KM.out.drew.below hw' (Nat.lt_succ_self _)).cell (i := 10) rfl; go_simp)
  refine Hb.take 20 23 rfl ?_ (fun w' hw' => by go_simp; first | done | rfl)
  refine Hb.take (v := .int .i64 clk) 21 24 rfl ?_ (fun w' hw' => by have hc := (KM.out.drew.below hw' (Nat.lt_succ_self _)).cell (i := 11) rfl; go_simp)
  refine Hb.take 22 25 rfl ?_ (fun w' hw' => by go_simp; first | done | rfl)
  refine Hb.take (v := .bool yes) 23 26 rfl ?_ (fun w' hw' => by have hc := (KM.out.drew.below hw' (Nat.lt_succ_self _)).cell (i := 12) rfl; go_simp)
  refine Hb.take 25 28 rfl ?_ (fun w' hw' => by go_simp; first | done | rfl)
  refine Hb.take (v := .slice A es.length c) 26 29 rfl ?_ (fun w' hw' => by have hc := (KM.out.drew.below hw' (Nat.lt_succ_self _)).cell (i := 8) rfl; go_simp)
  refine Hb.take (v := .int .i64 (es.length : Int)) 27 30 rfl ?_ (fun w' hw' => by go_simp; first | done | rfl | omega | exact wrap_in (by omega) (by omega) | exact Int.tmod_eq_emod_of_nonneg (by omega) | exact Int.tdiv_eq_ediv_of_nonneg (by omega) | (simp; omega))
  refine Hb.call (f := 41) (args := #[.bool yes]) 24 27 rfl ?_ (run_callf Tryd.func41 (by kernel_rfl) (by kernel_rfl) (by simp only [List.map_toArray, List.map_cons, List.map_nil]; rfl))
  refine (bit_c _ yes).mono ?_
  rintro x w3 ⟨rfl, rfl⟩
  refine Hb.back (Below.refl _ _) (Nat.le_refl _) ?_
  refine Hb.take (v := .agg #[.int .i64 kind, .int .i64 fr, .int .i64 dst, .int .i64 boot, .int .i64 view, .int .i64 last, .int .i64 mem, .int .i64 pos, .int .i64 com, .int .i64 num, .int .i64 clk, .int .i64 (PMsg.bit yes), .int .i64 (es.length : Int)]) 28 31 rfl ?_ (fun w' hw' => by go_simp; first | done | rfl | omega | exact wrap_in (by omega) (by omega) | exact Int.tmod_eq_emod_of_nonneg (by omega) | exact Int.tdiv_eq_ediv_of_nonneg (by omega) | (simp; omega))
  refine Hb.only 29 none rfl ?_
  refine wpList_store_row rfl 63 _ _ rfl (w.heap.size + 1) _ rfl rfl _ _ KN.out (by kernel_rfl) (by rfl) (by kernel_rfl) ?_
  have KN2 := Lib.hid (KN.out.drew.row #[.int .i64 kind, .int .i64 fr, .int .i64 dst, .int .i64 boot, .int .i64 view, .int .i64 last, .int .i64 mem, .int .i64 pos, .int .i64 com, .int .i64 num, .int .i64 clk, .int .i64 (PMsg.bit yes), .int .i64 (es.length : Int)])
  have GB := Lib.hid (((Below.refl (w.heap.size + 1) w2.drew).grown (grown_row w2.drew (w.heap.size + 1) #[.int .i64 kind, .int .i64 fr, .int .i64 dst, .int .i64 boot, .int .i64 view, .int .i64 last, .int .i64 mem, .int .i64 pos, .int .i64 com, .int .i64 num, .int .i64 clk, .int .i64 (PMsg.bit yes), .int .i64 (es.length : Int)]) (by show _ ≤ w2.heap.size; omega) (fun k hk => by cases hk; exact Nat.le_refl _)))
  refine Hb.next GB.out (Nat.le_refl _) ?_ rfl
  refine Hb.done ?_
-- END
  go_wp2_with fail
  refine bodyPost_ret (v := nv13 (PMsg.ns ⟨kind, fr, dst, boot, view, last, mem, pos, es, com, num, clk, yes⟩)) (results_cell_row rfl _ _ (w.heap.size + 1) _ _ _ _ rfl KN2.out Tryd.underlying63 rfl (by kernel_rfl)) rfl ⟨rfl, ?_⟩
  exact W2.out.drew.trans (GB.out.mono (Nat.le_succ _))
end Go.Proofs.YtkckibcfanaglaaDoor

/- An int's cells in the program. -/
namespace Go.Proofs.YtkckibcfanaglaaDoor
open Go.RowKit

theorem int_info : (Tryd.prog.info? 3).map (fun i => (i.zero, i.size, i.bytes)) = some (some (.int .i64 0), 1, 8) := by kernel_rfl

/-- Ints, as cells. -/
def is (l : List Int) : List Value := l.map (Value.int .i64)
theorem is_length (l : List Int) : (is l).length = l.length := by simp [is]
theorem is_append (l m : List Int) : is (l ++ m) = is l ++ is m := by simp [is]
theorem is_one (l : List Int) : ∀ u ∈ is l, u.oneCell' = true := ints_oneCell .i64 l
theorem is_getD (l : List Int) (i : Nat) (h : i < l.length) : (is l).getD i undef = .int .i64 (l.getD i 0) := by
  simp [is, List.getD, List.getElem?_map, List.getElem?_eq_getElem h]
theorem is_take (l : List Int) (i : Nat) : is (l.take i) = (is l).take i := by simp [is]
theorem is_drop (l : List Int) (i : Nat) : is (l.drop i) = (is l).drop i := by simp [is]
theorem Rd.ilen {w : World} {B : Nat} {A : Option Addr} {c n : Nat} {l : List Int} (h : Rd w B A c 1 n (is l)) : l.length = n := by
  have := h.len; rw [is_length] at this; omega
theorem Rd.int {w : World} {B : Nat} {A : Option Addr} {c n : Nat} {l : List Int} (h : Rd w B A c 1 n (is l)) {i : Nat} (hi : i < n) :
    ∃ b o x, A = some ⟨b, o, none⟩ ∧ w.cell? ⟨b, o + i, none⟩ = some (.int .i64 x) ∧ l.drop i = x :: l.drop (i + 1) ∧ x = l.getD i 0 := by
  have hl : i < l.length := by have := h.ilen; omega
  obtain ⟨b, o, hA, _, hc⟩ := h.at_ hi
  refine ⟨b, o, l[i], hA, ?_, List.drop_eq_getElem_cons hl, by simp [List.getD, List.getElem?_eq_getElem hl]⟩
  rw [hc, is_getD _ _ hl]
  simp [List.getD, List.getElem?_eq_getElem hl]

end Go.Proofs.YtkckibcfanaglaaDoor

/- Plain mathematics of teams: bits of numbers below 128. No program is named here. -/
namespace Go.Proofs.YtkckibcfanaglaaDoor.PTeam

/-- The team of one. -/
def one (id : Int) : Nat := if 1 ≤ id ∧ id ≤ 7 then 2 ^ (id - 1).toNat else 0
def has (t : Nat) (id : Int) : Bool := decide (t &&& one id ≠ 0)
def wth (t : Nat) (id : Int) : Nat := t ||| one id
def wout (t : Nat) (id : Int) : Nat := t &&& (127 - one id)
def cnt (t : Nat) : Nat := (List.range 7).countP fun i => t.testBit i
def lstTo (t k : Nat) : List Int := ((List.range k).filter fun i => t.testBit i).map fun i : Nat => (i : Int) + 1
def lst (t : Nat) : List Int := lstTo t 7
def may (t n : Int) : Bool := decide (3 ≤ n ∧ n ≤ 7) && decide (0 ≤ t ∧ t < 2 ^ n.toNat)
def most (t n : Int) : Bool := may t n && decide (n / 2 < (cnt t.toNat : Int))
def decider (v n : Int) : Int := if v < 1 ∨ n < 3 ∨ 7 < n then 0 else 1 + (v - 1) % n
/-- Those of a list. -/
def ofL (l : List Int) : Nat := l.foldl wth 0

theorem one_cases (id : Int) : (one id = 0 ∧ (id < 1 ∨ 7 < id)) ∨ ∃ k : Nat, k < 7 ∧ id = k + 1 ∧ one id = 2 ^ k := by
  unfold one
  by_cases h : 1 ≤ id ∧ id ≤ 7
  · exact .inr ⟨(id - 1).toNat, by omega, by omega, by rw [if_pos h]⟩
  · exact .inl ⟨by rw [if_neg h], by omega⟩
theorem pow_lt (k : Nat) (hk : k < 7) : 2 ^ k < 128 := (by decide : ∀ k : Fin 7, 2 ^ k.val < 128) ⟨k, hk⟩
theorem one_lt (id : Int) : one id < 128 := by
  rcases one_cases id with ⟨h, _⟩ | ⟨k, hk, _, h⟩
  · omega
  · rw [h]; exact pow_lt k hk
theorem one_out {id : Int} (h : id < 1 ∨ 7 < id) : one id = 0 := by unfold one; rw [if_neg (by omega)]
theorem one_in (k : Nat) (h : k < 7) : one ((k : Int) + 1) = 2 ^ k := by
  unfold one; rw [if_pos (by omega)]; congr 1; omega
theorem and_lt {t : Nat} (u : Nat) (h : t < 128) : t &&& u < 128 := Nat.lt_of_le_of_lt Nat.and_le_left h
theorem and_lt' {u : Nat} (t : Nat) (h : u < 128) : t &&& u < 128 := Nat.lt_of_le_of_lt Nat.and_le_right h
theorem or_lt {t u : Nat} (h : t < 128) (h' : u < 128) : t ||| u < 128 := Nat.or_lt_two_pow (n := 7) h h'
theorem wth_lt {t : Nat} (h : t < 128) (id : Int) : wth t id < 128 := or_lt h (one_lt id)
theorem wout_lt {t : Nat} (h : t < 128) (id : Int) : wout t id < 128 := and_lt _ h
theorem ofL_lt (l : List Int) : ofL l < 128 := by
  have : ∀ (l : List Int) (t : Nat), t < 128 → l.foldl wth t < 128 := by
    intro l
    induction l with
    | nil => intro t h; exact h
    | cons x l ih => intro t h; exact ih _ (wth_lt h x)
  exact this l 0 (by omega)

/-- Of all teams and all processes: by looking at each. -/
theorem all7 (p : Nat → Nat → Bool) (h : (List.range 128).all (fun t => (List.range 7).all fun k => p t k) = true) (t k : Nat) (ht : t < 128) (hk : k < 7) : p t k = true :=
  List.all_eq_true.1 (List.all_eq_true.1 h t (List.mem_range.2 ht)) k (List.mem_range.2 hk)
theorem all1 (p : Nat → Bool) (h : (List.range 128).all p = true) (t : Nat) (ht : t < 128) : p t = true :=
  List.all_eq_true.1 h t (List.mem_range.2 ht)

theorem has_out (t : Nat) {id : Int} (h : id < 1 ∨ 7 < id) : has t id = false := by unfold has; rw [one_out h]; simp
theorem has_in (t k : Nat) (ht : t < 128) (h : k < 7) : has t ((k : Int) + 1) = t.testBit k := by
  unfold has; rw [one_in k h]
  have := all7 (fun t k => decide (t &&& 2 ^ k ≠ 0) == t.testBit k) (by decide +kernel) t k ht h
  simpa using this
theorem has_bits (t : Nat) (ht : t < 128) (id : Int) : has t id = (decide (1 ≤ id ∧ id ≤ 7) && t.testBit (id - 1).toNat) := by
  by_cases h : 1 ≤ id ∧ id ≤ 7
  · obtain ⟨k, rfl⟩ : ∃ k : Nat, id = k + 1 := ⟨(id - 1).toNat, by omega⟩
    rw [has_in t k ht (by omega)]
    have : ((k : Int) + 1 - 1).toNat = k := by omega
    rw [this]; simp [h]
  · rw [has_out t (by omega)]; simp [h]

theorem bit_one (id : Int) (k : Nat) (hk : k < 7) : (one id).testBit k = decide (id = k + 1) := by
  rcases one_cases id with ⟨h, h'⟩ | ⟨j, hj, rfl, h⟩
  · rw [h]; simp; omega
  · rw [h, Nat.testBit_two_pow]
    by_cases e : j = k
    · subst e; simp
    · simp [e]; omega
theorem has_wth (t : Nat) (ht : t < 128) (id i : Int) (h1 : 1 ≤ i) (h7 : i ≤ 7) : has (wth t id) i = (has t i || decide (i = id)) := by
  obtain ⟨k, rfl⟩ : ∃ k : Nat, i = k + 1 := ⟨(i - 1).toNat, by omega⟩
  rw [has_in _ k (wth_lt ht id) (by omega), has_in _ k ht (by omega)]
  unfold wth
  rw [Nat.testBit_or, bit_one id k (by omega)]
  congr 1
  exact decide_eq_decide.2 ⟨fun h => h.symm, fun h => h.symm⟩
theorem bit_not (o k : Nat) (ho : o < 128) (hk : k < 7) : (127 - o).testBit k = !o.testBit k := by
  have := all7 (fun o k => (127 - o).testBit k == !o.testBit k) (by decide +kernel) o k ho hk
  simpa using this
theorem has_wout (t : Nat) (ht : t < 128) (id i : Int) (h1 : 1 ≤ i) (h7 : i ≤ 7) : has (wout t id) i = (has t i && decide (i ≠ id)) := by
  obtain ⟨k, rfl⟩ : ∃ k : Nat, i = k + 1 := ⟨(i - 1).toNat, by omega⟩
  rw [has_in _ k (wout_lt ht id) (by omega), has_in _ k ht (by omega)]
  unfold wout
  rw [Nat.testBit_and, bit_not _ k (one_lt id) (by omega), bit_one id k (by omega)]
  congr 1
  by_cases h : id = k + 1
  · simp [h]
  · have : ¬ (k : Int) + 1 = id := by omega
    simp [h, this]
theorem has_and (t u : Nat) (ht : t < 128) (hu : u < 128) (i : Int) (h1 : 1 ≤ i) (h7 : i ≤ 7) : has (t &&& u) i = (has t i && has u i) := by
  obtain ⟨k, rfl⟩ : ∃ k : Nat, i = k + 1 := ⟨(i - 1).toNat, by omega⟩
  rw [has_in _ k (and_lt u ht) (by omega), has_in _ k ht (by omega), has_in _ k hu (by omega), Nat.testBit_and]
theorem has_ofL (l : List Int) (i : Int) (h1 : 1 ≤ i) (h7 : i ≤ 7) : has (ofL l) i = l.contains i := by
  have : ∀ (l : List Int) (t : Nat), t < 128 → has (l.foldl wth t) i = (has t i || l.contains i) := by
    intro l
    induction l with
    | nil => intro t h; simp
    | cons x l ih =>
      intro t h
      rw [List.foldl_cons, ih _ (wth_lt h x), has_wth t h x i h1 h7, Bool.or_assoc]
      congr 1
  have h0 := this l 0 (by omega)
  unfold ofL
  rw [h0]
  have : has 0 i = false := by simp [has]
  rw [this, Bool.false_or]

theorem and127 (t : Nat) (ht : t < 128) : t &&& 127 = t := (Nat.and_two_pow_sub_one_eq_mod t 7).trans (Nat.mod_eq_of_lt ht)
theorem cnt_le (t : Nat) : cnt t ≤ 7 := by unfold cnt; exact Nat.le_trans List.countP_le_length (by simp)
theorem cnt_wth (t : Nat) (ht : t < 128) (id : Int) : cnt (wth t id) = if decide (1 ≤ id ∧ id ≤ 7) && !has t id then cnt t + 1 else cnt t := by
  rcases one_cases id with ⟨h, h'⟩ | ⟨k, hk, rfl, h⟩
  · unfold wth; rw [h]; simp; omega
  · rw [has_in t k ht hk]; unfold wth; rw [h]
    have := all7 (fun t k => cnt (t ||| 2 ^ k) == if !t.testBit k then cnt t + 1 else cnt t) (by decide +kernel) t k ht hk
    simp only [beq_iff_eq] at this
    rw [this]
    have e : decide (1 ≤ (k : Int) + 1 ∧ (k : Int) + 1 ≤ 7) = true := by simp; omega
    rw [e, Bool.true_and]
theorem cnt_wout (t : Nat) (ht : t < 128) (id : Int) : (cnt (wout t id) : Int) = if has t id then (cnt t : Int) - 1 else cnt t := by
  rcases one_cases id with ⟨h, h'⟩ | ⟨k, hk, rfl, h⟩
  · rw [has_out t h']; unfold wout; rw [h]
    have : t &&& 127 = t := and127 t ht
    simp [this]
  · rw [has_in t k ht hk]; unfold wout; rw [h]
    have := all7 (fun t k => ((cnt (t &&& (127 - 2 ^ k)) : Int)) == if t.testBit k then (cnt t : Int) - 1 else cnt t) (by decide +kernel) t k ht hk
    simpa only [beq_iff_eq] using this
theorem wth_twice (t : Nat) (id : Int) : wth (wth t id) id = wth t id := by unfold wth; rw [Nat.or_assoc, Nat.or_self]
theorem wout_twice (t : Nat) (id : Int) : wout (wout t id) id = wout t id := by unfold wout; rw [Nat.and_assoc, Nat.and_self]
theorem wth_out (t : Nat) {id : Int} (h : id < 1 ∨ 7 < id) : wth t id = t := by unfold wth; rw [one_out h]; simp
theorem wout_out (t : Nat) (ht : t < 128) {id : Int} (h : id < 1 ∨ 7 < id) : wout t id = t := by
  unfold wout; rw [one_out h]
  exact and127 t ht

/-- Lists of a team. -/
theorem lstTo_succ (t k : Nat) : lstTo t (k + 1) = lstTo t k ++ if t.testBit k then [(k : Int) + 1] else [] := by
  unfold lstTo
  rw [List.range_succ, List.filter_append, List.map_append]
  by_cases h : t.testBit k <;> simp [h]
theorem lstTo_le (t k : Nat) : (lstTo t k).length ≤ k := by
  unfold lstTo; rw [List.length_map]; exact Nat.le_trans (List.length_filter_le _ _) (by simp)
theorem lst_length (t : Nat) : (lst t).length = cnt t := by
  unfold lst lstTo cnt; rw [List.length_map, List.countP_eq_length_filter]
theorem lst_mem (t : Nat) (ht : t < 128) (i : Int) : i ∈ lst t ↔ has t i = true := by
  unfold lst lstTo
  rw [List.mem_map]
  constructor
  · rintro ⟨k, hk, rfl⟩
    rw [List.mem_filter, List.mem_range] at hk
    rw [has_in t k ht hk.1]; exact hk.2
  · intro h
    have hi : 1 ≤ i ∧ i ≤ 7 := by
      by_cases hh : 1 ≤ i ∧ i ≤ 7
      · exact hh
      · rw [has_out t (by omega)] at h; cases h
    obtain ⟨k, rfl⟩ : ∃ k : Nat, i = k + 1 := ⟨(i - 1).toNat, by omega⟩
    rw [has_in t k ht (by omega)] at h
    exact ⟨k, List.mem_filter.2 ⟨List.mem_range.2 (by omega), h⟩, rfl⟩
theorem lst_rise (t : Nat) (ht : t < 128) (i : Nat) (h : i + 1 < cnt t) : (lst t).getD i 0 < (lst t).getD (i + 1) 0 := by
  have := all7 (fun t i => decide (i + 1 < cnt t → (lst t).getD i 0 < (lst t).getD (i + 1) 0)) (by decide +kernel) t i ht (by have := cnt_le t; omega)
  exact of_decide_eq_true this h
/-- How many of the first so many. -/
def cntTo (t k : Nat) : Nat := (lstTo t k).length
theorem cnt_all (t : Nat) : cntTo t 7 = cnt t := lst_length t
theorem cntTo_succ (t k : Nat) (ht : t < 128) (hk : k < 7) : cntTo t (k + 1) = cntTo t k + if has t ((k : Int) + 1) then 1 else 0 := by
  unfold cntTo; rw [lstTo_succ, has_in t k ht hk, List.length_append]
  cases t.testBit k <;> rfl

/-- Which may be, by bits. -/
theorem mask_zero (x n : Nat) (hx : x < 2 ^ 64) : (x &&& (2 ^ 64 - ((2 ^ n - 1) + 1)) = 0) ↔ x < 2 ^ n := by
  by_cases hn : 64 ≤ n
  · have h1 : 2 ^ 64 ≤ 2 ^ n := Nat.pow_le_pow_right (by decide) hn
    have h2 : 2 ^ 64 - ((2 ^ n - 1) + 1) = 0 := by omega
    rw [h2, Nat.and_zero]
    exact ⟨fun _ => by omega, fun _ => rfl⟩
  have hm : 2 ^ n - 1 < 2 ^ 64 := Nat.lt_of_lt_of_le (Nat.sub_lt (Nat.two_pow_pos n) (by decide)) (Nat.pow_le_pow_right (by decide) (by omega))
  constructor
  · intro h
    apply Nat.lt_pow_two_of_testBit
    intro i hi
    by_cases hb : i < 64
    · have := congrArg (fun y => y.testBit i) h
      simp only [Nat.testBit_and, Nat.testBit_two_pow_sub_succ hm, Nat.testBit_two_pow_sub_one, Nat.zero_testBit] at this
      have h1 : ¬ i < n := by omega
      simpa [hb, h1] using this
    · exact Nat.testBit_lt_two_pow (Nat.lt_of_lt_of_le hx (Nat.pow_le_pow_right (by decide) (by omega)))
  · intro h
    apply Nat.eq_of_testBit_eq
    intro i
    rw [Nat.testBit_and, Nat.testBit_two_pow_sub_succ hm, Nat.testBit_two_pow_sub_one, Nat.zero_testBit]
    by_cases hi : i < n
    · simp [hi]
    · rw [Nat.testBit_lt_two_pow (Nat.lt_of_lt_of_le h (Nat.pow_le_pow_right (by decide) (by omega)))]; simp

theorem meet_pos (t u : Nat) (n : Int) (h1 : most t n = true) (h2 : most u n = true) : 0 < cnt (t &&& u) := by
  unfold most may at h1 h2
  simp only [Bool.and_eq_true, decide_eq_true_eq, Int.toNat_natCast] at h1 h2
  obtain ⟨⟨⟨h3, h7⟩, -, ht⟩, ct⟩ := h1
  obtain ⟨⟨-, -, hu⟩, cu⟩ := h2
  obtain ⟨m, rfl⟩ : ∃ m : Nat, n = m := ⟨n.toNat, by omega⟩
  rw [Int.toNat_natCast] at ht hu
  have ht' : t < 2 ^ m := by exact_mod_cast ht
  have hu' : u < 2 ^ m := by exact_mod_cast hu
  have key : ∀ m ∈ [3, 4, 5, 6, 7], (List.range (2 ^ m)).all (fun t => !decide (m / 2 < cnt t) || (List.range (2 ^ m)).all fun u => !decide (m / 2 < cnt u) || decide (0 < cnt (t &&& u))) = true := by decide +kernel
  have hm : m ∈ [3, 4, 5, 6, 7] := by
    have : m = 3 ∨ m = 4 ∨ m = 5 ∨ m = 6 ∨ m = 7 := by omega
    simp [this]
  have k1 := List.all_eq_true.1 (key m hm) t (List.mem_range.2 ht')
  have e1 : m / 2 < cnt t := by omega
  have e2 : m / 2 < cnt u := by omega
  simp only [e1, decide_true, Bool.not_true, Bool.false_or] at k1
  have k2 := List.all_eq_true.1 k1 u (List.mem_range.2 hu')
  simpa [e2] using k2

/-- How many of -1 and the next so many. -/
def cntFrom (t k : Nat) : Nat := (List.range k).countP fun j : Nat => has t ((j : Int) - 1)
theorem cntFrom_succ (t k : Nat) : cntFrom t (k + 1) = cntFrom t k + if has t ((k : Int) - 1) then 1 else 0 := by
  unfold cntFrom; rw [List.range_succ, List.countP_append, List.countP_singleton]
theorem cntFrom_le (t k : Nat) : cntFrom t k ≤ k := by unfold cntFrom; exact Nat.le_trans List.countP_le_length (by simp)
theorem cntFrom_all (t : Nat) (ht : t < 128) : cntFrom t 11 = cnt t := by
  have := all1 (fun t => cntFrom t 11 == cnt t) (by decide +kernel) t ht
  simpa using this
theorem ofL_snoc (l : List Int) (x : Int) : ofL (l ++ [x]) = wth (ofL l) x := by unfold ofL; rw [List.foldl_append]; rfl
/-- One more of a list. -/
theorem has_snoc (l : List Int) (x i : Int) : has (ofL (l ++ [x])) i = (has (ofL l) i || (decide (x = i) && decide (1 ≤ i) && decide (i ≤ 7))) := by
  rw [ofL_snoc]
  by_cases h : 1 ≤ i ∧ i ≤ 7
  · rw [has_wth _ (ofL_lt l) x i h.1 h.2]
    have e : decide (i = x) = decide (x = i) := decide_eq_decide.2 ⟨fun h => h.symm, fun h => h.symm⟩
    simp [h.1, h.2, e]
  · rw [has_out _ (by omega), has_out _ (by omega)]
    by_cases h1 : 1 ≤ i
    · have : ¬ i ≤ 7 := fun h7 => h ⟨h1, h7⟩
      simp [this]
    · simp [h1]

/-- Those that decide in so many views, from one whose place is r. -/
def turn (r n k : Nat) : Nat := ofL ((List.range k).map fun i => 1 + (((r + i) % n : Nat) : Int))
theorem turn_succ (r n k : Nat) : turn r n (k + 1) = wth (turn r n k) (1 + (((r + k) % n : Nat) : Int)) := by
  unfold turn; rw [List.range_succ, List.map_append]; exact ofL_snoc _ _
theorem turn_lt (r n k : Nat) : turn r n k < 128 := ofL_lt _
theorem turn_new (r n k : Nat) (h3 : 3 ≤ n) (h7 : n ≤ 7) (hr : r < n) (hk : k < n) : has (turn r n k) (1 + (((r + k) % n : Nat) : Int)) = false := by
  have key : [3, 4, 5, 6, 7].all (fun n => (List.range n).all fun r => (List.range n).all fun k => has (turn r n k) (1 + (((r + k) % n : Nat) : Int)) == false) = true := by decide +kernel
  have hm : n ∈ [3, 4, 5, 6, 7] := by
    have : n = 3 ∨ n = 4 ∨ n = 5 ∨ n = 6 ∨ n = 7 := by omega
    simp [this]
  have := List.all_eq_true.1 (List.all_eq_true.1 (List.all_eq_true.1 key n hm) r (List.mem_range.2 hr)) k (List.mem_range.2 hk)
  simpa using this
theorem turn_all (r n : Nat) (h3 : 3 ≤ n) (h7 : n ≤ 7) (hr : r < n) : cnt (turn r n n) = n ∧ most (turn r n n) n = true := by
  have key : [3, 4, 5, 6, 7].all (fun n => (List.range n).all fun r => cnt (turn r n n) == n && most (turn r n n) n) = true := by decide +kernel
  have hm : n ∈ [3, 4, 5, 6, 7] := by
    have : n = 3 ∨ n = 4 ∨ n = 5 ∨ n = 6 ∨ n = 7 := by omega
    simp [this]
  have := List.all_eq_true.1 (List.all_eq_true.1 key n hm) r (List.mem_range.2 hr)
  simpa using this
theorem turn_is (v : Int) (n k : Nat) (hv : 1 ≤ v) (h3 : 3 ≤ n) (h7 : n ≤ 7) : decider (v + k) n = 1 + ((((v - 1) % n).toNat + k) % n : Nat) := by
  unfold decider; rw [if_neg (by omega)]
  have q1 := Int.emod_nonneg (v - 1) (show (n : Int) ≠ 0 by omega)
  have e : ((((v - 1) % n).toNat + k) % n : Nat) = ((((v - 1) % n + k) % n : Int)) := by rw [Int.natCast_emod, Int.natCast_add, Int.toNat_of_nonneg q1]
  rw [e, Int.emod_add_emod]
  congr 2; omega
end Go.Proofs.YtkckibcfanaglaaDoor.PTeam

