/- 'Pn': what waits, at block g; entries in the midst of a block: read, one set, the last ones cleared. -/
import Derived.Test.YtmlmngoieabjbaaPlainPend
import Derived.Test.YtmlmngoieabjbaaEntN
import Derived.Test.YtmlmngoieabjbaaEntZ
import Derived.Test.YtmlmngoieabjbaaOg
import Derived.Laws.IdiomCopy
namespace Go.Proofs.Ytmlmngoieabjbaa
open Go.RowKit PPend

theorem els_inj : ∀ {a b : List Ent}, els a = els b → a = b
  | [], [], _ => rfl
  | [], _ :: _, h => by simp [els, ecs] at h
  | _ :: _, [], h => by simp [els, ecs] at h
  | ⟨a0, a1, a2, a3, a4, a5, a6⟩ :: r, ⟨b0, b1, b2, b3, b4, b5, b6⟩ :: s, h => by
    simp only [els, ecs, List.cons_append, List.nil_append, List.cons.injEq, Value.int.injEq, Value.string.injEq, true_and] at h
    obtain ⟨rfl, rfl, rfl, rfl, rfl, rfl, rfl, h⟩ := h
    rw [els_inj h]
theorem els_set (W : List Ent) (i : Nat) (x : Ent) (hi : i < W.length) : els (W.set i x) = els (W.take i) ++ (ecs x ++ els (W.drop (i + 1))) := by
  rw [List.set_eq_take_append_cons_drop, if_pos hi, els_append]; rfl
theorem els_parts (W : List Ent) (i : Nat) (hi : i < W.length) : els W = els (W.take i) ++ (ecs W[i] ++ els (W.drop (i + 1))) := by
  conv => lhs; rw [← List.take_append_drop i W, List.drop_eq_getElem_cons hi, els_append]
  rfl
section
variable {w w' : World} {g : Nat} {e : TypeId} {Y Q : List Value} {W : List Ent}
/-- n entries that stand in the midst of a block, as a slice. -/
theorem Blk.entsRd (h : Blk w g e (Y ++ (els W ++ Q))) {o n c : Nat} (ho : Y.length = o) (hn : n ≤ W.length) (hc : n ≤ c) (hm : c ≤ maxLen) : Rd w w.heap.size (some ⟨g, o, none⟩) c 7 n (els (W.take n)) := by
  refine ⟨by rw [els_length, List.length_take, Nat.min_eq_left hn], hc, hm, (fun hh => by cases hh), fun _ => ⟨g, o, rfl, h.lt, fun j u hu => h.cell ?_⟩⟩
  have hj := (List.getElem?_eq_some_iff.1 hu).1
  rw [els_length, List.length_take, Nat.min_eq_left hn] at hj
  rw [List.getElem?_append_right (by omega), ho, show o + j - o = j by omega, List.getElem?_append_left (by rw [els_length]; omega)]
  rw [← els_take, List.getElem?_take_of_lt hj] at hu
  exact hu
theorem Blk.entRange (h : Blk w g e (Y ++ (els W ++ Q))) {o i : Nat} {x : Ent} (ho : Y.length = o) (hx : W[i]? = some x) : w.rangeAt g (o + i * 7) (ecs x) := fun j u hu => by
  have hj : j < 7 := by simpa [ecs_length] using (List.getElem?_eq_some_iff.1 hu).1
  have hi : i < W.length := (List.getElem?_eq_some_iff.1 hx).1
  refine h.cell ?_
  rw [List.getElem?_append_right (by omega), ho, show o + i * 7 + j - o = i * 7 + j by omega, List.getElem?_append_left (by rw [els_length]; omega), els_at hx hj]
  exact hu
theorem Blk.entThere (h : Blk w g e (Y ++ (els W ++ Q))) {o i m : Nat} (ho : Y.length = o) (hi : i * 7 + m ≤ W.length * 7) : w.there g (o + i * 7) m := fun j hj => by
  refine ⟨?_, h.free _⟩
  have hl : i * 7 + j < (els W).length := by rw [els_length]; omega
  rw [h.cell (u := (els W)[i * 7 + j]) (by
    rw [List.getElem?_append_right (by omega), ho, show o + i * 7 + j - o = i * 7 + j by omega, List.getElem?_append_left hl]
    exact List.getElem?_eq_getElem hl)]
  rfl
theorem Blk.entSet (h : Blk w g e (Y ++ (els W ++ Q))) {o i : Nat} (ho : Y.length = o) (hi : i < W.length) (x : Ent) : Blk (w.setCells g (o + i * 7) (ecs x)) g e (Y ++ (els (W.set i x) ++ Q)) := by
  have h1 : Blk w g e ((Y ++ els (W.take i)) ++ (ecs W[i] ++ (els (W.drop (i + 1)) ++ Q))) := by
    rw [els_parts W i hi] at h
    simpa using h
  have h2 := h1.cells (ecs x) rfl
  rw [List.length_append, els_length, List.length_take, Nat.min_eq_left (by omega), ho] at h2
  rw [els_set W i x hi]
  simpa using h2
theorem Blk.entSets (h : Blk w g e (Y ++ (els W ++ Q))) {o i : Nat} (ho : Y.length = o) (Z : List Ent) (hi : i + Z.length ≤ W.length) : Blk (w.setCells g (o + i * 7) (els Z)) g e (Y ++ (els (W.take i ++ Z ++ W.drop (i + Z.length)) ++ Q)) := by
  have h1 : Blk w g e ((Y ++ els (W.take i)) ++ (els ((W.drop i).take Z.length) ++ (els (W.drop (i + Z.length)) ++ Q))) := by
    have : els W = els (W.take i) ++ (els ((W.drop i).take Z.length) ++ els (W.drop (i + Z.length))) := by
      rw [← els_append, ← els_append, ← List.drop_drop, List.take_append_drop, List.take_append_drop]
    rw [this] at h
    simpa using h
  have h2 := h1.cells (els Z) (by rw [els_length, els_length, List.length_take, List.length_drop, Nat.min_eq_left (by omega)])
  rw [List.length_append, els_length, List.length_take, Nat.min_eq_left (by omega), ho] at h2
  simpa [els_append] using h2
end

theorem zeroCells_els (m : Nat) : (Builtin.zeroCells (ev zeroE).cells m).toList = els (zeros m) := by
  have hs : (ev zeroE).cells.size = 7 := rfl
  have ht : (ev zeroE).cells.toList = ecs zeroE := rfl
  refine List.ext_getElem? fun j => ?_
  unfold Builtin.zeroCells
  rw [hs]
  by_cases hj : j < m * 7
  · have hm : j % 7 < 7 := Nat.mod_lt _ (by omega)
    have hz : (zeros m)[j / 7]? = some zeroE := by
      unfold zeros; rw [List.getElem?_replicate, if_pos (by omega)]; rfl
    have e1 := els_at hz hm
    rw [show j / 7 * 7 + j % 7 = j by omega] at e1
    rw [e1, ← ht]
    simp [hj, hs, hm]
  · have e1 : (els (zeros m))[j]? = none := List.getElem?_eq_none (by rw [els_length]; unfold zeros; rw [List.length_replicate]; omega)
    rw [e1]; simp; omega
theorem run_clearE {w : World} {g o m c : Nat} {ty : TypeId} (hm : 0 < m) (h : w.there g o (m * 7)) :
    (Builtin.clear_ #[23] ty #[.slice (some ⟨g, o, none⟩) m c]).run Try.prog w = .ok (.tuple #[]) (w.setCells g o (els (zeros m))) := by
  have hv : (zeroValue 35).run Try.prog w = .ok (ev zeroE) w := by kernel_rfl
  have hl : (els (zeros m)).length = m * 7 := by rw [els_length]; simp [zeros]
  have hst := run_storeCells_cells (P := Try.prog) g o (els (zeros m)) 0 w (fun j hj => by simpa using (h j (by omega)).1) (fun j hj => by simpa using (h j (by omega)).2) (els_one _)
  simp only [Nat.add_zero] at hst
  obtain ⟨m, rfl⟩ : ∃ k, m = k + 1 := ⟨m - 1, by omega⟩
  simp [Builtin.clear_, run_underlying Try.underlying23, hv, zeroCells_els, hst]
theorem wpList_clearE {w : World} {ops : Array Oper} {rest : List Oper} {o : Oper} {a : Act} {Q' : Exit → Act → World → Prop} (hgd : o.guard = none) (x : Operand)
    (ho : o.op = .call { callee := .builtin .clear, args := #[x], argTypes := #[23] })
    (g s i m c : Nat) (hx : a.eval x = .slice (some ⟨g, s + i * 7, none⟩) m c) (hm : 0 < m) {e : TypeId} {Y Q : List Value} {W : List Ent} (hB : Blk w g e (Y ++ (els W ++ Q))) (hs : Y.length = s) (hi : i + m ≤ W.length)
    (h : ∀ w' W', W'.length = W.length → W'.take i = W.take i → Blk w' g e (Y ++ (els W' ++ Q)) → Touch [g] w w' → wpList Try.prog ops Q' rest (a.put o.dst (.tuple #[])) w') : wpList Try.prog ops Q' (o :: rest) a w := by
  refine wpList_plain hgd fun K hK => ?_
  have hrun := run_clearE (w := w) (g := g) (o := s + i * 7) (m := m) (c := c) (ty := o.type) hm (hB.entThere hs (by omega))
  have hB2 := hB.entSets hs (zeros m) (i := i) (by simpa [zeros] using hi)
  unfold Oper.wp execOp
  simp only [ho, resolve, invoke, builtin, Sem.run_bind, Sem.run_pure, Result.andThen_ok, List.map_toArray, List.map_cons, List.map_nil, hx, hrun]
  refine hK _ _ (h _ _ ?_ ?_ hB2 (grown_cells _ _ _ _))
  · simp [zeros]; omega
  · rw [List.append_assoc, List.take_append_of_le_length (by simp; omega), List.take_take, Nat.min_self]
/-- 's[l:]' of what lies from o on in block g; 's[:m]'. -/
theorem wpList_hind {P : Program} {w : World} {ops : Array Oper} {rest : List Oper} {o : Oper} {a : Act} {Q : Exit → Act → World → Prop} (hgd : o.guard = none) (t : TypeId) (x lo : Operand) (ho : o.op = .slice t x (some lo) none none)
    (e : TypeId) (z : Option Value) (k bytes : Nat) (ht : P.underlying t = some (.slice e)) (hi : (P.info? e).map (fun i => (i.zero, i.size, i.bytes)) = some (z, k, bytes))
    (g s c n l : Nat) (hx : a.eval x = .slice (some ⟨g, s, none⟩) n c) (hlo : a.eval lo = .int .i64 l) (h1 : l < n) (h2 : n ≤ c)
    (h : wpList P ops Q rest (a.put o.dst (.slice (some ⟨g, s + l * k, none⟩) (n - l) (c - l))) w) : wpList P ops Q (o :: rest) a w := by
  refine wpList_plain hgd fun K hK => ?_
  have hrun := run_cut (P := P) (w := w) t e ht hi (some ⟨g, s, none⟩) n c (some (.int .i64 l)) none .i64 .i64 l n (.inr rfl) (.inl ⟨rfl, rfl⟩) (by omega) h2
  have ha : (if c = l then (some ⟨g, s, none⟩ : Option Addr) else (some ⟨g, s, none⟩ : Option Addr).map (·.add (l * k))) = some ⟨g, s + l * k, none⟩ := by
    rw [if_neg (by omega)]; simp [add_zero_spot]
  rw [ha] at hrun
  unfold Oper.wp execOp
  simp only [ho, hx, hlo, Option.map_none, Option.map_some, Sem.run_bind, hrun, Result.andThen_ok, Sem.run_pure]
  exact hK _ _ h
theorem wpList_headS {P : Program} {w : World} {ops : Array Oper} {rest : List Oper} {o : Oper} {a : Act} {Q : Exit → Act → World → Prop} (hgd : o.guard = none) (t : TypeId) (x hi' : Operand) (ho : o.op = .slice t x none (some hi') none)
    (e : TypeId) (z : Option Value) (k bytes : Nat) (ht : P.underlying t = some (.slice e)) (hi : (P.info? e).map (fun i => (i.zero, i.size, i.bytes)) = some (z, k, bytes))
    (A : Option Addr) (c n m : Nat) (hx : a.eval x = .slice A n c) (hhi : a.eval hi' = .int .i64 m) (h1 : m ≤ c)
    (h : wpList P ops Q rest (a.put o.dst (.slice A m c)) w) : wpList P ops Q (o :: rest) a w := by
  refine wpList_plain hgd fun K hK => ?_
  have hrun := run_short (P := P) (w := w) t e ht hi A n c m h1
  unfold Oper.wp execOp
  simp only [ho, hx, hhi, Option.map_none, Option.map_some, Sem.run_bind, hrun, Result.andThen_ok, Sem.run_pure]
  exact hK _ _ h

/-! What waits: three numbers, four places, how many of them count. -/
def pncs (fr boot seq : Int) (W : List Ent) (n : Nat) : List Value := [.int .i64 fr, .int .i64 boot, .int .i64 seq] ++ (els W ++ [.int .i64 n])
def Pn (w : World) (g : Nat) (fr boot seq : Int) (L : List Ent) : Prop := ∃ Z, (L ++ Z).length = 4 ∧ Blk w g 49 (pncs fr boot seq (L ++ Z) L.length)
section
variable {w w' : World} {g n : Nat} {fr boot seq : Int} {L W : List Ent} {S : List Nat}
theorem pncs_fr : (pncs fr boot seq W n)[0]? = some (.int .i64 fr) := rfl
theorem pncs_boot : (pncs fr boot seq W n)[1]? = some (.int .i64 boot) := rfl
theorem pncs_seq : (pncs fr boot seq W n)[2]? = some (.int .i64 seq) := rfl
theorem pncs_n (hW : W.length = 4) : (pncs fr boot seq W n)[31]? = some (.int .i64 n) := by
  unfold pncs
  rw [List.getElem?_append_right (by simp), List.getElem?_append_right (by rw [els_length]; simp; omega), els_length, hW]; rfl
theorem pnset_seq (x : Int) : (pncs fr boot seq W n).set 2 (.int .i64 x) = pncs fr boot x W n := rfl
theorem pnset_n (hW : W.length = 4) (x : Nat) : (pncs fr boot seq W n).set 31 (.int .i64 x) = pncs fr boot seq W x := by
  unfold pncs
  rw [List.set_append_right _ _ (by simp), List.set_append_right _ _ (by rw [els_length]; simp; omega), els_length, hW]; rfl
theorem Pn.touch (h : Pn w g fr boot seq L) (ht : Touch S w w') (hg : g ∉ S) : Pn w' g fr boot seq L := by
  obtain ⟨Z, hl, hB⟩ := h
  exact ⟨Z, hl, hB.touch ht hg⟩
theorem Pn.past (h : Pn w g fr boot seq L) (hb : Below w.heap.size w w') : Pn w' g fr boot seq L := by
  obtain ⟨Z, hl, hB⟩ := h
  exact ⟨Z, hl, hB.past hb⟩
theorem Pn.lt (h : Pn w g fr boot seq L) : g < w.heap.size := by
  obtain ⟨Z, hl, hB⟩ := h
  exact hB.lt
theorem Pn.blk (h : Pn w g fr boot seq L) : ∃ ys, Blk w g 49 ys := by
  obtain ⟨Z, hl, hB⟩ := h
  exact ⟨_, hB⟩
theorem Pn.few (h : Pn w g fr boot seq L) : L.length ≤ 4 := by
  obtain ⟨Z, hl, hB⟩ := h
  rw [List.length_append] at hl; omega
end
end Go.Proofs.Ytmlmngoieabjbaa
