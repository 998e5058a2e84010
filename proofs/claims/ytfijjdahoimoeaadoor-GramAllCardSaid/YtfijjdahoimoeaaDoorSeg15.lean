/- A law's gram, behind a write of another block. -/
import Derived.Test.YtfijjdahoimoeaaDoorSeg8
import Derived.Test.YtfijjdahoimoeaaDoorSeg2
import Derived.Test.YtfijjdahoimoeaaDoorSeg7
import Derived.Lib.MinMax
import Derived.Test.YtfijjdahoimoeaaDoorSeg1
namespace Go.Proofs.YtfijjdahoimoeaaDoor
open Go.RowKit

section
variable {w0 w w' : World} {g : Nat} {me : Int} {L : List Oth}
/-- Another block of the law's was written. -/
theorem Gs.other (h : Gs w0 w g me L) {x : Nat} {t : TypeId} {xs : List Value} (k : Blk w x t xs) (hne : t ≠ 60) (hx : w0.heap.size ≤ x) (hg : w.grownBy w' (some x)) : Gs w0 w' g me L :=
  ⟨h.bel.trans (grown_below hg hx h.bel.size), h.own, h.gm.far (Touch.of_grown hg) (by simpa using fun e => k.ne h.gm.1 hne e.symm)⟩
end
end Go.Proofs.YtfijjdahoimoeaaDoor

/- A slice of operations that came in: structs of two ints, a message, bytes, two int64s. No program is named here. -/
namespace Go.Proofs.YtfijjdahoimoeaaDoor
open Go.RowKit Go.ChangeShapes Go.WideShapes Go.Deep

section
variable {H : Type} {enc : TypeId × Value → H} {P : Program} {w : World} {base : Nat} {spare : Nat → Bool} {held : Bool}
/-- A slice whose elements have m cells; F j u: what is known of an element's cell j. -/
theorem open_any {t e : TypeId} {m : Nat} {fuel : Nat} {cs : List Value} {x : DataW H × List MemPlace} (F : Nat → Value → Prop)
    (ht : P.underlying t = some (.slice e)) (hC : P.cellsOf e = m) (hm0 : 0 < m)
    (hE : ∀ (fuel : Nat) (cs : List Value) (x : DataW H × List MemPlace), DataW.trod enc P w base spare held fuel e cs = some x → ∀ (j : Nat) (u : Value), cs[j]? = some u → F j u)
    (h : DataW.trod enc P w base spare held fuel t cs = some x) :
    ∃ (A : Option Addr) (n c : Nat) (xs : List Value), cs = [.slice A n c] ∧ Rd w w.heap.size A c m n xs ∧ ∀ (i j : Nat) (u : Value), j < m → xs[i * m + j]? = some u → F j u := by
  rcases open_slice ht h with ⟨rfl, _⟩ | ⟨a, len, cap, k, q, D, Pl, hcs, hb, hl, hc, hk, hx, hi⟩
  · exact ⟨none, 0, 0, [], rfl, Rd.nil _ _ _, fun i j u _ hu => by simp at hu⟩
  · have hle : len ≤ k := by rw [hk]; split <;> omega
    have each : ∀ i j, i < len → j < m → ∃ u, w.cell? ((a.add (i * m)).add j) = some u ∧ F j u := by
      intro i j hil hj
      obtain ⟨cs', hc', ht'⟩ := hi i (by omega)
      rw [hC] at hc'
      obtain ⟨_, hcl, hat⟩ := World.cells?_some hc'
      have hj' : j < cs'.length := by omega
      refine ⟨cs'[j], (hat j hj).trans ?_, hE _ _ _ ht' j _ (List.getElem?_eq_getElem hj')⟩
      exact List.getElem?_eq_getElem hj'
    by_cases hp : 0 < len
    · obtain ⟨u0, e0, _⟩ := each 0 0 hp hm0
      obtain ⟨b, o, spot⟩ := a
      have hs : spot = none := by simpa [Addr.add] using World.cell?_spot e0
      subst hs
      have cel : ∀ i j, i < len → j < m → ∃ u, w.cell? ⟨b, o + (i * m + j), none⟩ = some u ∧ F j u := by
        intro i j hil hj
        obtain ⟨u, hu, hFu⟩ := each i j hil hj
        rw [add_zero_spot, add_zero_spot, Nat.add_assoc] at hu
        exact ⟨u, hu, hFu⟩
      refine ⟨some ⟨b, o, none⟩, len, cap, (List.range (len * m)).map (fun q => (w.cell? ⟨b, o + q, none⟩).getD undef), hcs, ⟨by simp, hl, hc, (fun hh => by cases hh), fun _ => ⟨b, o, rfl, ?_, fun j u hu => ?_⟩⟩, fun i j u hj hu => ?_⟩
      · rw [add_zero_spot, add_zero_spot] at e0
        exact World.block_lt_of_cell? w _ e0
      · rw [List.getElem?_map] at hu
        by_cases hj : j < len * m
        · rw [List.getElem?_range hj] at hu
          have d1 : j / m < len := Nat.div_lt_of_lt_mul (by rw [Nat.mul_comm]; exact hj)
          have d2 : j % m < m := Nat.mod_lt _ hm0
          obtain ⟨v, hv, _⟩ := cel (j / m) (j % m) d1 d2
          rw [show j / m * m + j % m = j by rw [Nat.mul_comm]; exact Nat.div_add_mod j m] at hv
          simp [hv] at hu
          rw [hv, hu]
        · rw [List.getElem?_eq_none (by simpa using hj)] at hu
          cases hu
      · rw [List.getElem?_map] at hu
        by_cases hq : i * m + j < len * m
        · rw [List.getElem?_range hq] at hu
          have d1 : i < len := by
            rcases Nat.lt_or_ge i len with h | h
            · exact h
            · have := Nat.mul_le_mul_right m h; omega
          obtain ⟨v, hv, hFv⟩ := cel i j d1 hj
          simp [hv] at hu
          rw [← hu]; exact hFv
        · rw [List.getElem?_eq_none (by simpa using hq)] at hu
          cases hu
    · have : len = 0 := by omega
      subst this
      exact ⟨some a, 0, cap, [], hcs, ⟨by simp, hl, hc, (fun hh => by cases hh), fun h => by omega⟩, fun i j u _ hu => by simp at hu⟩

theorem bs_of : ∀ (xs : List Value), (∀ u ∈ xs, ∃ x, u = .int .u8 x ∧ (Lit.int .u8 x).wf = true) → ∃ l, xs = bs l ∧ isB l
  | [], _ => ⟨[], rfl, fun x hx => by cases hx⟩
  | u :: xs, h => by
    obtain ⟨l, rfl, hl⟩ := bs_of xs fun v hv => h v (List.mem_cons_of_mem _ hv)
    obtain ⟨x, rfl, hx⟩ := h u (List.mem_cons_self ..)
    refine ⟨x :: l, rfl, fun y hy => ?_⟩
    rcases List.mem_cons.1 hy with rfl | hy
    · exact isB_of_wf (l := [y]) (fun n hn => by rw [List.mem_singleton.1 hn]; exact hx) y (List.mem_singleton.2 rfl)
    · exact hl y hy
/-- Bytes that came in. -/
theorem open_bytes {t e : TypeId} {fuel : Nat} {cs : List Value} {x : DataW H × List MemPlace} (ht : P.underlying t = some (.slice e)) (he : P.underlying e = some (.int .u8)) (hC : P.cellsOf e = 1)
    (h : DataW.trod enc P w base spare held fuel t cs = some x) : ∃ (A : Option Addr) (n c : Nat) (l : List Int), cs = [.slice A n c] ∧ Rd w w.heap.size A c 1 n (bs l) ∧ isB l := by
  obtain ⟨A, n, c, xs, e1, e2, e3⟩ := open_any (m := 1) (F := fun _ u => ∃ x, u = .int .u8 x ∧ (Lit.int .u8 x).wf = true) ht hC (by decide) (fun fuel cs x hx j u hu => by
    obtain ⟨n, rfl, _, hw⟩ := DataW.trod_int he hx
    have hj : j = 0 := by have := (List.getElem?_eq_some_iff.1 hu).1; simp at this; omega
    subst hj
    simp at hu
    exact ⟨n, hu.symm, hw⟩) h
  obtain ⟨l, rfl, hl⟩ := bs_of xs fun u hu => by
    obtain ⟨i, hi, rfl⟩ := List.getElem_of_mem hu
    exact e3 i 0 _ (by decide) (by rw [Nat.mul_one, Nat.add_zero]; exact List.getElem?_eq_getElem hi)
  exact ⟨A, n, c, l, e1, e2, hl⟩

/-- One cell of a struct, by its field. -/
theorem one_of {cs : List Value} {u v : Value} {o : Nat} (hu : cs[o]? = some u) (hv : (cs.drop o).take 1 = [v]) : u = v := by
  have h3 := congrArg (fun q => q[0]?) hv
  simp only [List.getElem?_take, List.getElem?_drop, Nat.lt_succ_self, if_true, Nat.add_zero, List.getElem?_cons_zero] at h3
  exact Option.some.inj (hu.symm.trans h3)

/-- A message's cells that came in. -/
theorem msg_cells {t E : TypeId} {fs es : Array Field} {fuel : Nat} {cs : List Value} {x : DataW H × List MemPlace} (ht : P.underlying t = some (.struct fs)) (hC : P.cellsOf t = 13) (hT : MsgT P fs E)
    (hE : P.underlying E = some (.struct es)) (hEC : P.cellsOf E = 7) (hET : EntT P es)
    (h : DataW.trod enc P w base spare held fuel t cs = some x) : cs.length = 13 ∧ ∀ (j : Nat) (u : Value), cs[j]? = some u → FM w j u := by
  obtain ⟨xs, n, rfl, hx, hl, hxl, hfs⟩ := DataW.trod_struct ht h
  rw [hC] at hl
  refine ⟨hl, fun j u hu => ?_⟩
  have hj := (List.getElem?_eq_some_iff.1 hu).1
  have hjf : j < fs.size := by rw [hT.1]; omega
  have hy := hfs j fs[j] (Array.getElem?_eq_getElem hjf)
  rw [List.getElem?_eq_getElem (show j < xs.length by omega)] at hy
  obtain ⟨h1, h2, h3, h4, h5⟩ := hT.2 j fs[j] (Array.getElem?_eq_getElem hjf)
  have key : ∀ v, (cs.drop fs[j].offset).take (P.cellsOf fs[j].type) = [v] → u = v := by
    intro v hv
    rw [h1, h2] at hv
    exact one_of hu hv
  by_cases e8 : j = 8
  · obtain ⟨A, n, c, l, hcs, hr, ho⟩ := open_ents (h4 e8) hE hEC hET hy
    exact ⟨fun h => absurd e8 h, fun _ => ⟨A, n, c, l, key _ hcs, hr, ho⟩, fun h => by omega⟩
  · by_cases e12 : j = 12
    · obtain ⟨b, hcs, _⟩ := DataW.trod_bool (h5 e12) hy
      exact ⟨fun _ h => absurd e12 h, fun h => absurd h e8, fun _ => ⟨b, key _ hcs⟩⟩
    · obtain ⟨x, hcs, _, hw⟩ := DataW.trod_int (h3 e8 e12) hy
      exact ⟨fun _ _ => ⟨x, key _ hcs, hw⟩, fun h => absurd h e8, fun h => absurd h e12⟩

/-- What is known of the cell j of an operation. -/
def FG (w : World) (j : Nat) (u : Value) : Prop :=
  (j < 2 ∨ 15 < j → ∃ x, u = .int .i64 x ∧ (Lit.int .i64 x).wf = true) ∧ (2 ≤ j → j < 15 → FM w (j - 2) u) ∧
  (j = 15 → ∃ (A : Option Addr) (n c : Nat) (l : List Int), u = .slice A n c ∧ Rd w w.heap.size A c 1 n (bs l) ∧ isB l)
def AllG (w : World) (z : List Value) : Prop := ∀ (i j : Nat) (u : Value), j < 18 → z[i * 18 + j]? = some u → FG w j u

/-- An int64 at place o. -/
def I1 (P : Program) (f : Field) (o : Nat) : Prop := P.underlying f.type = some (.int .i64) ∧ P.cellsOf f.type = 1 ∧ f.offset = o
theorem open_gops {t e E B1 : TypeId} {f0 f1 f2 f3 f4 f5 : Field} {ms es : Array Field} {fuel : Nat} {cs : List Value} {x : DataW H × List MemPlace}
    (ht : P.underlying t = some (.slice e)) (he : P.underlying e = some (.struct #[f0, f1, f2, f3, f4, f5])) (hC : P.cellsOf e = 18)
    (h0 : I1 P f0 0) (h1 : I1 P f1 1) (h4 : I1 P f4 16) (h5 : I1 P f5 17)
    (hM : P.underlying f2.type = some (.struct ms)) (hMC : P.cellsOf f2.type = 13) (hMO : f2.offset = 2) (hMT : MsgT P ms E) (hE : P.underlying E = some (.struct es)) (hEC : P.cellsOf E = 7) (hET : EntT P es)
    (hB : P.underlying f3.type = some (.slice B1)) (hBC : P.cellsOf f3.type = 1) (hBO : f3.offset = 15) (hB1 : P.underlying B1 = some (.int .u8)) (hB1C : P.cellsOf B1 = 1)
    (h : DataW.trod enc P w base spare held fuel t cs = some x) : ∃ (A : Option Addr) (n c : Nat) (z : List Value), cs = [.slice A n c] ∧ Rd w w.heap.size A c 18 n z ∧ AllG w z := by
  refine open_any (F := FG w) ht hC (by decide) (fun fuel cs x hx j u hu => ?_) h
  obtain ⟨xs, n, rfl, _, hl, hxl, hfs⟩ := DataW.trod_struct he hx
  rw [hC] at hl
  have hxl6 : xs.length = 6 := hxl
  have hj : j < 18 := by have := (List.getElem?_eq_some_iff.1 hu).1; omega
  have int1 : ∀ (q : Nat) (f : Field) (o : Nat), (#[f0, f1, f2, f3, f4, f5] : Array Field)[q]? = some f → I1 P f o → q < 6 → ∀ u, cs[o]? = some u → ∃ x, u = .int .i64 x ∧ (Lit.int .i64 x).wf = true := by
    intro q f o hf hi hq u hu
    have hy := hfs q f hf
    rw [List.getElem?_eq_getElem (show q < xs.length by omega)] at hy
    obtain ⟨x, hcs, _, hw⟩ := DataW.trod_int hi.1 hy
    rw [hi.2.1, hi.2.2] at hcs
    exact ⟨x, one_of hu hcs, hw⟩
  refine ⟨fun hjj => ?_, fun h2 h15 => ?_, fun h15 => ?_⟩
  · rcases (by omega : j = 0 ∨ j = 1 ∨ j = 16 ∨ j = 17) with rfl | rfl | rfl | rfl
    · exact int1 0 f0 0 rfl h0 (by decide) u hu
    · exact int1 1 f1 1 rfl h1 (by decide) u hu
    · exact int1 4 f4 16 rfl h4 (by decide) u hu
    · exact int1 5 f5 17 rfl h5 (by decide) u hu
  · have hy := hfs 2 f2 rfl
    rw [List.getElem?_eq_getElem (show 2 < xs.length by omega), hMC, hMO] at hy
    refine (msg_cells hM hMC hMT hE hEC hET hy).2 (j - 2) u ?_
    rw [List.getElem?_take, if_pos (by omega), List.getElem?_drop, show 2 + (j - 2) = j by omega]
    exact hu
  · subst h15
    have hy := hfs 3 f3 rfl
    rw [List.getElem?_eq_getElem (show 3 < xs.length by omega)] at hy
    obtain ⟨A, n, c, l, hcs, hr, hb⟩ := open_bytes hB hB1 hB1C hy
    rw [hBC, hBO] at hcs
    exact ⟨A, n, c, l, one_of hu hcs, hr, hb⟩
end

/-- An operation's cells. -/
def gopc (kd id : Int) (m : Msg) (MA : Option Addr) (mc : Nat) (BA : Option Addr) (bn bc : Nat) (num clk : Int) : List Value :=
  [.int .i64 kd, .int .i64 id, .int .i64 m.kind, .int .i64 m.fr, .int .i64 m.dst, .int .i64 m.boot, .int .i64 m.view, .int .i64 m.last, .int .i64 m.mem, .int .i64 m.pos, .slice MA m.es.length mc, .int .i64 m.com, .int .i64 m.num, .int .i64 m.clk, .bool m.yes, .slice BA bn bc, .int .i64 num, .int .i64 clk]
theorem gop_of {w : World} {cs : List Value} (hl : cs.length = 18) (h : ∀ (j : Nat) (u : Value), j < 18 → cs[j]? = some u → FG w j u) :
    ∃ (kd id : Int) (m : Msg) (MA : Option Addr) (mc : Nat) (BA : Option Addr) (bn bc : Nat) (bl : List Int) (num clk : Int), cs = gopc kd id m MA mc BA bn bc num clk ∧
      Rd w w.heap.size MA mc 7 m.es.length (els m.es) ∧ MsgOk m ∧ Rd w w.heap.size BA bc 1 bn (bs bl) ∧ isB bl := by
  match cs, hl with
  | [a0, a1, a2, a3, a4, a5, a6, a7, a8, a9, a10, a11, a12, a13, a14, a15, a16, a17], _ =>
    obtain ⟨kd, rfl, _⟩ := (h 0 a0 (by decide) rfl).1 (by decide)
    obtain ⟨id, rfl, _⟩ := (h 1 a1 (by decide) rfl).1 (by decide)
    obtain ⟨num, rfl, _⟩ := (h 16 a16 (by decide) rfl).1 (by decide)
    obtain ⟨clk, rfl, _⟩ := (h 17 a17 (by decide) rfl).1 (by decide)
    obtain ⟨BA, bn, bc, bl, rfl, hb, hbb⟩ := (h 15 a15 (by decide) rfl).2.2 rfl
    obtain ⟨m, MA, mc, hm, hr, ho⟩ := msg_of (w := w) (cs := [a2, a3, a4, a5, a6, a7, a8, a9, a10, a11, a12, a13, a14]) rfl (fun j u hu => by
      have hj : j < 13 := by have := (List.getElem?_eq_some_iff.1 hu).1; simpa using this
      have := (h (j + 2) u (by omega) (by
        show (_ :: _ :: ([a2, a3, a4, a5, a6, a7, a8, a9, a10, a11, a12, a13, a14] ++ [_, _, _]))[j + 2]? = some u
        rw [List.getElem?_cons_succ, List.getElem?_cons_succ, List.getElem?_append_left (by simpa using hj)]
        exact hu)).2.1 (by omega) (by omega)
      simpa using this)
    unfold mcs at hm
    simp only [List.cons.injEq, and_true] at hm
    obtain ⟨rfl, rfl, rfl, rfl, rfl, rfl, rfl, rfl, rfl, rfl, rfl, rfl, rfl⟩ := hm
    exact ⟨kd, id, m, MA, mc, BA, bn, bc, bl, num, clk, rfl, hr, ho, hb, hbb⟩

/-- The operation at place i, in a later world. -/
theorem Rd.gop {w w' : World} {c n : Nat} {A : Option Addr} {z : List Value} (h : Rd w w.heap.size A c 18 n z) (hz : AllG w z) (hb : Below w.heap.size w w') {i : Nat} (hi : i < n) :
    ∃ (b o : Nat) (kd id : Int) (m : Msg) (MA : Option Addr) (mc : Nat) (BA : Option Addr) (bn bc : Nat) (bl : List Int) (num clk : Int), A = some ⟨b, o, none⟩ ∧ w'.rangeAt b (o + i * 18) (gopc kd id m MA mc BA bn bc num clk) ∧
      Rd w' w'.heap.size MA mc 7 m.es.length (els m.es) ∧ MsgOk m ∧ Rd w' w'.heap.size BA bc 1 bn (bs bl) ∧ isB bl := by
  have hlen := h.len
  obtain ⟨b, o, hA, _, hc⟩ := (h.below hb).2.2.2.2 (by omega)
  have hl : ((z.drop (i * 18)).take 18).length = 18 := by simp; omega
  obtain ⟨kd, id, m, MA, mc, BA, bn, bc, bl, num, clk, hcs, h1, h2, h3, h4⟩ := gop_of (w := w) hl (fun j u hj hu => hz i j u hj (by
    rw [List.getElem?_take, if_pos hj, List.getElem?_drop] at hu
    exact hu))
  refine ⟨b, o, kd, id, m, MA, mc, BA, bn, bc, bl, num, clk, hA, fun j v hv => ?_, (h1.past hb).tight, h2, (h3.past hb).tight, h4⟩
  rw [← hcs] at hv
  have hj : j < 18 := by have := (List.getElem?_eq_some_iff.1 hv).1; omega
  rw [List.getElem?_take, if_pos hj, List.getElem?_drop] at hv
  rw [Nat.add_assoc]
  exact hc _ _ hv
end Go.Proofs.YtfijjdahoimoeaaDoor

/- The statement's own arrays beside the gram. -/
namespace Go.Proofs.YtfijjdahoimoeaaDoor
open Go.RowKit

/-- Eight cells: none, then what f says of each process. -/
def col (f : Oth → Value) (L : List Oth) : List Value := f PGram.zero :: L.map f
def fB (o : Oth) : Value := .int .i64 o.boot
def fN (o : Oth) : Value := .int .i64 o.num
def fA (o : Oth) : Value := .int .i64 o.clk
def fS (o : Oth) : Value := .bool o.sent
theorem col_at (f : Oth → Value) {L : List Oth} {k : Nat} (h : k < L.length) {o : Oth} (ho : L.getD k PGram.zero = o) : (col f L)[k + 1]? = some (f o) := by
  unfold col
  rw [List.getElem?_cons_succ, List.getElem?_map, PGram.getD_eq h, ho]; rfl
theorem col_set (f : Oth → Value) (L : List Oth) (k : Nat) (o : Oth) : (col f L).set (k + 1) (f o) = col f (L.set k o) := by
  unfold col
  rw [List.set_cons_succ, List.map_set]
theorem col_same (f : Oth → Value) {L : List Oth} {k : Nat} (h : k < L.length) {o o' : Oth} (ho : L.getD k PGram.zero = o) (e : f o' = f o) : col f (L.set k o') = col f L := by
  rw [← col_set, e]
  have := col_at f h ho
  obtain ⟨h1, h2⟩ := List.getElem?_eq_some_iff.1 this
  rw [← h2, List.set_getElem_self]
theorem at_getD {L : List Oth} {i : Int} (h : PGram.isId i = true) : ∃ k : Nat, k < 7 ∧ i = (k : Int) + 1 ∧ PGram.at_ L i = L.getD k PGram.zero ∧ ∀ o, PGram.put L i o = L.set k o := by
  obtain ⟨k, hk, rfl⟩ := PGram.isId_yes h
  exact ⟨k, hk, rfl, PGram.at_k L k, PGram.put_k L k⟩
/-- Hear changes starts alone. -/
theorem hleft_col {f : Oth → Value} (hf : ∀ (o : Oth) (b : Int), f { o with boot := b } = f o) {me : Int} {L : List Oth} (hL : L.length = 7) {r : Option Msg} (hr : ∀ m, r = some m → PGram.isId m.fr = true) : col f (PGram.hleft me L r) = col f L := by
  unfold PGram.hleft
  cases r with
  | none => rfl
  | some m =>
    simp only
    split
    · rfl
    · split
      · rfl
      · obtain ⟨k, hk, _, ha, hp⟩ := at_getD (L := L) (hr m rfl)
        rw [hp, ha]
        exact col_same f (by omega) rfl (hf _ _)

/-- The gram at g; the statement's starts (as T has them), numbers, times, and whether there are any. -/
structure As (w0 w : World) (g gb gn ga gs : Nat) (me : Int) (L T : List Oth) : Prop where
  gm : Gs w0 w g me L
  b : Blk w gb 26 (col fB T)
  n : Blk w gn 26 (col fN L)
  a : Blk w ga 26 (col fA L)
  s : Blk w gs 27 (col fS L)
  lb : w0.heap.size ≤ gb
  ln : w0.heap.size ≤ gn
  la : w0.heap.size ≤ ga
  ls : w0.heap.size ≤ gs
  bn : gb ≠ gn
  ba : gb ≠ ga
  na : gn ≠ ga
  tl : T.length = 7
section
variable {w0 w w' : World} {g gb gn ga gs : Nat} {me : Int} {L L' T T' : List Oth}
theorem As.past (h : As w0 w g gb gn ga gs me L T) (b : Below w.heap.size w w') : As w0 w' g gb gn ga gs me L T :=
  ⟨h.gm.past b, h.b.past b, h.n.past b, h.a.past b, h.s.past b, h.lb, h.ln, h.la, h.ls, h.bn, h.ba, h.na, h.tl⟩
theorem As.len (h : As w0 w g gb gn ga gs me L T) : L.length = 7 := h.gm.gm.2
/-- Behind a call that wrote the gram: starts alone. -/
theorem As.hear (h : As w0 w g gb gn ga gs me L T) (k : Gm w' g me L') (t : Touch [g] w w') (hn : col fN L' = col fN L) (ha : col fA L' = col fA L) (hs : col fS L' = col fS L) : As w0 w' g gb gn ga gs me L' T :=
  ⟨h.gm.go k t, h.gm.blk h.b (by decide) t, by rw [hn]; exact h.gm.blk h.n (by decide) t, by rw [ha]; exact h.gm.blk h.a (by decide) t, by rw [hs]; exact h.gm.blk h.s (by decide) t, h.lb, h.ln, h.la, h.ls, h.bn, h.ba, h.na, h.tl⟩
/-- A start is written. -/
theorem As.setB (h : As w0 w g gb gn ga gs me L T) {k : Nat} {o : Oth} (hT : (T.set k o).length = 7) : As w0 (w.setCell ⟨gb, k + 1, none⟩ (fB o)) g gb gn ga gs me L (T.set k o) :=
  have G := grown_set w gb (k + 1) (fB o)
  ⟨h.gm.other h.b (by decide) h.lb G, by rw [← col_set]; exact h.b.set _ _, h.n.far G h.bn.symm, h.a.far G h.ba.symm, h.s.far G (Blk.ne h.s h.b (by decide)), h.lb, h.ln, h.la, h.ls, h.bn, h.ba, h.na, hT⟩
end

section
variable {w0 w : World} {g gb gn ga gs : Nat} {me : Int} {L : List Oth} {k : Nat} {o : Oth} {num clk : Int}
/-- What Sent leaves, and the statement's three writes behind it. -/
def sent3 (w : World) (gn ga gs k : Nat) (num clk : Int) : World := ((((w.setCell ⟨gn, k, none⟩ (.int .i64 num)).setCell ⟨ga, k, none⟩ (.int .i64 clk)).setCell ⟨gs, k, none⟩ (.bool true))).drew
theorem Blk.sent3 {x : Nat} {t : TypeId} {xs : List Value} (K : Blk w x t xs) (h1 : x ≠ gn) (h2 : x ≠ ga) (h3 : x ≠ gs) : Blk (sent3 w gn ga gs k num clk) x t xs :=
  Blk.drew (((K.far (grown_set _ _ _ _) h1).far (grown_set _ _ _ _) h2).far (grown_set _ _ _ _) h3)
theorem As.sent (hg : Gs w0 w g me (L.set k ⟨o.boot, num, clk, true⟩)) (hk : k < L.length) (ho : L.getD k PGram.zero = o) (b : Blk w gb 26 (col fB L)) (n : Blk w gn 26 (col fN L)) (a : Blk w ga 26 (col fA L)) (s : Blk w gs 27 (col fS L))
    (lb : w0.heap.size ≤ gb) (ln : w0.heap.size ≤ gn) (la : w0.heap.size ≤ ga) (ls : w0.heap.size ≤ gs) (bn : gb ≠ gn) (ba : gb ≠ ga) (na : gn ≠ ga) (hL : L.length = 7) :
    As w0 (sent3 w gn ga gs (k + 1) num clk) g gb gn ga gs me (L.set k ⟨o.boot, num, clk, true⟩) (L.set k ⟨o.boot, num, clk, true⟩) := by
  have G1 := grown_set w gn (k + 1) (.int .i64 num)
  have G2 := grown_set (w.setCell ⟨gn, k + 1, none⟩ (.int .i64 num)) ga (k + 1) (.int .i64 clk)
  have G3 := grown_set ((w.setCell ⟨gn, k + 1, none⟩ (.int .i64 num)).setCell ⟨ga, k + 1, none⟩ (.int .i64 clk)) gs (k + 1) (.bool true)
  have sn : gs ≠ gn := s.ne n (by decide)
  have sa : gs ≠ ga := s.ne a (by decide)
  have sb : gs ≠ gb := s.ne b (by decide)
  have g1 := hg.other n (by decide) ln G1
  have a1 := a.far G1 na.symm
  have g2 := g1.other a1 (by decide) la G2
  have s2 := (s.far G1 sn).far G2 sa
  have g3 := g2.other s2 (by decide) ls G3
  have key : As w0 (((w.setCell ⟨gn, k + 1, none⟩ (.int .i64 num)).setCell ⟨ga, k + 1, none⟩ (.int .i64 clk)).setCell ⟨gs, k + 1, none⟩ (.bool true)) g gb gn ga gs me (L.set k ⟨o.boot, num, clk, true⟩) (L.set k ⟨o.boot, num, clk, true⟩) := by
    refine ⟨g3, ?_, ?_, ?_, ?_, lb, ln, la, ls, bn, ba, na, by rw [List.length_set]; exact hL⟩
    · rw [col_same fB hk ho (o' := ⟨o.boot, num, clk, true⟩) rfl]
      exact ((b.far G1 bn).far G2 ba).far G3 sb.symm
    · rw [← col_set]
      exact ((n.set (k + 1) (.int .i64 num)).far G2 na).far G3 sn.symm
    · rw [← col_set]
      exact (a1.set (k + 1) (.int .i64 clk)).far G3 sa.symm
    · rw [← col_set]
      exact s2.set (k + 1) (.bool true)
  exact key.past ((Below.refl _ _).drew)
end

/-- One more of the first ones. -/
theorem takes_next {L T : List Oth} {q : Nat} (h : q < L.length) {o : Oth} (ho : L.getD q PGram.zero = o) (hT : (L.take q ++ T.drop q).length = L.length) : (L.take q ++ T.drop q).set q o = L.take (q + 1) ++ T.drop (q + 1) := by
  have hl : (L.take q).length = q := by rw [List.length_take]; omega
  have e := PGram.getD_eq h
  rw [ho] at e
  obtain ⟨h1, h2⟩ := List.getElem?_eq_some_iff.1 e
  have hq : q < T.length := by rw [List.length_append, hl, List.length_drop] at hT; omega
  rw [List.set_append_right _ _ (by omega), hl, Nat.sub_self, List.drop_eq_getElem_cons hq, List.set_cons_zero, List.take_succ_eq_append_getElem h1, h2, List.append_assoc]
  rfl

/-- The statement's Cut of a message: another message. -/
theorem lCutM2 (w : World) (m : Msg) (A : Option Addr) (c : Nat) (h : Rd w w.heap.size A c 7 m.es.length (els m.es)) (hok : ∀ e ∈ m.es, EntOk e) :
    Calls Tryd.prog 10 #[mv m A c] w fun x w' => ∃ (A' : Option Addr) (c' : Nat) (m2 : Msg), x = .returned (.agg #[.int .i64 m2.kind, .int .i64 m2.fr, .int .i64 m2.dst, .int .i64 m2.boot, .int .i64 m2.view, .int .i64 m2.last, .int .i64 m2.mem, .int .i64 m2.pos, .slice A' m2.es.length c', .int .i64 m2.com, .int .i64 m2.num, .int .i64 m2.clk, .bool m2.yes]) ∧ w'.ownsRow w.heap.size 70 7 (.slice A' m2.es.length c') m2.es.length (els m2.es) ∧ Below w.heap.size w w' :=
  (lCutM_c w m A c h hok).mono fun _ _ ⟨A', c', es, h1, _, h2, _, h3⟩ => ⟨A', c', withE m es, h1, h2, h3⟩
/-- What Hear tells, whatever the bytes are. -/
theorem hear_any {w : World} {g : Nat} {me : Int} {L : List Oth} {A : Option Addr} {c n : Nat} {l : List Int} {r : Option Msg} {X : Msg} {E : Int} (hg : Gm w g me L) (h : Rd w w.heap.size A c 1 n (bs l)) (hb : isB l) (ht : Tab w) (hn : n ≤ 1000000) (hd : PMsg.dec l = r) (hX : PGram.hmsg me L r = X) (hE : PGram.herr me L r = E) :
    Calls Tryd.prog 11 #[.pointer (some ⟨g, 0, none⟩), .slice A n c] w fun x w' => ∃ (A' : Option Addr) (c' : Nat), x = .returned (.tuple #[.agg #[.int .i64 X.kind, .int .i64 X.fr, .int .i64 X.dst, .int .i64 X.boot, .int .i64 X.view, .int .i64 X.last, .int .i64 X.mem, .int .i64 X.pos, .slice A' X.es.length c', .int .i64 X.com, .int .i64 X.num, .int .i64 X.clk, .bool X.yes], .int .i64 E]) ∧
      w'.ownsRow w.heap.size 70 7 (.slice A' X.es.length c') X.es.length (els X.es) ∧ Gm w' g me (PGram.hleft me L r) ∧ Touch [g] w w' := by
  have e1 := hear_c w g me L A c n l hg h hb ht hn
  rw [hd] at e1
  unfold HearPost at e1
  rw [hX, hE] at e1
  exact e1

theorem sev_pos (u : Nat) : 1 ≤ (PNum.sev u).length := by
  unfold PNum.sev
  split <;> simp
theorem encN_pos : ∀ l : List Int, l.length ≤ (PEnt.encN l).length
  | [] => Nat.le_refl _
  | x :: l => by
    have := encN_pos l
    have h1 := sev_pos (PNum.zig x)
    have e : PEnt.encN (x :: l) = PNum.sev (PNum.zig x) ++ PEnt.encN l := by simp [PEnt.encN]
    rw [e, List.length_append, List.length_cons]; omega
/-- Few bytes are nobody's message. -/
theorem dec_few {l : List Int} (hb : isB l) (h : l.length < 17) : PMsg.dec l = none := by
  cases hd : PMsg.dec l with
  | none => rfl
  | some m =>
    obtain ⟨h1, h2⟩ := PMsg.dec_inv hb hd
    rw [PMsg.enc_yes h1] at h2
    have := congrArg List.length h2
    rw [sealed_length] at this
    unfold PMsg.body at this
    rw [List.length_append] at this
    have h3 := encN_pos (PMsg.ns m)
    rw [PMsg.ns_length] at h3
    omega
theorem gopc_msg {kd id : Int} {m : Msg} {MA : Option Addr} {mc : Nat} {BA : Option Addr} {bn bc : Nat} {num clk : Int} {w : World} {g : Nat} {t : TypeId} (K : Blk w g t (gopc kd id m MA mc BA bn bc num clk)) : w.rangeAt g 2 (mcs m MA mc) := fun j v hv => by
  have hj : j < 13 := by have := (List.getElem?_eq_some_iff.1 hv).1; exact this
  refine K.cell ?_
  show (_ :: _ :: (mcs m MA mc ++ [_, _, _]))[2 + j]? = some v
  rw [Nat.add_comm, List.getElem?_cons_succ, List.getElem?_cons_succ, List.getElem?_append_left (by simpa [mcs] using hj)]
  exact hv
end Go.Proofs.YtfijjdahoimoeaaDoor

/- The document's own answer: Ratio. -/
namespace Go.Proofs.YtfijjdahoimoeaaDoor
open Go.RowKit

/-- A part of a number, upwards or downwards. -/
def ratio (a p q : Int) (u : Bool) : Int := if u then PSpan.up a p q else PSpan.dn a p q

theorem Ratio_c (w : World) (a p q : Int) (u : Bool) (h1 : 0 ≤ a) (h2 : a ≤ 2199023255552) (h3 : 500000 ≤ p) (h4 : p ≤ 1500000) (h5 : 500000 ≤ q) (h6 : q ≤ 1500000) :
    Calls Tryd.prog 32 #[.int .i64 a, .int .i64 p, .int .i64 q, .bool u] w fun e w' => e = .returned (.int .i64 (ratio a p q u)) ∧ w = w' := by
  have HU := Lib.hid (PSpan.up_parts a p q (by omega))
  have HD := Lib.hid (PSpan.dn_parts a p q (by omega))
  have d1 : 0 ≤ a / q := Int.ediv_nonneg h1 (by omega)
  have d2 : a / q ≤ a := Int.ediv_le_self _ h1
  have d3 := Int.emod_nonneg a (show q ≠ 0 by omega)
  have d4 := Int.emod_lt_of_pos a (show 0 < q by omega)
  obtain ⟨m1, m2⟩ := mul_bound d1 (show a / q ≤ 2199023255552 by omega) (show 0 ≤ p by omega) h4
  obtain ⟨m3, m4⟩ := mul_bound d3 (show a % q ≤ 1500000 by omega) (show 0 ≤ p by omega) h4
  have e1 : 0 ≤ a % q * p / q := Int.ediv_nonneg m3 (by omega)
  have e2 : a % q * p / q ≤ a % q * p := Int.ediv_le_self _ m3
  have e3 := Int.emod_nonneg (a % q * p) (show q ≠ 0 by omega)
  have e4 := Int.emod_lt_of_pos (a % q * p) (show 0 < q by omega)
  cases u
  · go_enter Tryd.func32, Tryd.ntmps32
    go_wp2_with fail
    go_ret
    exact ⟨by show _ = Ending.returned (.int .i64 (PSpan.dn a p q)); rw [HD.out]; rfl, rfl⟩
  · by_cases hz : a % q * p % q = 0
    · have t1 : (a % q * p % q != 0) = false := by simp [hz]
      have HZ := Lib.hid hz; clear hz
      go_enter Tryd.func32, Tryd.ntmps32
      go_wp2_with fail
      go_ret
      exact ⟨by show _ = Ending.returned (.int .i64 (PSpan.up a p q)); rw [HU.out, if_pos HZ.out, Int.add_zero]; rfl, rfl⟩
    · have t1 : (a % q * p % q != 0) = true := by simp [hz]
      have HZ := Lib.hid hz; clear hz
      go_enter Tryd.func32, Tryd.ntmps32
      go_wp2_with fail
      go_ret
      exact ⟨by show _ = Ending.returned (.int .i64 (PSpan.up a p q)); rw [HU.out, if_neg HZ.out]; rfl, rfl⟩

end Go.Proofs.YtfijjdahoimoeaaDoor

/- Contracts of package span and of the document's own answers, as far as drift asks them: XSpanD, XSpanR and Time. -/
namespace Go.Proofs.YtfijjdahoimoeaaDoor
open Go.RowKit

theorem rTime_c (w : World) (a : Int) :
    Calls Tryd.prog 33 #[.int .i64 a] w fun e w' => e = .returned (.bool (decide (-1099511627776 ≤ a ∧ a ≤ 1099511627776))) ∧ w = w' := by
  have e : decide (-1099511627776 ≤ a ∧ a ≤ 1099511627776) = (decide (-1099511627776 ≤ a) && decide (a ≤ 1099511627776)) := Bool.decide_and ..
  rw [e]; clear e
  by_cases h1 : -1099511627776 ≤ a <;> by_cases h2 : a ≤ 1099511627776
  all_goals
    go_enter Tryd.func33, Tryd.ntmps33
    go_wp2_with fail
    go_ret
    exact ⟨by simp [h1, h2], rfl⟩

end Go.Proofs.YtfijjdahoimoeaaDoor

/- The document's own answer: Sub, Bound. -/
namespace Go.Proofs.YtfijjdahoimoeaaDoor
open Go.RowKit

theorem rSub_c (w : World) (a b : Int) :
    Calls Tryd.prog 31 #[.int .i64 a, .int .i64 b] w fun e w' => e = .returned (.tuple #[.int .i64 (PSpan.sub a b).1, .bool (PSpan.sub a b).2]) ∧ w = w' := by
  by_cases ha : -1099511627776 ≤ a ∧ a ≤ 1099511627776
  · by_cases hb : -1099511627776 ≤ b ∧ b ≤ 1099511627776
    · by_cases ht : -1099511627776 ≤ a - b ∧ a - b ≤ 1099511627776
      · have H1 := Lib.hid (inT ha)
        have H2 := Lib.hid (inT hb)
        have H4 := Lib.hid (inT ht)
        have H3 := Lib.hid (show PSpan.sub a b = (a - b, true) from (if_pos ⟨ha, hb⟩ : PSpan.sub a b = PSpan.ans (a - b)).trans (PSpan.ans_in ht.1 ht.2))
        clear ht
        obtain ⟨a1, a2⟩ := ha
        obtain ⟨b1, b2⟩ := hb
        go_enter Tryd.func31, Tryd.ntmps31
        go_wp2_with fail
        refine (rTime_c w a).mono ?_
        rw [H1.out]
        rintro e w' ⟨rfl, rfl⟩
        go_wp2_with fail
        refine (rTime_c w b).mono ?_
        rw [H2.out]
        rintro e w' ⟨rfl, rfl⟩
        go_wp2_with fail
        refine (rTime_c w (a - b)).mono ?_
        rw [H4.out]
        rintro e w' ⟨rfl, rfl⟩
        go_wp2_with fail
        go_ret2
        exact ⟨by rw [H3.out]; rfl, rfl⟩
      · have H1 := Lib.hid (inT ha)
        have H2 := Lib.hid (inT hb)
        have H4 := Lib.hid (noT ht)
        have H3 := Lib.hid (show PSpan.sub a b = (0, false) from (if_pos ⟨ha, hb⟩ : PSpan.sub a b = PSpan.ans (a - b)).trans (PSpan.ans_out ht))
        clear ht
        obtain ⟨a1, a2⟩ := ha
        obtain ⟨b1, b2⟩ := hb
        go_enter Tryd.func31, Tryd.ntmps31
        go_wp2_with fail
        refine (rTime_c w a).mono ?_
        rw [H1.out]
        rintro e w' ⟨rfl, rfl⟩
        go_wp2_with fail
        refine (rTime_c w b).mono ?_
        rw [H2.out]
        rintro e w' ⟨rfl, rfl⟩
        go_wp2_with fail
        refine (rTime_c w (a - b)).mono ?_
        rw [H4.out]
        rintro e w' ⟨rfl, rfl⟩
        go_wp2_with fail
        go_ret2
        exact ⟨by rw [H3.out]; rfl, rfl⟩
    · have H1 := Lib.hid (inT ha)
      have H2 := Lib.hid (noT hb)
      have H3 := Lib.hid (show PSpan.sub a b = (0, false) from if_neg (fun h => hb h.2))
      clear ha hb
      go_enter Tryd.func31, Tryd.ntmps31
      go_wp2_with fail
      refine (rTime_c w a).mono ?_
      rw [H1.out]
      rintro e w' ⟨rfl, rfl⟩
      go_wp2_with fail
      refine (rTime_c w b).mono ?_
      rw [H2.out]
      rintro e w' ⟨rfl, rfl⟩
      go_wp2_with fail
      go_ret2
      exact ⟨by rw [H3.out]; rfl, rfl⟩
  · have H1 := Lib.hid (noT ha)
    have H3 := Lib.hid (show PSpan.sub a b = (0, false) from if_neg (fun h => ha h.1))
    clear ha
    go_enter Tryd.func31, Tryd.ntmps31
    go_wp2_with fail
    refine (rTime_c w a).mono ?_
    rw [H1.out]
    rintro e w' ⟨rfl, rfl⟩
    go_wp2_with fail
    go_ret2
    exact ⟨by rw [H3.out]; rfl, rfl⟩


theorem bound_eq (s h b c p : Int) : PDelay.bound s h b c p =
    if (PSpan.sub c s).2 = true ∧ (PSpan.sub b h).2 = true ∧ 0 ≤ (PSpan.sub c s).1 ∧ 0 ≤ (PSpan.sub b h).1 ∧ PDelay.Rate p then PSpan.add (PDelay.raw (PSpan.sub c s).1 (PSpan.sub b h).1 p) 0 else (0, false) := by
  unfold PDelay.bound PDelay.went
  by_cases h1 : (PSpan.sub c s).2 = true <;> by_cases h2 : (PSpan.sub b h).2 = true <;> by_cases h3 : 0 ≤ (PSpan.sub c s).1 <;> by_cases h4 : 0 ≤ (PSpan.sub b h).1 <;> simp [h1, h2, h3, h4]
theorem sub_in {a b x : Int} (h : PSpan.sub a b = (x, true)) : -1099511627776 ≤ x ∧ x ≤ 1099511627776 := by
  unfold PSpan.sub at h
  split at h
  · unfold PSpan.ans at h
    split at h
    · rename_i h2; cases h; exact h2
    · cases h
  · cases h

set_option maxHeartbeats 4000000 in
theorem rBound_c (w : World) (s h b c p : Int) :
    Calls Tryd.prog 18 #[.agg #[.int .i64 s, .int .i64 h, .int .i64 b, .int .i64 c], .int .i64 p] w fun e w' => e = .returned (.tuple #[.int .i64 (PDelay.bound s h b c p).1, .bool (PDelay.bound s h b c p).2]) ∧ Below w.heap.size w w' := by
  have K1 := Lib.hid (fun w' => rSub_c w' c s)
  have K2 := Lib.hid (fun w' => rSub_c w' b h)
  have HB := Lib.hid (bound_eq s h b c p)
  have b1 := Lib.hid ((Below.refl w.heap.size w).alloc (Nat.le_refl _) (.cells #[.int .i64 s, .int .i64 h, .int .i64 b, .int .i64 c] 47))
  have S1 := Lib.hid (fun x (e : PSpan.sub c s = (x, true)) => sub_in e)
  have S2 := Lib.hid (fun x (e : PSpan.sub b h = (x, true)) => sub_in e)
  generalize PDelay.bound s h b c p = r at *
  generalize PSpan.sub c s = u at *
  generalize PSpan.sub b h = v at *
  obtain ⟨a, ok⟩ := u
  obtain ⟨k, ok2⟩ := v
  cases ok
  · have HN := Lib.hid (HB.out.trans (if_neg (fun x => by cases x.1)))
    clear HB
    go_enter Tryd.func18, Tryd.ntmps18
    go_wp2_with fail
    refine (K1.out _).mono ?_
    rintro e w1 ⟨rfl, rfl⟩
    go_wp2_with fail
    refine (K2.out _).mono ?_
    rintro e w1 ⟨rfl, rfl⟩
    go_wp2_with fail
    go_ret2
    exact ⟨by rw [HN.out]; rfl, b1.out⟩
  cases ok2
  · have HN := Lib.hid (HB.out.trans (if_neg (fun x => by cases x.2.1)))
    clear HB
    go_enter Tryd.func18, Tryd.ntmps18
    go_wp2_with fail
    refine (K1.out _).mono ?_
    rintro e w1 ⟨rfl, rfl⟩
    go_wp2_with fail
    refine (K2.out _).mono ?_
    rintro e w1 ⟨rfl, rfl⟩
    go_wp2_with fail
    go_ret2
    exact ⟨by rw [HN.out]; rfl, b1.out⟩
  obtain ⟨a1, a2⟩ := S1.out a rfl
  obtain ⟨k1, k2⟩ := S2.out k rfl
  clear S1 S2
  rcases Int.lt_or_le a 0 with cb | g1
  · have HN := Lib.hid (HB.out.trans (if_neg (fun x => by have := x.2.2.1; omega)))
    clear HB
    go_enter Tryd.func18, Tryd.ntmps18
    go_wp2_with fail
    refine (K1.out _).mono ?_
    rintro e w1 ⟨rfl, rfl⟩
    go_wp2_with fail
    refine (K2.out _).mono ?_
    rintro e w1 ⟨rfl, rfl⟩
    go_wp2_with fail
    go_ret2
    exact ⟨by rw [HN.out]; rfl, b1.out⟩
  rcases Int.lt_or_le k 0 with cb | g2
  · have HN := Lib.hid (HB.out.trans (if_neg (fun x => by have := x.2.2.2.1; omega)))
    clear HB
    go_enter Tryd.func18, Tryd.ntmps18
    go_wp2_with fail
    refine (K1.out _).mono ?_
    rintro e w1 ⟨rfl, rfl⟩
    go_wp2_with fail
    refine (K2.out _).mono ?_
    rintro e w1 ⟨rfl, rfl⟩
    go_wp2_with fail
    go_ret2
    exact ⟨by rw [HN.out]; rfl, b1.out⟩
  rcases Int.lt_or_le p 0 with cb | g3
  · have HN := Lib.hid (HB.out.trans (if_neg (fun x => by have := x.2.2.2.2.1; omega)))
    clear HB
    go_enter Tryd.func18, Tryd.ntmps18
    go_wp2_with fail
    refine (K1.out _).mono ?_
    rintro e w1 ⟨rfl, rfl⟩
    go_wp2_with fail
    refine (K2.out _).mono ?_
    rintro e w1 ⟨rfl, rfl⟩
    go_wp2_with fail
    go_ret2
    exact ⟨by rw [HN.out]; rfl, b1.out⟩
  rcases Int.lt_or_le 500000 p with cb | g4
  · have HN := Lib.hid (HB.out.trans (if_neg (fun x => by have := x.2.2.2.2.2; omega)))
    clear HB
    go_enter Tryd.func18, Tryd.ntmps18
    go_wp2_with fail
    refine (K1.out _).mono ?_
    rintro e w1 ⟨rfl, rfl⟩
    go_wp2_with fail
    refine (K2.out _).mono ?_
    rintro e w1 ⟨rfl, rfl⟩
    go_wp2_with fail
    go_ret2
    exact ⟨by rw [HN.out]; rfl, b1.out⟩
  have hp : PDelay.Rate p := ⟨g3, g4⟩
  have HN := Lib.hid (HB.out.trans (if_pos ⟨rfl, rfl, g1, g2, hp⟩))
  have KM := Lib.hid (fun w' => Ratio_c w' a 1000000 (1000000 - p) true g1 (by omega) (by omega) (by omega) (by omega) (by omega))
  have KL := Lib.hid (fun w' => Ratio_c w' k 1000000 (1000000 + p) false g2 (by omega) (by omega) (by omega) (by omega) (by omega))
  obtain ⟨u1, u2⟩ := PDelay.up_big g1 a2 hp
  obtain ⟨d1, d2⟩ := PDelay.dn_big g2 hp
  have HN' := Lib.hid (show r = PSpan.add (max 0 (PSpan.up a 1000000 (1000000 - p) - PSpan.dn k 1000000 (1000000 + p))) 0 from HN.out)
  have KM' := Lib.hid (show ∀ w', Calls Tryd.prog 32 #[.int .i64 a, .int .i64 1000000, .int .i64 (1000000 - p), .bool true] w' fun e w'' => e = .returned (.int .i64 (PSpan.up a 1000000 (1000000 - p))) ∧ w' = w'' from KM.out)
  have KL' := Lib.hid (show ∀ w', Calls Tryd.prog 32 #[.int .i64 k, .int .i64 1000000, .int .i64 (1000000 + p), .bool false] w' fun e w'' => e = .returned (.int .i64 (PSpan.dn k 1000000 (1000000 + p))) ∧ w' = w'' from KL.out)
  clear KM KL HN HB hp
  generalize PSpan.up a 1000000 (1000000 - p) = u at *
  generalize PSpan.dn k 1000000 (1000000 + p) = d at *
  have KT := Lib.hid (fun w' => rTime_c w' (max 0 (u - d)))
  by_cases hT : -1099511627776 ≤ max 0 (u - d) ∧ max 0 (u - d) ≤ 1099511627776
  · have HT := Lib.hid (decide_eq_true hT)
    have HA := Lib.hid (HN'.out.trans (PDelay.add_zero (by omega) hT.2))
    clear hT HN'
    go_enter Tryd.func18, Tryd.ntmps18
    go_wp2_with fail
    refine (K1.out _).mono ?_
    rintro e w1 ⟨rfl, rfl⟩
    go_wp2_with fail
    refine (K2.out _).mono ?_
    rintro e w1 ⟨rfl, rfl⟩
    go_wp2_with fail
    refine (KM'.out _).mono ?_
    rintro e w1 ⟨rfl, rfl⟩
    go_wp2_with fail
    refine (KL'.out _).mono ?_
    rintro e w1 ⟨rfl, rfl⟩
    go_wp2_with fail
    refine (KT.out _).mono ?_
    rw [HT.out]
    rintro e w1 ⟨rfl, rfl⟩
    go_wp2_with fail
    go_ret2
    exact ⟨by rw [HA.out]; rfl, b1.out⟩
  · have HT := Lib.hid (decide_eq_false hT)
    have HA := Lib.hid (HN'.out.trans (show PSpan.add (max 0 (u - d)) 0 = (0, false) from if_neg (fun x => hT x.1)))
    clear hT HN'
    go_enter Tryd.func18, Tryd.ntmps18
    go_wp2_with fail
    refine (K1.out _).mono ?_
    rintro e w1 ⟨rfl, rfl⟩
    go_wp2_with fail
    refine (K2.out _).mono ?_
    rintro e w1 ⟨rfl, rfl⟩
    go_wp2_with fail
    refine (KM'.out _).mono ?_
    rintro e w1 ⟨rfl, rfl⟩
    go_wp2_with fail
    refine (KL'.out _).mono ?_
    rintro e w1 ⟨rfl, rfl⟩
    go_wp2_with fail
    refine (KT.out _).mono ?_
    rw [HT.out]
    rintro e w1 ⟨rfl, rfl⟩
    go_wp2_with fail
    go_ret2
    exact ⟨by rw [HA.out]; rfl, b1.out⟩
end Go.Proofs.YtfijjdahoimoeaaDoor

/- Contract of the statements' Short. -/
namespace Go.Proofs.YtfijjdahoimoeaaDoor
open Go.RowKit

theorem Short_c (w : World) (B : Nat) (A : Option Addr) (c n : Nat) (l : List Int) (k : Int) (h : Rd w B A c 1 n (bs l)) (h0 : 0 ≤ k) :
    Calls Tryd.prog 15 #[.slice A n c, .int .i64 k] w fun e w' => ∃ A' c', e = .returned (.slice A' (min n k.toNat) c') ∧ w = w' ∧ Rd w B A' c' 1 (min n k.toNat) (bs (l.take k.toNat)) := by
  obtain ⟨m, rfl⟩ := Int.eq_ofNat_of_zero_le h0
  have hl := h.blen
  have HL := Lib.hid hl; clear hl
  by_cases hlt : m < n
  · go_enter Tryd.func15, Tryd.ntmps15
    go_wp2_with (with_reducible show wpList _ _ _ ((⟨some 11, Op.slice 31 _ _ _ _, _, _, _, _⟩ : Oper) :: _) _ _
                 go_must (refine wpList_cut rfl 31 (.tmp 9) _ _ rfl 5 _ 1 1 Tryd.underlying31 byte_info B A c n (bs l) rfl h 0 m (.inl ⟨rfl, rfl⟩) (.inr rfl) (by omega) (by omega) ?_))
    intro A' c' hr
    go_wp2
    go_ret
    rw [← bs_take] at hr
    have e : min n m = m := by omega
    refine ⟨A', c', ?_, rfl, ?_⟩
    · rw [Int.toNat_natCast, e]; rfl
    · rw [Int.toNat_natCast, e]; exact hr
  · go_enter Tryd.func15, Tryd.ntmps15
    go_wp2
    go_ret
    have e : min n m = n := by omega
    refine ⟨A, c, ?_, rfl, ?_⟩
    · rw [Int.toNat_natCast, e]; rfl
    · rw [Int.toNat_natCast, e, List.take_of_length_le (by rw [HL.out]; omega)]; exact h

end Go.Proofs.YtfijjdahoimoeaaDoor

