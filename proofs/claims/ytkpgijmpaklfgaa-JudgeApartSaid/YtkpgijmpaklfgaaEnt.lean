/- Entries as cells, by value and in slices; what is known of those that came in. No program is named here. -/
import Derived.Test.YtkpgijmpaklfgaaPlainEnt
import Derived.Test.YtkpgijmpaklfgaaFlat
import Derived.WideShapes
import Derived.ChangeShapes
namespace Go.Proofs.Ytkpgijmpaklfgaa
open Go.RowKit Go.ChangeShapes Go.WideShapes

/-- An entry's cells; an entry by value; a list's cells. -/
def ecs (e : Ent) : List Value := [.int .i64 e.fr, .int .i64 e.boot, .int .i64 e.seq, .int .i64 e.ord, .int .i64 e.lev, .int .i64 e.stamp, .string e.data]
def ev (e : Ent) : Value := .agg #[.int .i64 e.fr, .int .i64 e.boot, .int .i64 e.seq, .int .i64 e.ord, .int .i64 e.lev, .int .i64 e.stamp, .string e.data]
def els : List Ent → List Value
  | [] => []
  | e :: r => ecs e ++ els r
theorem ecs_length (e : Ent) : (ecs e).length = 7 := rfl
theorem els_length (l : List Ent) : (els l).length = l.length * 7 := by
  induction l with
  | nil => rfl
  | cons e r ih => simp only [els, List.length_append, ecs_length, ih, List.length_cons]; omega
theorem els_append (a b : List Ent) : els (a ++ b) = els a ++ els b := by
  induction a with
  | nil => rfl
  | cons x r ih => simp [els, ih]
theorem els_one (l : List Ent) : ∀ u ∈ els l, u.oneCell' = true := by
  induction l with
  | nil => intro u h; simp [els] at h
  | cons e r ih =>
    intro u h
    rcases List.mem_append.1 h with h | h
    · simp only [ecs, List.mem_cons, List.not_mem_nil, or_false] at h
      rcases h with rfl | rfl | rfl | rfl | rfl | rfl | rfl <;> rfl
    · exact ih u h
theorem els_drop (l : List Ent) : ∀ i, (els l).drop (i * 7) = els (l.drop i) := by
  induction l with
  | nil => intro i; simp [els]
  | cons e r ih =>
    intro i
    cases i with
    | zero => simp
    | succ i =>
      have h := ih i
      show (ecs e ++ els r).drop ((i + 1) * 7) = els (r.drop i)
      rw [← h, show (i + 1) * 7 = (ecs e).length + i * 7 by rw [ecs_length]; omega, ← List.drop_drop, List.drop_left]
theorem els_take (l : List Ent) : ∀ i, (els l).take (i * 7) = els (l.take i) := by
  induction l with
  | nil => intro i; simp [els]
  | cons e r ih =>
    intro i
    cases i with
    | zero => simp [els]
    | succ i =>
      have h := ih i
      show (ecs e ++ els r).take ((i + 1) * 7) = ecs e ++ els (r.take i)
      rw [← h, show (i + 1) * 7 = (ecs e).length + i * 7 by rw [ecs_length]; omega, List.take_add, List.take_left, List.drop_left]
theorem els_at {l : List Ent} {i : Nat} {e : Ent} (h : l[i]? = some e) {j : Nat} (hj : j < 7) : (els l)[i * 7 + j]? = (ecs e)[j]? := by
  obtain ⟨hi, he⟩ := List.getElem?_eq_some_iff.1 h
  have h1 := els_drop l i
  have h2 : l.drop i = e :: l.drop (i + 1) := by rw [List.drop_eq_getElem_cons hi, he]
  rw [h2] at h1
  have h3 := congrArg (fun q => q[j]?) h1
  simp only [List.getElem?_drop] at h3
  rw [h3]
  show (ecs e ++ els (l.drop (i + 1)))[j]? = _
  rw [List.getElem?_append_left (by rw [ecs_length]; omega)]

/-- What is known of an entry that came in. -/
structure EntOk (e : Ent) : Prop where
  fit : PEnt.Fit e
  sz : e.data.size ≤ maxLen

section
variable {w w' : World} {B c n : Nat} {A : Option Addr} {l : List Ent}
theorem Rd.elen (h : Rd w B A c 7 n (els l)) : l.length = n := by have := h.len; rw [els_length] at this; omega
/-- The cells of the entry at place i. -/
theorem Rd.ent (h : Rd w B A c 7 n (els l)) {i : Nat} (hi : i < n) : ∃ b o e, A = some ⟨b, o, none⟩ ∧ b < B ∧ l[i]? = some e ∧ e ∈ l ∧
    w.cell? ⟨b, o + i * 7, none⟩ = some (.int .i64 e.fr) ∧ w.cell? ⟨b, o + i * 7 + 1, none⟩ = some (.int .i64 e.boot) ∧ w.cell? ⟨b, o + i * 7 + 2, none⟩ = some (.int .i64 e.seq) ∧ w.cell? ⟨b, o + i * 7 + 3, none⟩ = some (.int .i64 e.ord) ∧
    w.cell? ⟨b, o + i * 7 + 4, none⟩ = some (.int .i64 e.lev) ∧ w.cell? ⟨b, o + i * 7 + 5, none⟩ = some (.int .i64 e.stamp) ∧ w.cell? ⟨b, o + i * 7 + 6, none⟩ = some (.string e.data) := by
  obtain ⟨b, o, hA, hb, hc⟩ := h.flat hi (by omega)
  have hl := h.elen
  have he : l[i]? = some l[i] := List.getElem?_eq_getElem (by omega)
  have g : ∀ j u, j < 7 → (ecs l[i])[j]? = some u → w.cell? ⟨b, o + i * 7 + j, none⟩ = some u := by
    intro j u hj hu
    obtain ⟨v, hv, hcell⟩ := hc j hj
    rw [els_at he hj, hu] at hv
    rw [hcell, hv]
  exact ⟨b, o, l[i], hA, hb, he, List.getElem_mem _, g 0 _ (by omega) rfl, g 1 _ (by omega) rfl, g 2 _ (by omega) rfl, g 3 _ (by omega) rfl, g 4 _ (by omega) rfl, g 5 _ (by omega) rfl, g 6 _ (by omega) rfl⟩
/-- A block that holds an entry. -/
theorem Blk.ent {g : Nat} {t : TypeId} {e : Ent} (h : Blk w g t (ecs e)) :
    w.cell? ⟨g, 0, none⟩ = some (.int .i64 e.fr) ∧ w.cell? ⟨g, 1, none⟩ = some (.int .i64 e.boot) ∧ w.cell? ⟨g, 2, none⟩ = some (.int .i64 e.seq) ∧ w.cell? ⟨g, 3, none⟩ = some (.int .i64 e.ord) ∧
    w.cell? ⟨g, 4, none⟩ = some (.int .i64 e.lev) ∧ w.cell? ⟨g, 5, none⟩ = some (.int .i64 e.stamp) ∧ w.cell? ⟨g, 6, none⟩ = some (.string e.data) :=
  ⟨h.cell (i := 0) rfl, h.cell (i := 1) rfl, h.cell (i := 2) rfl, h.cell (i := 3) rfl, h.cell (i := 4) rfl, h.cell (i := 5) rfl, h.cell (i := 6) rfl⟩
theorem Blk.newEnt (w : World) (t : TypeId) (e : Ent) : Blk (w.alloc (.cells #[.int .i64 e.fr, .int .i64 e.boot, .int .i64 e.seq, .int .i64 e.ord, .int .i64 e.lev, .int .i64 e.stamp, .string e.data] t)) w.heap.size t (ecs e) := Blk.new w _ t
end

/-- What is known of the cell of field j. -/
def FE (j : Nat) (u : Value) : Prop := (j < 6 → ∃ x, u = .int .i64 x ∧ (Lit.int .i64 x).wf = true) ∧ (j = 6 → ∃ s : ByteArray, u = .string s ∧ s.size ≤ maxLen)
theorem ent_of7 {a0 a1 a2 a3 a4 a5 a6 : Value} (h0 : FE 0 a0) (h1 : FE 1 a1) (h2 : FE 2 a2) (h3 : FE 3 a3) (h4 : FE 4 a4) (h5 : FE 5 a5) (h6 : FE 6 a6) : ∃ e, [a0, a1, a2, a3, a4, a5, a6] = ecs e ∧ EntOk e := by
  obtain ⟨x0, rfl, w0⟩ := h0.1 (by omega)
  obtain ⟨x1, rfl, w1⟩ := h1.1 (by omega)
  obtain ⟨x2, rfl, w2⟩ := h2.1 (by omega)
  obtain ⟨x3, rfl, w3⟩ := h3.1 (by omega)
  obtain ⟨x4, rfl, w4⟩ := h4.1 (by omega)
  obtain ⟨x5, rfl, w5⟩ := h5.1 (by omega)
  obtain ⟨s, rfl, hs⟩ := h6.2 rfl
  exact ⟨⟨x0, x1, x2, x3, x4, x5, s⟩, rfl, ⟨bounds_i64 w0, bounds_i64 w1, bounds_i64 w2, bounds_i64 w3, bounds_i64 w4, bounds_i64 w5⟩, hs⟩
theorem ents_of : ∀ (n : Nat) (xs : List Value), xs.length = n * 7 → (∀ (i j : Nat) (u : Value), j < 7 → xs[i * 7 + j]? = some u → FE j u) → ∃ l, xs = els l ∧ ∀ e ∈ l, EntOk e
  | 0, xs, h, _ => ⟨[], List.eq_nil_of_length_eq_zero (by omega), by simp⟩
  | n + 1, xs, h, hF => by
    match xs, h with
    | a0 :: a1 :: a2 :: a3 :: a4 :: a5 :: a6 :: r, h =>
      obtain ⟨l, hl, ho⟩ := ents_of n r (by simp only [List.length_cons] at h; omega) (fun i j u hj hu => hF (i + 1) j u hj (by
        rw [show (i + 1) * 7 + j = i * 7 + j + 7 by omega]; exact hu))
      obtain ⟨e, he, hok⟩ := ent_of7 (hF 0 0 a0 (by omega) rfl) (hF 0 1 a1 (by omega) rfl) (hF 0 2 a2 (by omega) rfl) (hF 0 3 a3 (by omega) rfl) (hF 0 4 a4 (by omega) rfl) (hF 0 5 a5 (by omega) rfl) (hF 0 6 a6 (by omega) rfl)
      refine ⟨e :: l, ?_, ?_⟩
      · show _ = ecs e ++ els l
        rw [← he, ← hl]; rfl
      · intro x hx
        rcases List.mem_cons.1 hx with rfl | hx
        · exact hok
        · exact ho x hx
    | [], h => simp at h
    | [_], h => simp only [List.length_cons, List.length_nil] at h; omega
    | [_, _], h => simp only [List.length_cons, List.length_nil] at h; omega
    | [_, _, _], h => simp only [List.length_cons, List.length_nil] at h; omega
    | [_, _, _, _], h => simp only [List.length_cons, List.length_nil] at h; omega
    | [_, _, _, _, _], h => simp only [List.length_cons, List.length_nil] at h; omega
    | [_, _, _, _, _, _], h => simp only [List.length_cons, List.length_nil] at h; omega

section
variable {H : Type} {enc : TypeId × Value → H} {P : Program} {w : World} {base : Nat} {spare : Nat → Bool} {held : Bool}
/-- How an entry's fields lie. -/
def EntT (P : Program) (fs : Array Field) : Prop := fs.size = 7 ∧ ∀ (j : Nat) (f : Field), fs[j]? = some f → P.cellsOf f.type = 1 ∧ f.offset = j ∧ (j < 6 → P.underlying f.type = some (.int .i64)) ∧ (j = 6 → P.underlying f.type = some .string)
theorem EntT.field {fs : Array Field} (hT : EntT P fs) {j : Nat} {f : Field} (hj : fs[j]? = some f) {fuel : Nat} {cs : List Value} {x : DataW H × List MemPlace} (h : DataW.trod enc P w base spare held fuel f.type cs = some x) : ∃ u, cs = [u] ∧ FE j u := by
  obtain ⟨_, _, h2, h3⟩ := hT.2 j f hj
  have hj7 : j < 7 := by have := (Array.getElem?_eq_some_iff.1 hj).1; rw [hT.1] at this; exact this
  by_cases h6 : j = 6
  · obtain ⟨s, hs, _, hm⟩ := DataW.trod_string (h3 h6) h
    exact ⟨_, hs, fun h' => by omega, fun _ => ⟨s, rfl, hm⟩⟩
  · obtain ⟨n, hn, _, hw⟩ := DataW.trod_int (h2 (by omega)) h
    exact ⟨_, hn, fun _ => ⟨n, rfl, hw⟩, fun h' => absurd h' h6⟩
/-- A slice of entries that came in. -/
theorem open_ents {t e : TypeId} {fs : Array Field} {fuel : Nat} {cs : List Value} {x : DataW H × List MemPlace} (ht : P.underlying t = some (.slice e)) (he : P.underlying e = some (.struct fs)) (hC : P.cellsOf e = 7) (hT : EntT P fs)
    (h : DataW.trod enc P w base spare held fuel t cs = some x) : ∃ (A : Option Addr) (n c : Nat) (l : List Ent), cs = [.slice A n c] ∧ Rd w w.heap.size A c 7 n (els l) ∧ ∀ e ∈ l, EntOk e := by
  obtain ⟨A, n, c, xs, e1, e2, e3⟩ := open_flat (F := FE) ht he hC hT.1 (by omega) (fun j f hf => ⟨(hT.2 j f hf).1, (hT.2 j f hf).2.1, fun fuel cs x hx => hT.field hf hx⟩) h
  obtain ⟨l, rfl, hl⟩ := ents_of n xs e2.len e3
  exact ⟨A, n, c, l, e1, e2, hl⟩
/-- An entry by value that came in. -/
theorem open_ent {r : Reach} {b0 : Nat} {t : TypeId} {fs : Array Field} {v : Value} {d : DataW H} {ps : List MemPlace} (ht : P.underlying t = some (.struct fs)) (hC : P.cellsOf t = 7) (hT : EntT P fs)
    (hval : Value.okWide P w r b0 t v) (hd : DataW.Trod enc P w base spare held t v d ps) : ∃ e, v = ev e ∧ EntOk e := by
  obtain ⟨cs, rfl, hsz⟩ := okWide_struct ht hval
  obtain ⟨fuel, hf⟩ := hd
  obtain ⟨xs, n, rfl, hx, hl, hxl, hfs⟩ := DataW.trod_struct ht hf
  have hl7 : cs.toList.length = 1 * 7 := by rw [hC] at hl; exact hl
  obtain ⟨l, hc, ho⟩ := ents_of 1 cs.toList hl7 (fun i j u hj hu => by
    have hlt := (List.getElem?_eq_some_iff.1 hu).1
    have hi : i = 0 := by omega
    subst hi
    rw [Nat.zero_mul, Nat.zero_add] at hu hlt
    have hjf : j < fs.size := by rw [hT.1]; exact hj
    have hy := hfs j fs[j] (Array.getElem?_eq_getElem hjf)
    rw [List.getElem?_eq_getElem (show j < xs.length by omega)] at hy
    obtain ⟨v, hv, hFv⟩ := hT.field (Array.getElem?_eq_getElem hjf) hy
    obtain ⟨h1, h2, _⟩ := hT.2 j fs[j] (Array.getElem?_eq_getElem hjf)
    rw [h1, h2] at hv
    have h3 := congrArg (fun q => q[0]?) hv
    simp only [List.getElem?_take, List.getElem?_drop] at h3
    simp only [Nat.lt_succ_self, if_true, Nat.add_zero, List.getElem?_cons_zero] at h3
    have : some u = some v := hu.symm.trans h3
    exact Option.some.inj this ▸ hFv)
  match l, hc, ho with
  | [e], hc, ho =>
    refine ⟨e, ?_, ho e (List.mem_singleton.2 rfl)⟩
    rw [ev, ← Array.toArray_toList (xs := cs), hc]; rfl
  | [], hc, _ => rw [hc] at hl7; simp [els] at hl7
  | a :: b :: r, hc, _ => rw [hc, els_length] at hl7; simp only [List.length_cons] at hl7; omega
end
end Go.Proofs.Ytkpgijmpaklfgaa
