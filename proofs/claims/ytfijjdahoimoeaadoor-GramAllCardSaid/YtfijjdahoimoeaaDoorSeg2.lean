/- Plain mathematics of how long a message took. No program is named here. -/
import Derived.Test.YtfijjdahoimoeaaDoorSeg1
import Derived.Laws.Rows
import Derived.Laws.Tables
import Derived.Deep.MidRow
import Derived.Deep.Slices
import Derived.Deep.Fields
import Derived.ChangeSame
import Derived.WideShapes
import Derived.ChangeShapes
import Derived.Test.YtfijjdahoimoeaaDoorRows
import Derived.Laws.StructEq
namespace Go.Proofs.YtfijjdahoimoeaaDoor.PDelay
open PSpan (sub add up dn ans)

/-- What went by from x to y, and that there is such a time, not below 0. -/
def went (x y : Int) : Int × Bool := ((sub y x).1, (sub y x).2 && decide (0 ≤ (sub y x).1))
def Rate (p : Int) : Prop := 0 ≤ p ∧ p ≤ 500000
instance (p : Int) : Decidable (Rate p) := by unfold Rate; infer_instance
def raw (a k p : Int) : Int := max 0 (up a 1000000 (1000000 - p) - dn k 1000000 (1000000 + p))
def bound (s h b c p : Int) : Int × Bool :=
  if (went s c).2 = true ∧ (went h b).2 = true ∧ Rate p then add (raw (went s c).1 (went h b).1 p) 0 else (0, false)
def fast (s h b c p m : Int) : Bool := (bound s h b c p).2 && decide ((bound s h b c p).1 ≤ m)

theorem went_yes {x y : Int} (h : (went x y).2 = true) : went x y = (y - x, true) ∧ 0 ≤ y - x ∧ y - x ≤ 1099511627776 ∧ (-1099511627776 ≤ x ∧ x ≤ 1099511627776) ∧ (-1099511627776 ≤ y ∧ y ≤ 1099511627776) := by
  unfold went at h ⊢
  unfold sub at h ⊢
  by_cases hb : (-1099511627776 ≤ y ∧ y ≤ 1099511627776) ∧ (-1099511627776 ≤ x ∧ x ≤ 1099511627776)
  · rw [if_pos hb] at h ⊢
    unfold ans at h ⊢
    by_cases ht : -1099511627776 ≤ y - x ∧ y - x ≤ 1099511627776
    · rw [if_pos ht] at h ⊢
      simp only [Bool.true_and, decide_eq_true_eq] at h
      exact ⟨by show (y - x, (true && decide (0 ≤ y - x))) = _; rw [decide_eq_true h]; rfl, h, ht.2, hb.2, hb.1⟩
    · rw [if_neg ht] at h; simp at h
  · rw [if_neg hb] at h; simp at h
theorem went_of {x y : Int} (h1 : -1099511627776 ≤ x) (h2 : x ≤ 1099511627776) (h3 : -1099511627776 ≤ y) (h4 : y ≤ 1099511627776) (h5 : 0 ≤ y - x) (h6 : y - x ≤ 1099511627776) : went x y = (y - x, true) := by
  unfold went sub
  rw [if_pos ⟨⟨h3, h4⟩, h1, h2⟩, PSpan.ans_in (by omega) h6]
  show (y - x, (true && decide (0 ≤ y - x))) = _
  rw [decide_eq_true h5]; rfl

theorem up_big {a p : Int} (h1 : 0 ≤ a) (h2 : a ≤ 1099511627776) (hp : Rate p) : a ≤ up a 1000000 (1000000 - p) ∧ up a 1000000 (1000000 - p) ≤ 2 * a := by
  obtain ⟨p1, p2⟩ := hp
  have m := Int.mul_nonneg h1 p1
  have m2 : a * p ≤ a * 500000 := Int.mul_le_mul_of_nonneg_left p2 h1
  constructor
  · have := PSpan.le_up (a := a) (p := 1000000) (q := 1000000 - p) (by omega)
    refine Int.le_of_mul_le_mul_right (a := 1000000 - p) ?_ (by omega)
    rw [Int.mul_sub a]
    omega
  · refine PSpan.up_le (by omega) ?_
    rw [Int.mul_sub, show 2 * a * p = 2 * (a * p) from Int.mul_assoc ..]
    omega
theorem dn_big {a p : Int} (h1 : 0 ≤ a) (hp : Rate p) : 0 ≤ dn a 1000000 (1000000 + p) ∧ dn a 1000000 (1000000 + p) ≤ a := by
  obtain ⟨p1, p2⟩ := hp
  have m := Int.mul_nonneg h1 p1
  constructor
  · exact PSpan.le_dn (by omega) (by omega)
  · have := PSpan.dn_le (a := a) (p := 1000000) (q := 1000000 + p) (by omega)
    refine Int.le_of_mul_le_mul_right (a := 1000000 + p) ?_ (by omega)
    rw [Int.mul_add a]
    omega

theorem add_zero {a : Int} (h1 : 0 ≤ a) (h2 : a ≤ 1099511627776) : add a 0 = (a, true) := by
  unfold add
  rw [if_pos (by omega), show a + 0 = a by omega, PSpan.ans_in (by omega) h2]
theorem add_some {a : Int} (h : (add a 0).2 = true) : add a 0 = (a, true) ∧ a ≤ 1099511627776 := by
  unfold add at h ⊢
  by_cases hb : (-1099511627776 ≤ a ∧ a ≤ 1099511627776) ∧ (-1099511627776 ≤ (0 : Int) ∧ (0 : Int) ≤ 1099511627776)
  · rw [if_pos hb, show a + 0 = a by omega, PSpan.ans_in (by omega) (by omega)]
    exact ⟨rfl, hb.1.2⟩
  · rw [if_neg hb] at h; simp at h
theorem raw_nonneg (a k p : Int) : 0 ≤ raw a k p := by unfold raw; omega

/-- Where the times are there and not far apart, so is the bound. -/
theorem bound_in {s h b c p : Int} (hw : went s c = (c - s, true)) (hk : went h b = (b - h, true)) (hp : Rate p) (ha : c - s ≤ 549755813888) : bound s h b c p = (raw (c - s) (b - h) p, true) := by
  have y1 := went_yes (x := s) (y := c) (by rw [hw])
  have y2 := went_yes (x := h) (y := b) (by rw [hk])
  obtain ⟨u1, u2⟩ := up_big y1.2.1 y1.2.2.1 hp
  obtain ⟨d1, d2⟩ := dn_big y2.2.1 hp
  unfold bound
  rw [hw, hk, if_pos ⟨rfl, rfl, hp⟩]
  exact add_zero (raw_nonneg _ _ _) (by simp only [raw]; omega)
theorem bound_some {s h b c p : Int} (hb : (bound s h b c p).2 = true) : went s c = (c - s, true) ∧ went h b = (b - h, true) ∧ Rate p ∧ bound s h b c p = (raw (c - s) (b - h) p, true) := by
  unfold bound at hb ⊢
  by_cases hc : (went s c).2 = true ∧ (went h b).2 = true ∧ Rate p
  · have y1 := went_yes hc.1
    have y2 := went_yes hc.2.1
    rw [if_pos hc] at hb ⊢
    rw [y1.1, y2.1] at hb ⊢
    exact ⟨rfl, rfl, hc.2.2, (add_some hb).1⟩
  · rw [if_neg hc] at hb; simp at hb
theorem bound_none {s h b c p : Int} (hb : (bound s h b c p).2 = false) : bound s h b c p = (0, false) := by
  unfold bound at hb ⊢
  by_cases hc : (went s c).2 = true ∧ (went h b).2 = true ∧ Rate p
  · rw [if_pos hc] at hb ⊢
    unfold add at hb ⊢
    split
    · rename_i h'
      rw [if_pos h'] at hb
      unfold ans at hb ⊢
      split
      · rename_i h''; rw [if_pos h''] at hb; simp at hb
      · rfl
    · rfl
  · rw [if_neg hc]

theorem up_le_up {a a' p p' : Int} (ha : 0 ≤ a) (h : a ≤ a') (hpp : p ≤ p') (h5 : p' ≤ 500000) : up a 1000000 (1000000 - p) ≤ up a' 1000000 (1000000 - p') :=
  PSpan.up_mono (by omega) (by omega) (by
    rw [Int.mul_assoc, Int.mul_assoc]
    exact Int.le_trans (Int.mul_le_mul_of_nonneg_right h (by omega)) (Int.mul_le_mul_of_nonneg_left (by omega) (by omega)))
theorem dn_le_dn {a p p' : Int} (ha : 0 ≤ a) (hp : 0 ≤ p) (hpp : p ≤ p') : dn a 1000000 (1000000 + p') ≤ dn a 1000000 (1000000 + p) :=
  PSpan.dn_mono (by omega) (by omega) (by
    rw [Int.mul_assoc, Int.mul_assoc]
    exact Int.mul_le_mul_of_nonneg_left (by omega) ha)
theorem raw_mono {a a' k p p' : Int} (ha : 0 ≤ a) (h : a ≤ a') (hk : 0 ≤ k) (hp : 0 ≤ p) (hpp : p ≤ p') (h5 : p' ≤ 500000) : raw a k p ≤ raw a' k p' := by
  have := up_le_up ha h hpp h5
  have := dn_le_dn hk hp hpp
  unfold raw; omega
theorem raw_zero (a k : Int) : raw a k 0 = max 0 (a - k) := by
  unfold raw up dn; omega

theorem raw_small {a k p : Int} (ha : 0 ≤ a) (h : a ≤ 1099511627776) (hk : 0 ≤ k) (hp : Rate p) : raw a k p ≤ 2 * a := by
  have := up_big ha h hp
  have := dn_big hk hp
  unfold raw; omega
/-- A longer way. -/
theorem more_yes {s h k c m p : Int} (hb : (bound s h k c p).2 = true) (hm : 0 ≤ m) (hm2 : m ≤ 1073741824) (hs : 0 ≤ s) (hc : c ≤ 1073741824) : ∃ x y, bound s h k c p = (x, true) ∧ bound s h k (c + m) p = (y, true) ∧ x ≤ y := by
  obtain ⟨w1, w2, hp, e⟩ := bound_some hb
  have y1 := went_yes (x := s) (y := c) (by rw [w1])
  have y2 := went_yes (x := h) (y := k) (by rw [w2])
  refine ⟨_, _, e, bound_in (went_of (by omega) (by omega) (by omega) (by omega) (by omega) (by omega)) w2 hp (by omega), ?_⟩
  exact raw_mono y1.2.1 (by omega) y2.2.1 hp.1 (Int.le_refl _) hp.2
/-- Clocks that may drift more. -/
theorem drift_yes {s h k c p q : Int} (hb : (bound s h k c p).2 = true) (hs : 0 ≤ s) (hc : c ≤ 1073741824) (hpq : p ≤ q) (hq : q ≤ 500000) :
    ∃ x y, bound s h k c p = (x, true) ∧ bound s h k c q = (y, true) ∧ x ≤ y ∧ 0 ≤ x ∧ y ≤ 2147483648 ∧ fast s h k c q (x - 1) = false := by
  obtain ⟨w1, w2, hp, e⟩ := bound_some hb
  have y1 := went_yes (x := s) (y := c) (by rw [w1])
  have y2 := went_yes (x := h) (y := k) (by rw [w2])
  have hq' : Rate q := ⟨by have := hp.1; omega, hq⟩
  have e2 := bound_in w1 w2 hq' (by omega)
  have hm := raw_mono y1.2.1 (Int.le_refl _) y2.2.1 hp.1 hpq hq
  refine ⟨_, _, e, e2, hm, raw_nonneg _ _ _, ?_, ?_⟩
  · have := raw_small y1.2.1 y1.2.2.1 y2.2.1 hq'
    omega
  · unfold fast
    rw [e2]
    show (true && decide (_ ≤ _)) = false
    rw [decide_eq_false (by omega)]; rfl
theorem drift_no {s h k c p q : Int} (hb : (bound s h k c p).2 = false) (hs : 0 ≤ s) (hc : c ≤ 1073741824) (hp : Rate p) : bound s h k c p = (0, false) ∧ bound s h k c q = (0, false) := by
  refine ⟨bound_none hb, if_neg fun hh => ?_⟩
  have y1 := went_yes hh.1
  have y2 := went_yes hh.2.1
  rw [bound_in y1.1 y2.1 hp (by omega)] at hb
  simp at hb

/-- The clocks that go within their bound: what the first shows of a real time n, and the second of m. -/
theorem first_bound {n p : Int} (hn : 0 ≤ n) (hp : Rate p) (f : Bool) : n ≤ up (if f then dn n (1000000 + p) 1000000 else up n (1000000 - p) 1000000) 1000000 (1000000 - p) := by
  obtain ⟨p1, p2⟩ := hp
  have m := Int.mul_nonneg hn p1
  cases f
  · have h1 := PSpan.le_up (a := n) (p := 1000000 - p) (q := 1000000) (by omega)
    have h2 := PSpan.le_up (a := up n (1000000 - p) 1000000) (p := 1000000) (q := 1000000 - p) (by omega)
    exact Int.le_of_mul_le_mul_right (a := 1000000 - p) (Int.le_trans h1 h2) (by omega)
  · have h1 : n ≤ dn n (1000000 + p) 1000000 := PSpan.le_dn (by omega) (by rw [Int.mul_add]; omega)
    have h3 := PSpan.le_up (a := dn n (1000000 + p) 1000000) (p := 1000000) (q := 1000000 - p) (by omega)
    refine Int.le_of_mul_le_mul_right (a := 1000000 - p) ?_ (by omega)
    have : n * (1000000 - p) ≤ dn n (1000000 + p) 1000000 * 1000000 := by
      rw [Int.mul_sub]; omega
    exact Int.le_trans this h3
theorem second_bound {m p : Int} (hm : 0 ≤ m) (hp : Rate p) (f : Bool) : dn (if f then up m (1000000 - p) 1000000 else dn m (1000000 + p) 1000000) 1000000 (1000000 + p) ≤ m := by
  obtain ⟨p1, p2⟩ := hp
  have q := Int.mul_nonneg hm p1
  cases f
  · have h1 := PSpan.dn_le (a := m) (p := 1000000 + p) (q := 1000000) (by omega)
    have h2 := PSpan.dn_le (a := dn m (1000000 + p) 1000000) (p := 1000000) (q := 1000000 + p) (by omega)
    exact Int.le_of_mul_le_mul_right (a := 1000000 + p) (Int.le_trans h2 h1) (by omega)
  · have h1 : up m (1000000 - p) 1000000 ≤ m := PSpan.up_le (by omega) (by rw [Int.mul_sub]; omega)
    have h3 := PSpan.dn_le (a := up m (1000000 - p) 1000000) (p := 1000000) (q := 1000000 + p) (by omega)
    refine Int.le_of_mul_le_mul_right (a := 1000000 + p) ?_ (by omega)
    have : up m (1000000 - p) 1000000 * 1000000 ≤ m * (1000000 + p) := by
      rw [Int.mul_add]; omega
    exact Int.le_trans h3 this
/-- The parts of a clock's showing. -/
theorem show_in {n p : Int} (hn : 0 ≤ n) (hp : Rate p) (f : Bool) : 0 ≤ (if f then dn n (1000000 + p) 1000000 else up n (1000000 - p) 1000000) ∧ (if f then dn n (1000000 + p) 1000000 else up n (1000000 - p) 1000000) ≤ 2 * n := by
  obtain ⟨p1, p2⟩ := hp
  have q := Int.mul_nonneg hn p1
  have q2 : n * p ≤ n * 500000 := Int.mul_le_mul_of_nonneg_left p2 hn
  cases f
  · constructor
    · have h1 := PSpan.le_up (a := n) (p := 1000000 - p) (q := 1000000) (by omega)
      refine Int.le_of_mul_le_mul_right (a := 1000000) ?_ (by omega)
      rw [Int.mul_sub] at h1
      show 0 * 1000000 ≤ up n (1000000 - p) 1000000 * 1000000
      omega
    · exact PSpan.up_le (by omega) (by rw [Int.mul_sub]; omega)
  · constructor
    · exact PSpan.le_dn (by omega) (by rw [Int.mul_add]; omega)
    · have h1 := PSpan.dn_le (a := n) (p := 1000000 + p) (q := 1000000) (by omega)
      refine Int.le_of_mul_le_mul_right (a := 1000000) ?_ (by omega)
      rw [Int.mul_add] at h1
      show dn n (1000000 + p) 1000000 * 1000000 ≤ 2 * n * 1000000
      omega
end Go.Proofs.YtfijjdahoimoeaaDoor.PDelay

/- A block of the call's own cells (a local struct or array whose address is taken). No program is named here. -/
namespace Go.Proofs.YtfijjdahoimoeaaDoor
open Go.RowKit

/-- Block g holds the cells xs, none of them shared with a string. -/
def Blk (w : World) (g : Nat) (e : TypeId) (xs : List Value) : Prop := w.heap[g]? = some (.cells xs.toArray e (0, 0))

section
variable {w w' : World} {g : Nat} {e : TypeId} {xs : List Value}
theorem Blk.lt (h : Blk w g e xs) : g < w.heap.size := (Array.getElem?_eq_some_iff.1 h).1
theorem Blk.cell (h : Blk w g e xs) {i : Nat} {u : Value} (hu : xs[i]? = some u) : w.cell? ⟨g, i, none⟩ = some u := by
  rw [cell_of_row _ _ i xs.toArray e (0, 0) h]; simpa using hu
theorem Blk.free (h : Blk w g e xs) (i : Nat) : w.frozen? ⟨g, i, none⟩ = false := frozen_of_row w g i _ e h
theorem Blk.set (h : Blk w g e xs) (i : Nat) (u : Value) : Blk (w.setCell ⟨g, i, none⟩ u) g e (xs.set i u) := by
  have := heap_setCell_same w g i _ e u h
  simpa [Blk] using this
theorem Blk.new (w : World) (a : Array Value) (e : TypeId) : Blk (w.alloc (.cells a e)) w.heap.size e a.toList := by
  simpa [Blk] using heap_alloc_new w (.cells a e)
theorem Blk.below {B : Nat} (h : Blk w g e xs) (hb : Below B w w') (hg : g < B) : Blk w' g e xs := (hb.block g hg).trans h
theorem Blk.past (h : Blk w g e xs) (hb : Below w.heap.size w w') : Blk w' g e xs := h.below hb h.lt
theorem Blk.drew (h : Blk w g e xs) : Blk w.drew g e xs := h
theorem Blk.alloc (h : Blk w g e xs) (o : Obj) : Blk (w.alloc o) g e xs := h.past ((Below.refl _ _).alloc (Nat.le_refl _) _)
/-- Behind a call that wrote another block. -/
theorem Blk.far {k : Nat} (h : Blk w g e xs) (hb : w.grownBy w' (some k)) (hk : g ≠ k) : Blk w' g e xs := (hb.block g h.lt (by simpa using hk)).trans h
theorem grown_set (w : World) (g i : Nat) (v : Value) : w.grownBy (w.setCell ⟨g, i, none⟩ v) (some g) :=
  ⟨rfl, rfl, rfl, by simp [World.setCell], fun k _ hk => Below.heap_setCell _ _ _ _ (by simpa using hk)⟩
/-- Behind the store of a whole value. -/
theorem Blk.row (h : Blk w g e xs) (cs : Array Value) : Blk (w.setRow g cs) g e cs.toList := by
  have := setRow_heap w g xs.toArray cs e (0, 0) h
  simpa [Blk] using this
theorem grown_row (w : World) (g : Nat) (cs : Array Value) : w.grownBy (w.setRow g cs) (some g) :=
  ⟨rfl, rfl, rfl, by simp, fun k _ hk => setRow_other w g k cs (by simpa using hk)⟩
theorem grown_below {B : Nat} (hg : w.grownBy w' (some g)) (hB : B ≤ g) (hs : B ≤ w.heap.size) : Below B w w' := (Below.refl B w).grown hg hs (fun k hk => by cases hk; exact hB)
theorem grown_of_below (hb : Below w.heap.size w w') (row : Option Nat) : w.grownBy w' row := ⟨hb.os, hb.tape, hb.output, hb.size, fun k hk _ => hb.block k hk⟩
end
end Go.Proofs.YtfijjdahoimoeaaDoor

/- A slice of structs of one-cell fields (ints, bools, strings) that came in, as cells. No program is named here. -/
namespace Go.Proofs.YtfijjdahoimoeaaDoor
open Go.RowKit Go.ChangeShapes Go.WideShapes Go.Deep

/-- Each cell is an int64. -/
def AllI (xs : List Value) : Prop := ∀ (q : Nat) (u : Value), xs[q]? = some u → ∃ x, u = .int .i64 x ∧ (Lit.int .i64 x).wf = true

section
variable {H : Type} {enc : TypeId × Value → H} {P : Program} {w : World} {base : Nat} {spare : Nat → Bool} {held : Bool}
/-- F j u: what is known of the cell of field j. -/
theorem open_flat {t e : TypeId} {fs : Array Field} {m : Nat} {fuel : Nat} {cs : List Value} {x : DataW H × List MemPlace} (F : Nat → Value → Prop)
    (ht : P.underlying t = some (.slice e)) (he : P.underlying e = some (.struct fs)) (hC : P.cellsOf e = m) (hm : fs.size = m) (hm0 : 0 < m)
    (hF : ∀ (j : Nat) (f : Field), fs[j]? = some f → P.cellsOf f.type = 1 ∧ f.offset = j ∧ ∀ (fuel : Nat) (cs : List Value) (x : DataW H × List MemPlace), DataW.trod enc P w base spare held fuel f.type cs = some x → ∃ u, cs = [u] ∧ F j u)
    (h : DataW.trod enc P w base spare held fuel t cs = some x) :
    ∃ (A : Option Addr) (n c : Nat) (xs : List Value), cs = [.slice A n c] ∧ Rd w w.heap.size A c m n xs ∧ ∀ (i j : Nat) (u : Value), j < m → xs[i * m + j]? = some u → F j u := by
  rcases open_slice ht h with ⟨rfl, _⟩ | ⟨a, len, cap, k, q, D, Pl, hcs, hb, hl, hc, hk, hx, hi⟩
  · exact ⟨none, 0, 0, [], rfl, Rd.nil _ _ _, fun i j u _ hu => by simp at hu⟩
  · have hle : len ≤ k := by rw [hk]; split <;> omega
    have each : ∀ i j, i < len → j < m → ∃ u, w.cell? ((a.add (i * m)).add j) = some u ∧ F j u := by
      intro i j hil hj
      obtain ⟨cs', hc', ht'⟩ := hi i (by omega)
      rw [hC] at hc'
      obtain ⟨_, hcl, hat⟩ := World.cells?_some hc'
      obtain ⟨ys, n', _, _, _, hyl, hf⟩ := DataW.trod_struct he ht'
      have hj' : j < fs.size := by omega
      obtain ⟨h1, h2, h3⟩ := hF j fs[j] (Array.getElem?_eq_getElem hj')
      have hy := hf j fs[j] (Array.getElem?_eq_getElem hj')
      rw [List.getElem?_eq_getElem (show j < ys.length by omega)] at hy
      obtain ⟨u, hu, hFu⟩ := h3 _ _ _ hy
      rw [h1, h2] at hu
      refine ⟨u, (hat j hj).trans ?_, hFu⟩
      have := congrArg (fun l => l[0]?) hu
      simpa [List.getElem?_take, List.getElem?_drop] using this
    by_cases hp : 0 < len
    · obtain ⟨u0, e0, _⟩ := each 0 0 hp hm0
      obtain ⟨b, o, spot⟩ := a
      have hs : spot = none := by simpa [Addr.add] using World.cell?_spot e0
      subst hs
      have cel : ∀ i j, i < len → j < m → ∃ u, w.cell? ⟨b, o + (i * m + j), none⟩ = some u ∧ F j u := by
        intro i j hil hj
        obtain ⟨u, hu, hFu⟩ := each i j hil hj
        rw [add_zero_spot, add_zero_spot, Nat.add_assoc] at hu
        exact ⟨u, hu, hFu⟩
      refine ⟨some ⟨b, o, none⟩, len, cap, (List.range (len * m)).map (fun q => (w.cell? ⟨b, o + q, none⟩).getD undef), hcs, ⟨by simp, hl, hc, (fun hh => by cases hh), fun _ => ⟨b, o, rfl, ?_, fun j u hu => ?_⟩⟩, fun i j u hj hu => ?_⟩
      · rw [add_zero_spot, add_zero_spot] at e0
        exact World.block_lt_of_cell? w _ e0
      · rw [List.getElem?_map] at hu
        by_cases hj : j < len * m
        · rw [List.getElem?_range hj] at hu
          have d1 : j / m < len := Nat.div_lt_of_lt_mul (by rw [Nat.mul_comm]; exact hj)
          have d2 : j % m < m := Nat.mod_lt _ hm0
          obtain ⟨v, hv, _⟩ := cel (j / m) (j % m) d1 d2
          rw [show j / m * m + j % m = j by rw [Nat.mul_comm]; exact Nat.div_add_mod j m] at hv
          simp [hv] at hu
          rw [hv, hu]
        · rw [List.getElem?_eq_none (by simpa using hj)] at hu
          cases hu
      · rw [List.getElem?_map] at hu
        by_cases hq : i * m + j < len * m
        · rw [List.getElem?_range hq] at hu
          have d1 : i < len := by
            rcases Nat.lt_or_ge i len with h | h
            · exact h
            · have := Nat.mul_le_mul_right m h; omega
          obtain ⟨v, hv, hFv⟩ := cel i j d1 hj
          simp [hv] at hu
          rw [← hu]; exact hFv
        · rw [List.getElem?_eq_none (by simpa using hq)] at hu
          cases hu
    · have : len = 0 := by omega
      subst this
      exact ⟨some a, 0, cap, [], hcs, ⟨by simp, hl, hc, (fun hh => by cases hh), fun h => by omega⟩, fun i j u _ hu => by simp at hu⟩

/-- Structs of int64s. -/
theorem open_flatI {t e : TypeId} {fs : Array Field} {m : Nat} {fuel : Nat} {cs : List Value} {x : DataW H × List MemPlace}
    (ht : P.underlying t = some (.slice e)) (he : P.underlying e = some (.struct fs)) (hC : P.cellsOf e = m) (hm : fs.size = m) (hm0 : 0 < m)
    (hF : ∀ (j : Nat) (f : Field), fs[j]? = some f → P.underlying f.type = some (.int .i64) ∧ P.cellsOf f.type = 1 ∧ f.offset = j)
    (h : DataW.trod enc P w base spare held fuel t cs = some x) :
    ∃ (A : Option Addr) (n c : Nat) (xs : List Value), cs = [.slice A n c] ∧ Rd w w.heap.size A c m n xs ∧ AllI xs := by
  obtain ⟨A, n, c, xs, e1, e2, e3⟩ := open_flat (F := fun _ u => ∃ x, u = .int .i64 x ∧ (Lit.int .i64 x).wf = true) ht he hC hm hm0 (fun j f hf => by
    obtain ⟨h1, h2, h3⟩ := hF j f hf
    refine ⟨h2, h3, fun fuel cs x hx => ?_⟩
    obtain ⟨n, hn, _, hw⟩ := DataW.trod_int h1 hx
    exact ⟨_, hn, n, rfl, hw⟩) h
  refine ⟨A, n, c, xs, e1, e2, fun q u hq => e3 (q / m) (q % m) u (Nat.mod_lt _ hm0) ?_⟩
  rw [show q / m * m + q % m = q by rw [Nat.mul_comm]; exact Nat.div_add_mod q m]
  exact hq
end

section
variable {w : World} {B c m n : Nat} {A : Option Addr} {xs : List Value}
/-- The cells of the struct at place i. -/
theorem Rd.flat (h : Rd w B A c m n xs) {i : Nat} (hi : i < n) (hm : 0 < m) : ∃ b o, A = some ⟨b, o, none⟩ ∧ b < B ∧ ∀ j, j < m → ∃ u, xs[i * m + j]? = some u ∧ w.cell? ⟨b, o + i * m + j, none⟩ = some u := by
  have hlt : i * m + m ≤ n * m := by rw [← Nat.succ_mul]; exact Nat.mul_le_mul_right m hi
  obtain ⟨b, o, hA, hb, hc⟩ := h.2.2.2.2 (by omega)
  refine ⟨b, o, hA, hb, fun j hj => ?_⟩
  have hl : i * m + j < xs.length := by rw [h.len]; omega
  exact ⟨_, List.getElem?_eq_getElem hl, by rw [Nat.add_assoc]; exact hc _ _ (List.getElem?_eq_getElem hl)⟩
theorem Rd.flatI (h : Rd w B A c m n xs) (hI : AllI xs) {i : Nat} (hi : i < n) (hm : 0 < m) : ∃ b o, A = some ⟨b, o, none⟩ ∧ b < B ∧ ∀ j, j < m → ∃ x, w.cell? ⟨b, o + i * m + j, none⟩ = some (.int .i64 x) := by
  obtain ⟨b, o, hA, hb, hc⟩ := h.flat hi hm
  refine ⟨b, o, hA, hb, fun j hj => ?_⟩
  obtain ⟨u, hu, hcell⟩ := hc j hj
  obtain ⟨x, rfl, _⟩ := hI _ _ hu
  exact ⟨x, hcell⟩
end
end Go.Proofs.YtfijjdahoimoeaaDoor

/- Entries as cells, by value and in slices; what is known of those that came in. No program is named here. -/
namespace Go.Proofs.YtfijjdahoimoeaaDoor
open Go.RowKit Go.ChangeShapes Go.WideShapes

/-- An entry's cells; an entry by value; a list's cells. -/
def ecs (e : Ent) : List Value := [.int .i64 e.fr, .int .i64 e.boot, .int .i64 e.seq, .int .i64 e.ord, .int .i64 e.lev, .int .i64 e.stamp, .string e.data]
def ev (e : Ent) : Value := .agg #[.int .i64 e.fr, .int .i64 e.boot, .int .i64 e.seq, .int .i64 e.ord, .int .i64 e.lev, .int .i64 e.stamp, .string e.data]
def els : List Ent → List Value
  | [] => []
  | e :: r => ecs e ++ els r
theorem ecs_length (e : Ent) : (ecs e).length = 7 := rfl
theorem els_length (l : List Ent) : (els l).length = l.length * 7 := by
  induction l with
  | nil => rfl
  | cons e r ih => simp only [els, List.length_append, ecs_length, ih, List.length_cons]; omega
theorem els_append (a b : List Ent) : els (a ++ b) = els a ++ els b := by
  induction a with
  | nil => rfl
  | cons x r ih => simp [els, ih]
theorem els_one (l : List Ent) : ∀ u ∈ els l, u.oneCell' = true := by
  induction l with
  | nil => intro u h; simp [els] at h
  | cons e r ih =>
    intro u h
    rcases List.mem_append.1 h with h | h
    · simp only [ecs, List.mem_cons, List.not_mem_nil, or_false] at h
      rcases h with rfl | rfl | rfl | rfl | rfl | rfl | rfl <;> rfl
    · exact ih u h
theorem els_drop (l : List Ent) : ∀ i, (els l).drop (i * 7) = els (l.drop i) := by
  induction l with
  | nil => intro i; simp [els]
  | cons e r ih =>
    intro i
    cases i with
    | zero => simp
    | succ i =>
      have h := ih i
      show (ecs e ++ els r).drop ((i + 1) * 7) = els (r.drop i)
      rw [← h, show (i + 1) * 7 = (ecs e).length + i * 7 by rw [ecs_length]; omega, ← List.drop_drop, List.drop_left]
theorem els_take (l : List Ent) : ∀ i, (els l).take (i * 7) = els (l.take i) := by
  induction l with
  | nil => intro i; simp [els]
  | cons e r ih =>
    intro i
    cases i with
    | zero => simp [els]
    | succ i =>
      have h := ih i
      show (ecs e ++ els r).take ((i + 1) * 7) = ecs e ++ els (r.take i)
      rw [← h, show (i + 1) * 7 = (ecs e).length + i * 7 by rw [ecs_length]; omega, List.take_add, List.take_left, List.drop_left]
theorem els_at {l : List Ent} {i : Nat} {e : Ent} (h : l[i]? = some e) {j : Nat} (hj : j < 7) : (els l)[i * 7 + j]? = (ecs e)[j]? := by
  obtain ⟨hi, he⟩ := List.getElem?_eq_some_iff.1 h
  have h1 := els_drop l i
  have h2 : l.drop i = e :: l.drop (i + 1) := by rw [List.drop_eq_getElem_cons hi, he]
  rw [h2] at h1
  have h3 := congrArg (fun q => q[j]?) h1
  simp only [List.getElem?_drop] at h3
  rw [h3]
  show (ecs e ++ els (l.drop (i + 1)))[j]? = _
  rw [List.getElem?_append_left (by rw [ecs_length]; omega)]

/-- What is known of an entry that came in. -/
structure EntOk (e : Ent) : Prop where
  fit : PEnt.Fit e
  sz : e.data.size ≤ maxLen

section
variable {w w' : World} {B c n : Nat} {A : Option Addr} {l : List Ent}
theorem Rd.elen (h : Rd w B A c 7 n (els l)) : l.length = n := by have := h.len; rw [els_length] at this; omega
/-- The cells of the entry at place i. -/
theorem Rd.ent (h : Rd w B A c 7 n (els l)) {i : Nat} (hi : i < n) : ∃ b o e, A = some ⟨b, o, none⟩ ∧ b < B ∧ l[i]? = some e ∧ e ∈ l ∧
    w.cell? ⟨b, o + i * 7, none⟩ = some (.int .i64 e.fr) ∧ w.cell? ⟨b, o + i * 7 + 1, none⟩ = some (.int .i64 e.boot) ∧ w.cell? ⟨b, o + i * 7 + 2, none⟩ = some (.int .i64 e.seq) ∧ w.cell? ⟨b, o + i * 7 + 3, none⟩ = some (.int .i64 e.ord) ∧
    w.cell? ⟨b, o + i * 7 + 4, none⟩ = some (.int .i64 e.lev) ∧ w.cell? ⟨b, o + i * 7 + 5, none⟩ = some (.int .i64 e.stamp) ∧ w.cell? ⟨b, o + i * 7 + 6, none⟩ = some (.string e.data) := by
  obtain ⟨b, o, hA, hb, hc⟩ := h.flat hi (by omega)
  have hl := h.elen
  have he : l[i]? = some l[i] := List.getElem?_eq_getElem (by omega)
  have g : ∀ j u, j < 7 → (ecs l[i])[j]? = some u → w.cell? ⟨b, o + i * 7 + j, none⟩ = some u := by
    intro j u hj hu
    obtain ⟨v, hv, hcell⟩ := hc j hj
    rw [els_at he hj, hu] at hv
    rw [hcell, hv]
  exact ⟨b, o, l[i], hA, hb, he, List.getElem_mem _, g 0 _ (by omega) rfl, g 1 _ (by omega) rfl, g 2 _ (by omega) rfl, g 3 _ (by omega) rfl, g 4 _ (by omega) rfl, g 5 _ (by omega) rfl, g 6 _ (by omega) rfl⟩
/-- A block that holds an entry. -/
theorem Blk.ent {g : Nat} {t : TypeId} {e : Ent} (h : Blk w g t (ecs e)) :
    w.cell? ⟨g, 0, none⟩ = some (.int .i64 e.fr) ∧ w.cell? ⟨g, 1, none⟩ = some (.int .i64 e.boot) ∧ w.cell? ⟨g, 2, none⟩ = some (.int .i64 e.seq) ∧ w.cell? ⟨g, 3, none⟩ = some (.int .i64 e.ord) ∧
    w.cell? ⟨g, 4, none⟩ = some (.int .i64 e.lev) ∧ w.cell? ⟨g, 5, none⟩ = some (.int .i64 e.stamp) ∧ w.cell? ⟨g, 6, none⟩ = some (.string e.data) :=
  ⟨h.cell (i := 0) rfl, h.cell (i := 1) rfl, h.cell (i := 2) rfl, h.cell (i := 3) rfl, h.cell (i := 4) rfl, h.cell (i := 5) rfl, h.cell (i := 6) rfl⟩
theorem Blk.newEnt (w : World) (t : TypeId) (e : Ent) : Blk (w.alloc (.cells #[.int .i64 e.fr, .int .i64 e.boot, .int .i64 e.seq, .int .i64 e.ord, .int .i64 e.lev, .int .i64 e.stamp, .string e.data] t)) w.heap.size t (ecs e) := Blk.new w _ t
end

/-- What is known of the cell of field j. -/
def FE (j : Nat) (u : Value) : Prop := (j < 6 → ∃ x, u = .int .i64 x ∧ (Lit.int .i64 x).wf = true) ∧ (j = 6 → ∃ s : ByteArray, u = .string s ∧ s.size ≤ maxLen)
theorem ent_of7 {a0 a1 a2 a3 a4 a5 a6 : Value} (h0 : FE 0 a0) (h1 : FE 1 a1) (h2 : FE 2 a2) (h3 : FE 3 a3) (h4 : FE 4 a4) (h5 : FE 5 a5) (h6 : FE 6 a6) : ∃ e, [a0, a1, a2, a3, a4, a5, a6] = ecs e ∧ EntOk e := by
  obtain ⟨x0, rfl, w0⟩ := h0.1 (by omega)
  obtain ⟨x1, rfl, w1⟩ := h1.1 (by omega)
  obtain ⟨x2, rfl, w2⟩ := h2.1 (by omega)
  obtain ⟨x3, rfl, w3⟩ := h3.1 (by omega)
  obtain ⟨x4, rfl, w4⟩ := h4.1 (by omega)
  obtain ⟨x5, rfl, w5⟩ := h5.1 (by omega)
  obtain ⟨s, rfl, hs⟩ := h6.2 rfl
  exact ⟨⟨x0, x1, x2, x3, x4, x5, s⟩, rfl, ⟨bounds_i64 w0, bounds_i64 w1, bounds_i64 w2, bounds_i64 w3, bounds_i64 w4, bounds_i64 w5⟩, hs⟩
theorem ents_of : ∀ (n : Nat) (xs : List Value), xs.length = n * 7 → (∀ (i j : Nat) (u : Value), j < 7 → xs[i * 7 + j]? = some u → FE j u) → ∃ l, xs = els l ∧ ∀ e ∈ l, EntOk e
  | 0, xs, h, _ => ⟨[], List.eq_nil_of_length_eq_zero (by omega), by simp⟩
  | n + 1, xs, h, hF => by
    match xs, h with
    | a0 :: a1 :: a2 :: a3 :: a4 :: a5 :: a6 :: r, h =>
      obtain ⟨l, hl, ho⟩ := ents_of n r (by simp only [List.length_cons] at h; omega) (fun i j u hj hu => hF (i + 1) j u hj (by
        rw [show (i + 1) * 7 + j = i * 7 + j + 7 by omega]; exact hu))
      obtain ⟨e, he, hok⟩ := ent_of7 (hF 0 0 a0 (by omega) rfl) (hF 0 1 a1 (by omega) rfl) (hF 0 2 a2 (by omega) rfl) (hF 0 3 a3 (by omega) rfl) (hF 0 4 a4 (by omega) rfl) (hF 0 5 a5 (by omega) rfl) (hF 0 6 a6 (by omega) rfl)
      refine ⟨e :: l, ?_, ?_⟩
      · show _ = ecs e ++ els l
        rw [← he, ← hl]; rfl
      · intro x hx
        rcases List.mem_cons.1 hx with rfl | hx
        · exact hok
        · exact ho x hx
    | [], h => simp at h
    | [_], h => simp only [List.length_cons, List.length_nil] at h; omega
    | [_, _], h => simp only [List.length_cons, List.length_nil] at h; omega
    | [_, _, _], h => simp only [List.length_cons, List.length_nil] at h; omega
    | [_, _, _, _], h => simp only [List.length_cons, List.length_nil] at h; omega
    | [_, _, _, _, _], h => simp only [List.length_cons, List.length_nil] at h; omega
    | [_, _, _, _, _, _], h => simp only [List.length_cons, List.length_nil] at h; omega

section
variable {H : Type} {enc : TypeId × Value → H} {P : Program} {w : World} {base : Nat} {spare : Nat → Bool} {held : Bool}
/-- How an entry's fields lie. -/
def EntT (P : Program) (fs : Array Field) : Prop := fs.size = 7 ∧ ∀ (j : Nat) (f : Field), fs[j]? = some f → P.cellsOf f.type = 1 ∧ f.offset = j ∧ (j < 6 → P.underlying f.type = some (.int .i64)) ∧ (j = 6 → P.underlying f.type = some .string)
theorem EntT.field {fs : Array Field} (hT : EntT P fs) {j : Nat} {f : Field} (hj : fs[j]? = some f) {fuel : Nat} {cs : List Value} {x : DataW H × List MemPlace} (h : DataW.trod enc P w base spare held fuel f.type cs = some x) : ∃ u, cs = [u] ∧ FE j u := by
  obtain ⟨_, _, h2, h3⟩ := hT.2 j f hj
  have hj7 : j < 7 := by have := (Array.getElem?_eq_some_iff.1 hj).1; rw [hT.1] at this; exact this
  by_cases h6 : j = 6
  · obtain ⟨s, hs, _, hm⟩ := DataW.trod_string (h3 h6) h
    exact ⟨_, hs, fun h' => by omega, fun _ => ⟨s, rfl, hm⟩⟩
  · obtain ⟨n, hn, _, hw⟩ := DataW.trod_int (h2 (by omega)) h
    exact ⟨_, hn, fun _ => ⟨n, rfl, hw⟩, fun h' => absurd h' h6⟩
/-- A slice of entries that came in. -/
theorem open_ents {t e : TypeId} {fs : Array Field} {fuel : Nat} {cs : List Value} {x : DataW H × List MemPlace} (ht : P.underlying t = some (.slice e)) (he : P.underlying e = some (.struct fs)) (hC : P.cellsOf e = 7) (hT : EntT P fs)
    (h : DataW.trod enc P w base spare held fuel t cs = some x) : ∃ (A : Option Addr) (n c : Nat) (l : List Ent), cs = [.slice A n c] ∧ Rd w w.heap.size A c 7 n (els l) ∧ ∀ e ∈ l, EntOk e := by
  obtain ⟨A, n, c, xs, e1, e2, e3⟩ := open_flat (F := FE) ht he hC hT.1 (by omega) (fun j f hf => ⟨(hT.2 j f hf).1, (hT.2 j f hf).2.1, fun fuel cs x hx => hT.field hf hx⟩) h
  obtain ⟨l, rfl, hl⟩ := ents_of n xs e2.len e3
  exact ⟨A, n, c, l, e1, e2, hl⟩
/-- An entry by value that came in. -/
theorem open_ent {r : Reach} {b0 : Nat} {t : TypeId} {fs : Array Field} {v : Value} {d : DataW H} {ps : List MemPlace} (ht : P.underlying t = some (.struct fs)) (hC : P.cellsOf t = 7) (hT : EntT P fs)
    (hval : Value.okWide P w r b0 t v) (hd : DataW.Trod enc P w base spare held t v d ps) : ∃ e, v = ev e ∧ EntOk e := by
  obtain ⟨cs, rfl, hsz⟩ := okWide_struct ht hval
  obtain ⟨fuel, hf⟩ := hd
  obtain ⟨xs, n, rfl, hx, hl, hxl, hfs⟩ := DataW.trod_struct ht hf
  have hl7 : cs.toList.length = 1 * 7 := by rw [hC] at hl; exact hl
  obtain ⟨l, hc, ho⟩ := ents_of 1 cs.toList hl7 (fun i j u hj hu => by
    have hlt := (List.getElem?_eq_some_iff.1 hu).1
    have hi : i = 0 := by omega
    subst hi
    rw [Nat.zero_mul, Nat.zero_add] at hu hlt
    have hjf : j < fs.size := by rw [hT.1]; exact hj
    have hy := hfs j fs[j] (Array.getElem?_eq_getElem hjf)
    rw [List.getElem?_eq_getElem (show j < xs.length by omega)] at hy
    obtain ⟨v, hv, hFv⟩ := hT.field (Array.getElem?_eq_getElem hjf) hy
    obtain ⟨h1, h2, _⟩ := hT.2 j fs[j] (Array.getElem?_eq_getElem hjf)
    rw [h1, h2] at hv
    have h3 := congrArg (fun q => q[0]?) hv
    simp only [List.getElem?_take, List.getElem?_drop] at h3
    simp only [Nat.lt_succ_self, if_true, Nat.add_zero, List.getElem?_cons_zero] at h3
    have : some u = some v := hu.symm.trans h3
    exact Option.some.inj this ▸ hFv)
  match l, hc, ho with
  | [e], hc, ho =>
    refine ⟨e, ?_, ho e (List.mem_singleton.2 rfl)⟩
    rw [ev, ← Array.toArray_toList (xs := cs), hc]; rfl
  | [], hc, _ => rw [hc] at hl7; simp [els] at hl7
  | a :: b :: r, hc, _ => rw [hc, els_length] at hl7; simp only [List.length_cons] at hl7; omega
end
end Go.Proofs.YtfijjdahoimoeaaDoor

/- Messages as cells, by value; what is known of one that came in. No program is named here. -/
namespace Go.Proofs.YtfijjdahoimoeaaDoor
open Go.RowKit Go.ChangeShapes Go.WideShapes

/-- A message's cells, its entries at A; a message by value; its numbers by value. -/
def mcs (m : Msg) (A : Option Addr) (c : Nat) : List Value := [.int .i64 m.kind, .int .i64 m.fr, .int .i64 m.dst, .int .i64 m.boot, .int .i64 m.view, .int .i64 m.last, .int .i64 m.mem, .int .i64 m.pos, .slice A m.es.length c, .int .i64 m.com, .int .i64 m.num, .int .i64 m.clk, .bool m.yes]
def mv (m : Msg) (A : Option Addr) (c : Nat) : Value := .agg #[.int .i64 m.kind, .int .i64 m.fr, .int .i64 m.dst, .int .i64 m.boot, .int .i64 m.view, .int .i64 m.last, .int .i64 m.mem, .int .i64 m.pos, .slice A m.es.length c, .int .i64 m.com, .int .i64 m.num, .int .i64 m.clk, .bool m.yes]
theorem mv_mcs (m : Msg) (A : Option Addr) (c : Nat) : mv m A c = .agg (mcs m A c).toArray := rfl
def zeroM : Msg := ⟨0, 0, 0, 0, 0, 0, 0, 0, [], 0, 0, 0, false⟩
/-- Thirteen numbers by value; a message's. -/
def nv13 (x : List Int) : Value := .agg (x.map (Value.int .i64)).toArray

/-- What is known of a message that came in. -/
structure MsgOk (m : Msg) : Prop where
  f0 : -9223372036854775808 ≤ m.kind ∧ m.kind ≤ 9223372036854775807
  f1 : -9223372036854775808 ≤ m.fr ∧ m.fr ≤ 9223372036854775807
  f2 : -9223372036854775808 ≤ m.dst ∧ m.dst ≤ 9223372036854775807
  f3 : -9223372036854775808 ≤ m.boot ∧ m.boot ≤ 9223372036854775807
  f4 : -9223372036854775808 ≤ m.view ∧ m.view ≤ 9223372036854775807
  f5 : -9223372036854775808 ≤ m.last ∧ m.last ≤ 9223372036854775807
  f6 : -9223372036854775808 ≤ m.mem ∧ m.mem ≤ 9223372036854775807
  f7 : -9223372036854775808 ≤ m.pos ∧ m.pos ≤ 9223372036854775807
  f9 : -9223372036854775808 ≤ m.com ∧ m.com ≤ 9223372036854775807
  f10 : -9223372036854775808 ≤ m.num ∧ m.num ≤ 9223372036854775807
  f11 : -9223372036854775808 ≤ m.clk ∧ m.clk ≤ 9223372036854775807
  ents : ∀ e ∈ m.es, EntOk e

section
variable {w w' : World} {g : Nat} {t : TypeId} {m : Msg} {A : Option Addr} {c : Nat}
/-- The cells of a block that holds a message. -/
theorem Blk.msg (h : Blk w g t (mcs m A c)) :
    w.cell? ⟨g, 0, none⟩ = some (.int .i64 m.kind) ∧ w.cell? ⟨g, 1, none⟩ = some (.int .i64 m.fr) ∧ w.cell? ⟨g, 2, none⟩ = some (.int .i64 m.dst) ∧ w.cell? ⟨g, 3, none⟩ = some (.int .i64 m.boot) ∧ w.cell? ⟨g, 4, none⟩ = some (.int .i64 m.view) ∧
    w.cell? ⟨g, 5, none⟩ = some (.int .i64 m.last) ∧ w.cell? ⟨g, 6, none⟩ = some (.int .i64 m.mem) ∧ w.cell? ⟨g, 7, none⟩ = some (.int .i64 m.pos) ∧ w.cell? ⟨g, 8, none⟩ = some (.slice A m.es.length c) ∧ w.cell? ⟨g, 9, none⟩ = some (.int .i64 m.com) ∧
    w.cell? ⟨g, 10, none⟩ = some (.int .i64 m.num) ∧ w.cell? ⟨g, 11, none⟩ = some (.int .i64 m.clk) ∧ w.cell? ⟨g, 12, none⟩ = some (.bool m.yes) :=
  ⟨h.cell (i := 0) rfl, h.cell (i := 1) rfl, h.cell (i := 2) rfl, h.cell (i := 3) rfl, h.cell (i := 4) rfl, h.cell (i := 5) rfl, h.cell (i := 6) rfl, h.cell (i := 7) rfl, h.cell (i := 8) rfl, h.cell (i := 9) rfl, h.cell (i := 10) rfl, h.cell (i := 11) rfl, h.cell (i := 12) rfl⟩
end

/-- What is known of the cell of field j. -/
def FM (w : World) (j : Nat) (u : Value) : Prop := (j ≠ 8 → j ≠ 12 → ∃ x, u = .int .i64 x ∧ (Lit.int .i64 x).wf = true) ∧ (j = 8 → ∃ (A : Option Addr) (n c : Nat) (l : List Ent), u = .slice A n c ∧ Rd w w.heap.size A c 7 n (els l) ∧ ∀ e ∈ l, EntOk e) ∧ (j = 12 → ∃ b, u = .bool b)
theorem msg_of {w : World} {cs : List Value} (hl : cs.length = 13) (h : ∀ (j : Nat) (u : Value), cs[j]? = some u → FM w j u) : ∃ (m : Msg) (A : Option Addr) (c : Nat), cs = mcs m A c ∧ Rd w w.heap.size A c 7 m.es.length (els m.es) ∧ MsgOk m := by
  match cs, hl with
  | [a0, a1, a2, a3, a4, a5, a6, a7, a8, a9, a10, a11, a12], _ =>
    obtain ⟨x0, rfl, w0⟩ := (h 0 a0 rfl).1 (by omega) (by omega)
    obtain ⟨x1, rfl, w1⟩ := (h 1 a1 rfl).1 (by omega) (by omega)
    obtain ⟨x2, rfl, w2⟩ := (h 2 a2 rfl).1 (by omega) (by omega)
    obtain ⟨x3, rfl, w3⟩ := (h 3 a3 rfl).1 (by omega) (by omega)
    obtain ⟨x4, rfl, w4⟩ := (h 4 a4 rfl).1 (by omega) (by omega)
    obtain ⟨x5, rfl, w5⟩ := (h 5 a5 rfl).1 (by omega) (by omega)
    obtain ⟨x6, rfl, w6⟩ := (h 6 a6 rfl).1 (by omega) (by omega)
    obtain ⟨x7, rfl, w7⟩ := (h 7 a7 rfl).1 (by omega) (by omega)
    obtain ⟨A, n, c, l, rfl, hr, ho⟩ := (h 8 a8 rfl).2.1 rfl
    obtain ⟨x9, rfl, w9⟩ := (h 9 a9 rfl).1 (by omega) (by omega)
    obtain ⟨x10, rfl, w10⟩ := (h 10 a10 rfl).1 (by omega) (by omega)
    obtain ⟨x11, rfl, w11⟩ := (h 11 a11 rfl).1 (by omega) (by omega)
    obtain ⟨b, rfl⟩ := (h 12 a12 rfl).2.2 rfl
    have hn := hr.elen
    subst hn
    exact ⟨⟨x0, x1, x2, x3, x4, x5, x6, x7, l, x9, x10, x11, b⟩, A, c, rfl, hr, ⟨bounds_i64 w0, bounds_i64 w1, bounds_i64 w2, bounds_i64 w3, bounds_i64 w4, bounds_i64 w5, bounds_i64 w6, bounds_i64 w7, bounds_i64 w9, bounds_i64 w10, bounds_i64 w11, ho⟩⟩

section
variable {H : Type} {enc : TypeId × Value → H} {P : Program} {w : World} {base : Nat} {spare : Nat → Bool} {held : Bool}
/-- How a message's fields lie. -/
def MsgT (P : Program) (fs : Array Field) (E : TypeId) : Prop := fs.size = 13 ∧ ∀ (j : Nat) (f : Field), fs[j]? = some f → P.cellsOf f.type = 1 ∧ f.offset = j ∧ (j ≠ 8 → j ≠ 12 → P.underlying f.type = some (.int .i64)) ∧ (j = 8 → P.underlying f.type = some (.slice E)) ∧ (j = 12 → P.underlying f.type = some .bool)
/-- A message by value that came in. -/
theorem open_msg {r : Reach} {b0 : Nat} {t E : TypeId} {fs es : Array Field} {v : Value} {d : DataW H} {ps : List MemPlace} (ht : P.underlying t = some (.struct fs)) (hC : P.cellsOf t = 13) (hT : MsgT P fs E)
    (hE : P.underlying E = some (.struct es)) (hEC : P.cellsOf E = 7) (hET : EntT P es)
    (hval : Value.okWide P w r b0 t v) (hd : DataW.Trod enc P w base spare held t v d ps) : ∃ (m : Msg) (A : Option Addr) (c : Nat), v = mv m A c ∧ Rd w w.heap.size A c 7 m.es.length (els m.es) ∧ MsgOk m := by
  obtain ⟨cs, rfl, hsz⟩ := okWide_struct ht hval
  obtain ⟨fuel, hf⟩ := hd
  obtain ⟨xs, n, rfl, hx, hl, hxl, hfs⟩ := DataW.trod_struct ht hf
  have hl13 : cs.toList.length = 13 := by rw [hC] at hl; exact hl
  obtain ⟨m, A, c, hc, hr, ho⟩ := msg_of (w := w) hl13 (fun j u hu => by
    have hj := (List.getElem?_eq_some_iff.1 hu).1
    have hjf : j < fs.size := by rw [hT.1]; omega
    have hfj := Array.getElem?_eq_getElem hjf
    have hy := hfs j fs[j] hfj
    rw [List.getElem?_eq_getElem (show j < xs.length by omega)] at hy
    obtain ⟨h1, h2, h3, h4, h5⟩ := hT.2 j fs[j] hfj
    have key : ∀ v, (cs.toList.drop fs[j].offset).take (P.cellsOf fs[j].type) = [v] → u = v := by
      intro v hv
      rw [h1, h2] at hv
      have h3 := congrArg (fun q => q[0]?) hv
      simp only [List.getElem?_take, List.getElem?_drop] at h3
      simp only [Nat.lt_succ_self, if_true, Nat.add_zero, List.getElem?_cons_zero] at h3
      exact Option.some.inj (hu.symm.trans h3)
    by_cases e8 : j = 8
    · obtain ⟨A, n, c, l, hcs, hr, ho⟩ := open_ents (h4 e8) hE hEC hET hy
      have := key _ hcs
      exact ⟨fun h => absurd e8 h, fun _ => ⟨A, n, c, l, this, hr, ho⟩, fun h => by omega⟩
    · by_cases e12 : j = 12
      · obtain ⟨b, hcs, _⟩ := DataW.trod_bool (h5 e12) hy
        have := key _ hcs
        exact ⟨fun _ h => absurd e12 h, fun h => absurd h e8, fun _ => ⟨b, this⟩⟩
      · obtain ⟨x, hcs, _, hw⟩ := DataW.trod_int (h3 e8 e12) hy
        have := key _ hcs
        exact ⟨fun _ _ => ⟨x, this, hw⟩, fun h => absurd h e8, fun h => absurd h e12⟩)
  exact ⟨m, A, c, by rw [mv_mcs, ← hc], hr, ho⟩
end
end Go.Proofs.YtfijjdahoimoeaaDoor

/- What is known of each process, as plain data. No program is named here. -/
namespace Go.Proofs.YtfijjdahoimoeaaDoor

/-- What is known of a process: its greatest start, the last ping's number and time, whether there was one. -/
structure Oth where
  boot : Int
  num : Int
  clk : Int
  sent : Bool

namespace PGram
def zero : Oth := ⟨0, 0, 0, false⟩
def zeroL : List Oth := List.replicate 7 zero
def isId (i : Int) : Bool := decide (1 ≤ i ∧ i ≤ 7)
def at_ (L : List Oth) (i : Int) : Oth := L.getD (i - 1).toNat zero
def bootOf (L : List Oth) (i : Int) : Int := if isId i = true then (at_ L i).boot else 0
def put (L : List Oth) (i : Int) (o : Oth) : List Oth := L.set (i - 1).toNat o
/-- What Hear tells, what it leaves. -/
def herr (me : Int) (L : List Oth) : Option Msg → Int
  | none => 1
  | some m => if m.dst ≠ me then 1 else if m.boot < (at_ L m.fr).boot then 7 else 0
def hmsg (me : Int) (L : List Oth) : Option Msg → Msg
  | none => zeroM
  | some m => if m.dst ≠ me then zeroM else if m.boot < (at_ L m.fr).boot then zeroM else m
def hleft (me : Int) (L : List Oth) : Option Msg → List Oth
  | none => L
  | some m => if m.dst ≠ me then L else if m.boot < (at_ L m.fr).boot then L else put L m.fr { at_ L m.fr with boot := m.boot }
def sentL (L : List Oth) (i n c : Int) : List Oth := if isId i = true then put L i ⟨(at_ L i).boot, n, c, true⟩ else L
def took (L : List Oth) (m : Msg) (c p : Int) : Int × Bool :=
  if isId m.fr = true ∧ m.kind = 13 ∧ (at_ L m.fr).sent = true ∧ (at_ L m.fr).num = m.num then PDelay.bound (at_ L m.fr).clk m.clk m.clk c p else (0, false)

theorem isId_yes {i : Int} (h : isId i = true) : ∃ k : Nat, k < 7 ∧ i = (k : Int) + 1 := by
  have := of_decide_eq_true h
  exact ⟨(i - 1).toNat, by omega, by omega⟩
theorem isId_no {i : Int} (h : isId i = false) : ¬ (1 ≤ i ∧ i ≤ 7) := of_decide_eq_false h
theorem isId_of {k : Nat} (h : k < 7) : isId ((k : Int) + 1) = true := decide_eq_true (by omega)
theorem zeroL_len : zeroL.length = 7 := rfl
theorem at_k (L : List Oth) (k : Nat) : at_ L ((k : Int) + 1) = L.getD k zero := by unfold at_; congr 1; omega
theorem put_k (L : List Oth) (k : Nat) (o : Oth) : put L ((k : Int) + 1) o = L.set k o := by unfold put; congr 1; omega
theorem put_len (L : List Oth) (i : Int) (o : Oth) : (put L i o).length = L.length := List.length_set ..
theorem hleft_len (me : Int) (L : List Oth) (r : Option Msg) : (hleft me L r).length = L.length := by
  unfold hleft
  split
  · rfl
  · split
    · rfl
    · split
      · rfl
      · exact put_len ..
theorem sentL_len (L : List Oth) (i n c : Int) : (sentL L i n c).length = L.length := by
  unfold sentL; split
  · exact put_len ..
  · rfl
theorem getD_eq {L : List Oth} {k : Nat} (h : k < L.length) : L[k]? = some (L.getD k zero) := by
  rw [List.getD_eq_getElem?_getD, List.getElem?_eq_getElem h]; rfl
end PGram

/-- A process as cells; all of them, behind who one is oneself. -/
def ocs (o : Oth) : List Value := [.int .i64 o.boot, .int .i64 o.num, .int .i64 o.clk, .bool o.sent]
def olds (L : List Oth) : List Value := L.flatMap ocs
def gcs (me : Int) (L : List Oth) : List Value := .int .i64 me :: olds L
theorem olds_cons (o : Oth) (L : List Oth) : olds (o :: L) = ocs o ++ olds L := rfl
theorem olds_length (L : List Oth) : (olds L).length = L.length * 4 := by
  induction L with
  | nil => rfl
  | cons o L ih => rw [olds_cons, List.length_append, ih, List.length_cons, Nat.succ_mul]; simp [ocs]; omega
theorem olds_at {L : List Oth} {k : Nat} {o : Oth} (h : L[k]? = some o) {j : Nat} (hj : j < 4) : (olds L)[k * 4 + j]? = (ocs o)[j]? := by
  induction L generalizing k with
  | nil => simp at h
  | cons a L ih =>
    cases k with
    | zero =>
      simp at h; subst h
      rw [olds_cons, List.getElem?_append_left (by simp [ocs]; omega)]; simp
    | succ k =>
      rw [olds_cons, List.getElem?_append_right (by simp [ocs]; omega), ← ih (by simpa using h)]
      congr 1; simp [ocs]; omega
theorem gcs_at {me : Int} {L : List Oth} {k : Nat} {o : Oth} (h : L[k]? = some o) {j : Nat} (hj : j < 4) : (gcs me L)[1 + k * 4 + j]? = (ocs o)[j]? := by
  rw [← olds_at h hj, gcs, show 1 + k * 4 + j = (k * 4 + j) + 1 by omega, List.getElem?_cons_succ]
theorem olds_set {L : List Oth} {k : Nat} {o : Oth} (h : L[k]? = some o) {j : Nat} (hj : j < 4) {o' : Oth} {v : Value} (e : (ocs o).set j v = ocs o') : (olds L).set (k * 4 + j) v = olds (L.set k o') := by
  induction L generalizing k with
  | nil => simp at h
  | cons a L ih =>
    cases k with
    | zero =>
      simp at h; subst h
      rw [olds_cons, List.set_append_left _ _ (by simp [ocs]; omega)]
      simp only [Nat.zero_mul, Nat.zero_add, List.set_cons_zero]
      rw [olds_cons, e]
    | succ k =>
      rw [olds_cons, List.set_append_right _ _ (by simp [ocs]; omega), List.set_cons_succ, olds_cons, ← ih (by simpa using h)]
      congr 2; simp [ocs]; omega
theorem gcs_set {me : Int} {L : List Oth} {k : Nat} {o : Oth} (h : L[k]? = some o) {j : Nat} (hj : j < 4) {o' : Oth} {v : Value} (e : (ocs o).set j v = ocs o') : (gcs me L).set (1 + k * 4 + j) v = gcs me (L.set k o') := by
  rw [gcs, show 1 + k * 4 + j = (k * 4 + j) + 1 by omega, List.set_cons_succ, olds_set h hj e, gcs]
end Go.Proofs.YtfijjdahoimoeaaDoor

/- What a call leaves: 'Touch S w w'': of the old blocks those of the list S alone may hold other cells. No program is named here. -/
namespace Go.Proofs.YtfijjdahoimoeaaDoor
open Go.RowKit

structure Touch (S : List Nat) (w w' : World) : Prop where
  os : w'.os = w.os
  tape : w'.tape = w.tape
  output : w'.output = w.output
  size : w.heap.size ≤ w'.heap.size
  block : ∀ k, k < w.heap.size → k ∉ S → w'.heap[k]? = w.heap[k]?

section
variable {S S' : List Nat} {a b c w w' : World} {g : Nat} {e : TypeId} {xs : List Value}
theorem Touch.refl (S : List Nat) (w : World) : Touch S w w := ⟨rfl, rfl, rfl, Nat.le_refl _, fun _ _ _ => rfl⟩
theorem Touch.trans (h : Touch S a b) (k : Touch S b c) : Touch S a c :=
  ⟨k.os.trans h.os, k.tape.trans h.tape, k.output.trans h.output, Nat.le_trans h.size k.size, fun i hi hs => (k.block i (Nat.lt_of_lt_of_le hi h.size) hs).trans (h.block i hi hs)⟩
theorem Touch.wide (h : Touch S a b) (hs : ∀ k ∈ S, k ∈ S') : Touch S' a b := ⟨h.os, h.tape, h.output, h.size, fun k hk hn => h.block k hk fun hm => hn (hs k hm)⟩
theorem Touch.of_grown (h : w.grownBy w' (some g)) : Touch [g] w w' := ⟨h.os, h.tape, h.output, h.size, fun k hk hn => h.block k hk (by simpa using hn)⟩
theorem Touch.of_below (h : Below w.heap.size w w') : Touch S w w' := ⟨h.os, h.tape, h.output, h.size, fun k hk _ => h.block k hk⟩
theorem Touch.of_grown_none {row : Option Nat} (h : w.grownBy w' row) (hr : ∀ k, row = some k → k ∈ S) : Touch S w w' := ⟨h.os, h.tape, h.output, h.size, fun k hk hn => h.block k hk fun hr' => hn (hr k hr'.symm)⟩
theorem Touch.drew (h : Touch S a w) : Touch S a w.drew := ⟨h.os, h.tape, h.output, h.size, h.block⟩
theorem Touch.alloc (h : Touch S a w) (o : Obj) : Touch S a (w.alloc o) := h.trans (.of_below ((Below.refl _ _).alloc (Nat.le_refl _) _))
theorem Touch.cell (h : Touch S a w) (hg : g ∈ S) (i : Nat) (v : Value) : Touch S a (w.setCell ⟨g, i, none⟩ v) := h.trans ((Touch.of_grown (grown_set w g i v)).wide (by simpa using hg))
theorem Touch.below {B : Nat} (h : Touch S w w') (hs : ∀ k ∈ S, B ≤ k) (hB : B ≤ w.heap.size) : Below B w w' :=
  ⟨h.os, h.tape, h.output, h.size, fun k hk => h.block k (by omega) fun hm => by have := hs k hm; omega⟩
theorem Blk.touch (h : Blk w g e xs) (ht : Touch S w w') (hg : g ∉ S) : Blk w' g e xs := (ht.block g h.lt hg).trans h
/-- Blocks of two types are two. -/
theorem Blk.ne {g' : Nat} {e' : TypeId} {xs' : List Value} (h : Blk w g e xs) (h' : Blk w g' e' xs') (he : e ≠ e') : g ≠ g' := by
  rintro rfl
  have := h.symm.trans h'
  simp at this
  exact he this.2
theorem Blk.same {e' : TypeId} {xs' : List Value} (h : Blk w g e xs) (h' : Blk w g e' xs') : xs = xs' := by
  have := h.symm.trans h'
  simp at this
  exact this.1
/-- What is owned, behind a call that wrote blocks of other types. -/
theorem own_touch {base k n : Nat} {v : Value} (h : w.ownsRow base e k v n xs) (ht : Touch S w w') (hs : ∀ g ∈ S, ∀ ys, ¬ Blk w g e ys) : w'.ownsRow base e k v n xs := by
  obtain ⟨h1, h2⟩ := h
  refine ⟨h1, ?_⟩
  rcases h2 with h2 | ⟨g, cap, cur, hv, hg, hh, r⟩
  · exact .inl h2
  · refine .inr ⟨g, cap, cur, hv, hg, ?_, r⟩
    rw [ht.block g (Array.getElem?_eq_some_iff.1 hh).1 fun hm => hs g hm cur.toList (by simpa [Blk] using hh)]
    exact hh
theorem own_base {base base' k n : Nat} {v : Value} (h : w.ownsRow base e k v n xs) (hb : base' ≤ base) : w.ownsRow base' e k v n xs := by
  obtain ⟨h1, h2⟩ := h
  refine ⟨h1, ?_⟩
  rcases h2 with h2 | ⟨g, cap, cur, hv, hg, r⟩
  · exact .inl h2
  · exact .inr ⟨g, cap, cur, hv, by omega, r⟩
end
end Go.Proofs.YtfijjdahoimoeaaDoor

/- Contracts of package gram: isID, New, other, Boot, Sent. -/
namespace Go.Proofs.YtfijjdahoimoeaaDoor
open Go.RowKit

/-- The gram at block g: who one is oneself, what is known of each. -/
def Gm (w : World) (g : Nat) (me : Int) (L : List Oth) : Prop := Blk w g 60 (gcs me L) ∧ L.length = 7

section
variable {w w' : World} {g : Nat} {me : Int} {L : List Oth}
theorem Gm.cells (h : Gm w g me L) {k : Nat} (hk : k < 7) {o : Oth} (ho : L.getD k PGram.zero = o) :
    w.cell? ⟨g, 1 + k * 4, none⟩ = some (.int .i64 o.boot) ∧ w.cell? ⟨g, 1 + k * 4 + 1, none⟩ = some (.int .i64 o.num) ∧ w.cell? ⟨g, 1 + k * 4 + 2, none⟩ = some (.int .i64 o.clk) ∧ w.cell? ⟨g, 1 + k * 4 + 3, none⟩ = some (.bool o.sent) := by
  have e := PGram.getD_eq (show k < L.length by rw [h.2]; exact hk)
  rw [ho] at e
  exact ⟨h.1.cell (by have := gcs_at (me := me) e (j := 0) (by omega); exact this), h.1.cell (gcs_at e (j := 1) (by omega)), h.1.cell (gcs_at e (j := 2) (by omega)), h.1.cell (gcs_at e (j := 3) (by omega))⟩
/-- One cell of a process is written. -/
theorem Gm.set (h : Gm w g me L) {k : Nat} (hk : k < 7) {o : Oth} (ho : L.getD k PGram.zero = o) {j : Nat} (hj : j < 4) {o' : Oth} {v : Value} (e : (ocs o).set j v = ocs o') : Gm (w.setCell ⟨g, 1 + k * 4 + j, none⟩ v) g me (L.set k o') := by
  have e0 := PGram.getD_eq (show k < L.length by rw [h.2]; exact hk)
  rw [ho] at e0
  refine ⟨?_, by rw [List.length_set]; exact h.2⟩
  rw [← gcs_set e0 hj e]
  exact h.1.set _ _
theorem Gm.self (h : Gm w g me L) : w.cell? ⟨g, 0, none⟩ = some (.int .i64 me) := h.1.cell rfl
theorem Gm.past (h : Gm w g me L) (b : Below w.heap.size w w') : Gm w' g me L := ⟨h.1.past b, h.2⟩
theorem Gm.drew (h : Gm w g me L) : Gm w.drew g me L := h
theorem Gm.far (h : Gm w g me L) {S : List Nat} (ht : Touch S w w') (hg : g ∉ S) : Gm w' g me L := ⟨h.1.touch ht hg, h.2⟩
end

theorem isID_c (w : World) (i : Int) :
    Calls Tryd.prog 20 #[.int .i64 i] w fun e w' => e = .returned (.bool (PGram.isId i)) ∧ w = w' := by
  have H := Lib.hid (show PGram.isId i = (decide (1 ≤ i) && decide (i ≤ 7)) from Bool.decide_and ..)
  by_cases h1 : 1 ≤ i <;> by_cases h2 : i ≤ 7
  all_goals
    go_enter Tryd.func20, Tryd.ntmps20
    go_wp2_with fail
    go_ret
    exact ⟨by rw [H.out]; simp [h1, h2], rfl⟩

theorem gNew_no (w : World) (i : Int) (h : PGram.isId i = false) :
    Calls Tryd.prog 9 #[.int .i64 i] w fun e w' => e = .returned (.pointer none) ∧ w = w' := by
  have H := Lib.hid h
  clear h
  go_enter Tryd.func9, Tryd.ntmps9
  go_wp2_with fail
  refine (isID_c w i).mono ?_
  rw [H.out]
  rintro e w' ⟨rfl, rfl⟩
  go_wp2_with fail
  go_ret
  exact ⟨rfl, rfl⟩
theorem gNew_yes (w : World) (i : Int) (h : PGram.isId i = true) :
    Calls Tryd.prog 9 #[.int .i64 i] w fun e w' => e = .returned (.pointer (some ⟨w.heap.size, 0, none⟩)) ∧ Gm w' w.heap.size i PGram.zeroL ∧ Below w.heap.size w w' := by
  have H := Lib.hid h
  clear h
  go_enter Tryd.func9, Tryd.ntmps9
  go_wp2_with fail
  refine (isID_c w i).mono ?_
  rw [H.out]
  rintro e w' ⟨rfl, rfl⟩
  go_wp2_with fail
  go_ret
  exact ⟨rfl, ⟨Blk.new w (gcs i PGram.zeroL).toArray _, rfl⟩, (Below.refl _ _).alloc (Nat.le_refl _) _⟩

theorem other_c (w : World) (g k : Nat) (hk : k < 7) (i : Int) (hi : i = (k : Int) + 1) :
    Calls Tryd.prog 23 #[.pointer (some ⟨g, 0, none⟩), .int .i64 i] w fun e w' => e = .returned (.pointer (some ⟨g, 1 + k * 4, none⟩)) ∧ w = w' := by
  subst hi
  go_enter Tryd.func23, Tryd.ntmps23
  go_wp2_with fail
  go_ret
  exact ⟨rfl, rfl⟩

theorem boot_nil (w : World) (i : Int) : Calls Tryd.prog 19 #[.pointer none, .int .i64 i] w fun e w' => e = .returned (.int .i64 0) ∧ w = w' := by
  go_enter Tryd.func19, Tryd.ntmps19
  go_wp2_with fail
  go_ret
  exact ⟨rfl, rfl⟩
theorem boot_c (w : World) (g : Nat) (me : Int) (L : List Oth) (h : Gm w g me L) (i : Int) :
    Calls Tryd.prog 19 #[.pointer (some ⟨g, 0, none⟩), .int .i64 i] w fun e w' => e = .returned (.int .i64 (PGram.bootOf L i)) ∧ w = w' := by
  cases hi : PGram.isId i
  · have H := Lib.hid hi
    have HB := Lib.hid (show PGram.bootOf L i = 0 from if_neg (by rw [hi]; decide))
    clear hi
    go_enter Tryd.func19, Tryd.ntmps19
    go_wp2_with fail
    refine (isID_c w i).mono ?_
    rw [H.out]
    rintro e w' ⟨rfl, rfl⟩
    go_wp2_with fail
    go_ret
    exact ⟨by rw [HB.out]; rfl, rfl⟩
  · have H := Lib.hid hi
    have HB := Lib.hid (show PGram.bootOf L i = (PGram.at_ L i).boot from if_pos hi)
    obtain ⟨k, hk, rfl⟩ := PGram.isId_yes hi
    rw [PGram.at_k] at HB
    obtain ⟨o, ho⟩ : ∃ o, L.getD k PGram.zero = o := ⟨_, rfl⟩
    rw [ho] at HB
    have q := (h.cells hk ho).1
    clear ho
    clear hi
    go_enter Tryd.func19, Tryd.ntmps19
    go_wp2_with fail
    refine (isID_c w _).mono ?_
    rw [H.out]
    rintro e w' ⟨rfl, rfl⟩
    go_wp2_with fail
    refine (other_c w g k hk _ rfl).mono ?_
    rintro e w' ⟨rfl, rfl⟩
    go_wp2_with fail
    go_ret
    exact ⟨by rw [HB.out]; rfl, rfl⟩

theorem sent_nil (w : World) (i n c : Int) : Calls Tryd.prog 16 #[.pointer none, .int .i64 i, .int .i64 n, .int .i64 c] w fun e w' => e = .returned (.tuple #[]) ∧ w = w' := by
  go_enter Tryd.func16, Tryd.ntmps16
  go_wp2_with fail
  (try simp only [Exit.inBlock, Exit.then])
  exact bodyPost_ret (results_none rfl _ _ _) rfl ⟨rfl, rfl⟩
theorem set_get {L : List Oth} {k : Nat} (h : k < L.length) (o : Oth) : (L.set k o).getD k PGram.zero = o := by
  rw [List.getD_eq_getElem?_getD, List.getElem?_set_self h]; rfl
theorem set_set (L : List Oth) (k : Nat) (o o' : Oth) : (L.set k o).set k o' = L.set k o' := List.set_set ..

theorem sent_c (w : World) (g : Nat) (me : Int) (L : List Oth) (h : Gm w g me L) (i n c : Int) :
    Calls Tryd.prog 16 #[.pointer (some ⟨g, 0, none⟩), .int .i64 i, .int .i64 n, .int .i64 c] w fun e w' => e = .returned (.tuple #[]) ∧ Gm w' g me (PGram.sentL L i n c) ∧ Touch [g] w w' := by
  cases hi : PGram.isId i
  · have H := Lib.hid hi
    have HS := Lib.hid (show PGram.sentL L i n c = L from if_neg (by rw [hi]; decide))
    have HG := Lib.hid h
    clear hi h
    go_enter Tryd.func16, Tryd.ntmps16
    go_wp2_with fail
    refine (isID_c w i).mono ?_
    rw [H.out]
    rintro e w' ⟨rfl, rfl⟩
    go_wp2_with fail
    (try simp only [Exit.inBlock, Exit.then])
    exact bodyPost_ret (results_none rfl _ _ _) rfl ⟨rfl, by rw [HS.out]; exact HG.out, Touch.refl _ _⟩
  · have H := Lib.hid hi
    have HS := Lib.hid (show PGram.sentL L i n c = PGram.put L i ⟨(PGram.at_ L i).boot, n, c, true⟩ from if_pos hi)
    obtain ⟨k, hk, rfl⟩ := PGram.isId_yes hi
    rw [PGram.at_k, PGram.put_k] at HS
    obtain ⟨o, ho⟩ : ∃ o, L.getD k PGram.zero = o := ⟨_, rfl⟩
    rw [ho] at HS
    obtain ⟨q0, q1, q2, q3⟩ := h.cells hk ho
    have f0 := h.1.free (1 + k * 4)
    have f1 := h.1.free (1 + k * 4 + 1)
    have f2 := h.1.free (1 + k * 4 + 2)
    have f3 := h.1.free (1 + k * 4 + 3)
    have HG := Lib.hid h
    have HO := Lib.hid ho
    have HK := Lib.hid (show k < L.length by rw [h.2]; exact hk)
    clear hi h ho
    go_enter Tryd.func16, Tryd.ntmps16
    go_wp2_with fail
    refine (isID_c w _).mono ?_
    rw [H.out]
    rintro e w' ⟨rfl, rfl⟩
    go_wp2_with fail
    refine (other_c w g k hk _ rfl).mono ?_
    rintro e w' ⟨rfl, rfl⟩
    go_wp2_with fail
    go_end0
    have G1 := HG.out.set hk HO.out (j := 1) (by omega) (o' := ⟨o.boot, n, o.clk, o.sent⟩) (v := .int .i64 n) rfl
    have G2 := G1.set hk (set_get HK.out _) (j := 2) (by omega) (o' := ⟨o.boot, n, c, o.sent⟩) (v := .int .i64 c) rfl
    rw [set_set] at G2
    have G3 := G2.set hk (set_get HK.out _) (j := 3) (by omega) (o' := ⟨o.boot, n, c, true⟩) (v := .bool true) rfl
    rw [set_set] at G3
    refine ⟨rfl, by rw [HS.out]; exact G3, (((Touch.refl _ _).cell (by simp) _ _).cell (by simp) _ _).cell (by simp) _ _⟩
end Go.Proofs.YtfijjdahoimoeaaDoor

/- Contracts of entries: isIn, May, Same, Eq, of the program and of the document. -/
namespace Go.Proofs.YtfijjdahoimoeaaDoor
open Go.RowKit

theorem isIn_c (w : World) (n lo hi : Int) :
    Calls Tryd.prog 70 #[.int .i64 n, .int .i64 lo, .int .i64 hi] w fun e w' => e = .returned (.bool (decide (lo ≤ n ∧ n ≤ hi))) ∧ w = w' := by
  obtain ⟨r, HR⟩ : ∃ r, decide (lo ≤ n ∧ n ≤ hi) = r := ⟨_, rfl⟩
  rw [HR]
  by_cases h1 : lo ≤ n
  · by_cases h2 : n ≤ hi
    · have H := Lib.hid (HR.symm.trans (decide_eq_true (And.intro h1 h2)))
      clear HR
      go_enter Tryd.func70, Tryd.ntmps70
      go_wp2
      go_ret
      exact ⟨by rw [H.out]; rfl, rfl⟩
    · have H := Lib.hid (HR.symm.trans (decide_eq_false (fun h : lo ≤ n ∧ n ≤ hi => h2 h.2)))
      clear HR
      go_enter Tryd.func70, Tryd.ntmps70
      go_wp2
      go_ret
      exact ⟨by rw [H.out]; rfl, rfl⟩
  · have H := Lib.hid (HR.symm.trans (decide_eq_false (fun h : lo ≤ n ∧ n ≤ hi => h1 h.1)))
    clear HR
    go_enter Tryd.func70, Tryd.ntmps70
    go_wp2
    go_ret
    exact ⟨by rw [H.out]; rfl, rfl⟩

set_option maxRecDepth 100000 in
theorem May_c (w : World) (e : Ent) : Calls Tryd.prog 66 #[ev e] w fun x w' => x = .returned (.bool (PEnt.may e)) ∧ Below w.heap.size w w' := by
  obtain ⟨fr, boot, seq, ord, lev, stamp, data⟩ := e
  by_cases h0 : ¬ (1 ≤ fr ∧ fr ≤ 7)
  · have HM := Lib.hid (show PEnt.may ⟨fr, boot, seq, ord, lev, stamp, data⟩ = false from decide_eq_false (fun h => h0 h.1))
    have D0 := Lib.hid (decide_eq_false h0)
    clear h0
    show Calls _ _ #[.agg #[.int .i64 fr, .int .i64 boot, .int .i64 seq, .int .i64 ord, .int .i64 lev, .int .i64 stamp, .string data]] _ _
    go_enter Tryd.func66, Tryd.ntmps66
    go_wp2_with fail
    refine (isIn_c _ fr 1 7).mono ?_
    rw [D0.out]
    rintro e w1 ⟨rfl, rfl⟩
    go_wp2_with fail
    go_ret
    exact ⟨by rw [HM.out]; rfl, (Below.refl _ _).alloc (Nat.le_refl _) _⟩
  replace h0 := Decidable.of_not_not h0
  by_cases h1 : ¬ (1 ≤ boot ∧ boot ≤ 1099511627776)
  · have HM := Lib.hid (show PEnt.may ⟨fr, boot, seq, ord, lev, stamp, data⟩ = false from decide_eq_false (fun h => h1 h.2.1))
    have D0 := Lib.hid (decide_eq_true h0)
    have D1 := Lib.hid (decide_eq_false h1)
    clear h0 h1
    show Calls _ _ #[.agg #[.int .i64 fr, .int .i64 boot, .int .i64 seq, .int .i64 ord, .int .i64 lev, .int .i64 stamp, .string data]] _ _
    go_enter Tryd.func66, Tryd.ntmps66
    go_wp2_with fail
    refine (isIn_c _ fr 1 7).mono ?_
    rw [D0.out]
    rintro e w1 ⟨rfl, rfl⟩
    go_wp2_with fail
    refine (isIn_c _ boot 1 1099511627776).mono ?_
    rw [D1.out]
    rintro e w1 ⟨rfl, rfl⟩
    go_wp2_with fail
    go_ret
    exact ⟨by rw [HM.out]; rfl, (Below.refl _ _).alloc (Nat.le_refl _) _⟩
  replace h1 := Decidable.of_not_not h1
  by_cases h2 : ¬ (1 ≤ seq ∧ seq ≤ 1099511627776)
  · have HM := Lib.hid (show PEnt.may ⟨fr, boot, seq, ord, lev, stamp, data⟩ = false from decide_eq_false (fun h => h2 h.2.2.1))
    have D0 := Lib.hid (decide_eq_true h0)
    have D1 := Lib.hid (decide_eq_true h1)
    have D2 := Lib.hid (decide_eq_false h2)
    clear h0 h1 h2
    show Calls _ _ #[.agg #[.int .i64 fr, .int .i64 boot, .int .i64 seq, .int .i64 ord, .int .i64 lev, .int .i64 stamp, .string data]] _ _
    go_enter Tryd.func66, Tryd.ntmps66
    go_wp2_with fail
    refine (isIn_c _ fr 1 7).mono ?_
    rw [D0.out]
    rintro e w1 ⟨rfl, rfl⟩
    go_wp2_with fail
    refine (isIn_c _ boot 1 1099511627776).mono ?_
    rw [D1.out]
    rintro e w1 ⟨rfl, rfl⟩
    go_wp2_with fail
    refine (isIn_c _ seq 1 1099511627776).mono ?_
    rw [D2.out]
    rintro e w1 ⟨rfl, rfl⟩
    go_wp2_with fail
    go_ret
    exact ⟨by rw [HM.out]; rfl, (Below.refl _ _).alloc (Nat.le_refl _) _⟩
  replace h2 := Decidable.of_not_not h2
  by_cases h3 : ¬ (0 ≤ ord ∧ ord ≤ 2)
  · have HM := Lib.hid (show PEnt.may ⟨fr, boot, seq, ord, lev, stamp, data⟩ = false from decide_eq_false (fun h => h3 h.2.2.2.1))
    have D0 := Lib.hid (decide_eq_true h0)
    have D1 := Lib.hid (decide_eq_true h1)
    have D2 := Lib.hid (decide_eq_true h2)
    have D3 := Lib.hid (decide_eq_false h3)
    clear h0 h1 h2 h3
    show Calls _ _ #[.agg #[.int .i64 fr, .int .i64 boot, .int .i64 seq, .int .i64 ord, .int .i64 lev, .int .i64 stamp, .string data]] _ _
    go_enter Tryd.func66, Tryd.ntmps66
    go_wp2_with fail
    refine (isIn_c _ fr 1 7).mono ?_
    rw [D0.out]
    rintro e w1 ⟨rfl, rfl⟩
    go_wp2_with fail
    refine (isIn_c _ boot 1 1099511627776).mono ?_
    rw [D1.out]
    rintro e w1 ⟨rfl, rfl⟩
    go_wp2_with fail
    refine (isIn_c _ seq 1 1099511627776).mono ?_
    rw [D2.out]
    rintro e w1 ⟨rfl, rfl⟩
    go_wp2_with fail
    refine (isIn_c _ ord 0 2).mono ?_
    rw [D3.out]
    rintro e w1 ⟨rfl, rfl⟩
    go_wp2_with fail
    go_ret
    exact ⟨by rw [HM.out]; rfl, (Below.refl _ _).alloc (Nat.le_refl _) _⟩
  replace h3 := Decidable.of_not_not h3
  by_cases h4 : ¬ (0 ≤ lev ∧ lev ≤ 2)
  · have HM := Lib.hid (show PEnt.may ⟨fr, boot, seq, ord, lev, stamp, data⟩ = false from decide_eq_false (fun h => h4 h.2.2.2.2.1))
    have D0 := Lib.hid (decide_eq_true h0)
    have D1 := Lib.hid (decide_eq_true h1)
    have D2 := Lib.hid (decide_eq_true h2)
    have D3 := Lib.hid (decide_eq_true h3)
    have D4 := Lib.hid (decide_eq_false h4)
    clear h0 h1 h2 h3 h4
    show Calls _ _ #[.agg #[.int .i64 fr, .int .i64 boot, .int .i64 seq, .int .i64 ord, .int .i64 lev, .int .i64 stamp, .string data]] _ _
    go_enter Tryd.func66, Tryd.ntmps66
    go_wp2_with fail
    refine (isIn_c _ fr 1 7).mono ?_
    rw [D0.out]
    rintro e w1 ⟨rfl, rfl⟩
    go_wp2_with fail
    refine (isIn_c _ boot 1 1099511627776).mono ?_
    rw [D1.out]
    rintro e w1 ⟨rfl, rfl⟩
    go_wp2_with fail
    refine (isIn_c _ seq 1 1099511627776).mono ?_
    rw [D2.out]
    rintro e w1 ⟨rfl, rfl⟩
    go_wp2_with fail
    refine (isIn_c _ ord 0 2).mono ?_
    rw [D3.out]
    rintro e w1 ⟨rfl, rfl⟩
    go_wp2_with fail
    refine (isIn_c _ lev 0 2).mono ?_
    rw [D4.out]
    rintro e w1 ⟨rfl, rfl⟩
    go_wp2_with fail
    go_ret
    exact ⟨by rw [HM.out]; rfl, (Below.refl _ _).alloc (Nat.le_refl _) _⟩
  replace h4 := Decidable.of_not_not h4
  by_cases h5 : ¬ (0 ≤ stamp ∧ stamp ≤ 1099511627776)
  · have HM := Lib.hid (show PEnt.may ⟨fr, boot, seq, ord, lev, stamp, data⟩ = false from decide_eq_false (fun h => h5 h.2.2.2.2.2.1))
    have D0 := Lib.hid (decide_eq_true h0)
    have D1 := Lib.hid (decide_eq_true h1)
    have D2 := Lib.hid (decide_eq_true h2)
    have D3 := Lib.hid (decide_eq_true h3)
    have D4 := Lib.hid (decide_eq_true h4)
    have D5 := Lib.hid (decide_eq_false h5)
    clear h0 h1 h2 h3 h4 h5
    show Calls _ _ #[.agg #[.int .i64 fr, .int .i64 boot, .int .i64 seq, .int .i64 ord, .int .i64 lev, .int .i64 stamp, .string data]] _ _
    go_enter Tryd.func66, Tryd.ntmps66
    go_wp2_with fail
    refine (isIn_c _ fr 1 7).mono ?_
    rw [D0.out]
    rintro e w1 ⟨rfl, rfl⟩
    go_wp2_with fail
    refine (isIn_c _ boot 1 1099511627776).mono ?_
    rw [D1.out]
    rintro e w1 ⟨rfl, rfl⟩
    go_wp2_with fail
    refine (isIn_c _ seq 1 1099511627776).mono ?_
    rw [D2.out]
    rintro e w1 ⟨rfl, rfl⟩
    go_wp2_with fail
    refine (isIn_c _ ord 0 2).mono ?_
    rw [D3.out]
    rintro e w1 ⟨rfl, rfl⟩
    go_wp2_with fail
    refine (isIn_c _ lev 0 2).mono ?_
    rw [D4.out]
    rintro e w1 ⟨rfl, rfl⟩
    go_wp2_with fail
    refine (isIn_c _ stamp 0 1099511627776).mono ?_
    rw [D5.out]
    rintro e w1 ⟨rfl, rfl⟩
    go_wp2_with fail
    go_ret
    exact ⟨by rw [HM.out]; rfl, (Below.refl _ _).alloc (Nat.le_refl _) _⟩
  replace h5 := Decidable.of_not_not h5
  by_cases h6 : ¬ (data.size ≤ 16)
  · have HM := Lib.hid (show PEnt.may ⟨fr, boot, seq, ord, lev, stamp, data⟩ = false from decide_eq_false (fun h => h6 h.2.2.2.2.2.2))
    have D0 := Lib.hid (decide_eq_true h0)
    have D1 := Lib.hid (decide_eq_true h1)
    have D2 := Lib.hid (decide_eq_true h2)
    have D3 := Lib.hid (decide_eq_true h3)
    have D4 := Lib.hid (decide_eq_true h4)
    have D5 := Lib.hid (decide_eq_true h5)
    clear h0 h1 h2 h3 h4 h5
    show Calls _ _ #[.agg #[.int .i64 fr, .int .i64 boot, .int .i64 seq, .int .i64 ord, .int .i64 lev, .int .i64 stamp, .string data]] _ _
    go_enter Tryd.func66, Tryd.ntmps66
    go_wp2_with fail
    refine (isIn_c _ fr 1 7).mono ?_
    rw [D0.out]
    rintro e w1 ⟨rfl, rfl⟩
    go_wp2_with fail
    refine (isIn_c _ boot 1 1099511627776).mono ?_
    rw [D1.out]
    rintro e w1 ⟨rfl, rfl⟩
    go_wp2_with fail
    refine (isIn_c _ seq 1 1099511627776).mono ?_
    rw [D2.out]
    rintro e w1 ⟨rfl, rfl⟩
    go_wp2_with fail
    refine (isIn_c _ ord 0 2).mono ?_
    rw [D3.out]
    rintro e w1 ⟨rfl, rfl⟩
    go_wp2_with fail
    refine (isIn_c _ lev 0 2).mono ?_
    rw [D4.out]
    rintro e w1 ⟨rfl, rfl⟩
    go_wp2_with fail
    refine (isIn_c _ stamp 0 1099511627776).mono ?_
    rw [D5.out]
    rintro e w1 ⟨rfl, rfl⟩
    go_wp2_with fail
    go_ret
    exact ⟨by rw [HM.out]; show Ending.returned (.bool (decide ((data.size : Int) ≤ 16))) = _; rw [decide_eq_false (by omega)], (Below.refl _ _).alloc (Nat.le_refl _) _⟩
  replace h6 := Decidable.of_not_not h6
  have HM := Lib.hid (show PEnt.may ⟨fr, boot, seq, ord, lev, stamp, data⟩ = true from decide_eq_true ⟨h0, h1, h2, h3, h4, h5, h6⟩)
  have D0 := Lib.hid (decide_eq_true h0)
  have D1 := Lib.hid (decide_eq_true h1)
  have D2 := Lib.hid (decide_eq_true h2)
  have D3 := Lib.hid (decide_eq_true h3)
  have D4 := Lib.hid (decide_eq_true h4)
  have D5 := Lib.hid (decide_eq_true h5)
  clear h0 h1 h2 h3 h4 h5
  show Calls _ _ #[.agg #[.int .i64 fr, .int .i64 boot, .int .i64 seq, .int .i64 ord, .int .i64 lev, .int .i64 stamp, .string data]] _ _
  go_enter Tryd.func66, Tryd.ntmps66
  go_wp2_with fail
  refine (isIn_c _ fr 1 7).mono ?_
  rw [D0.out]
  rintro e w1 ⟨rfl, rfl⟩
  go_wp2_with fail
  refine (isIn_c _ boot 1 1099511627776).mono ?_
  rw [D1.out]
  rintro e w1 ⟨rfl, rfl⟩
  go_wp2_with fail
  refine (isIn_c _ seq 1 1099511627776).mono ?_
  rw [D2.out]
  rintro e w1 ⟨rfl, rfl⟩
  go_wp2_with fail
  refine (isIn_c _ ord 0 2).mono ?_
  rw [D3.out]
  rintro e w1 ⟨rfl, rfl⟩
  go_wp2_with fail
  refine (isIn_c _ lev 0 2).mono ?_
  rw [D4.out]
  rintro e w1 ⟨rfl, rfl⟩
  go_wp2_with fail
  refine (isIn_c _ stamp 0 1099511627776).mono ?_
  rw [D5.out]
  rintro e w1 ⟨rfl, rfl⟩
  go_wp2_with fail
  go_ret
  exact ⟨by rw [HM.out]; show Ending.returned (.bool (decide ((data.size : Int) ≤ 16))) = _; rw [decide_eq_true (by omega)], (Below.refl _ _).alloc (Nat.le_refl _) _⟩
end Go.Proofs.YtfijjdahoimoeaaDoor

/- Six numbers by value; what is owned from further up; an array by value asked. -/
namespace Go.Proofs.YtfijjdahoimoeaaDoor
open Go.RowKit


/-- An entry's numbers, as an array by value. -/
def nv (e : Ent) : Value := .agg #[.int .i64 e.fr, .int .i64 e.boot, .int .i64 e.seq, .int .i64 e.ord, .int .i64 e.lev, .int .i64 e.stamp]
/-- What is a later world's own is an elder one's own. -/
theorem own_from {w : World} {base b0 : Nat} {e : TypeId} {k n : Nat} {v : Value} {xs : List Value} (h : w.ownsRow base e k v n xs) (hb : b0 ≤ base) : w.ownsRow b0 e k v n xs := by
  refine ⟨h.1, ?_⟩
  rcases h.2 with h2 | ⟨g, cap, cur, h1, h2, h3⟩
  · exact .inl h2
  · exact .inr ⟨g, cap, cur, h1, Nat.le_trans hb h2, h3⟩
section
variable {P : Program}
theorem run_part1 {w : World} {e : TypeId} {cs : List Value} {i : Nat} {u : Value} (ha : (isAgg e).run P w = .ok false w) (hu : cs[i]? = some u) : (part e cs.toArray i).run P w = .ok u w := by
  unfold part
  simp [Sem.run_bind, ha, hu]
/-- 'a[i]' of an array by value, its elements of one cell. -/
theorem wpList_index1 {w : World} {ops : Array Oper} {rest : List Oper} {o : Oper} {a : Act} {Q : Exit → Act → World → Prop} (hgd : o.guard = none) (t : TypeId) (x ix : Operand) (ho : o.op = .index t x ix)
    (n : Nat) (e : TypeId) (ht : P.underlying t = some (.array n e)) (ha : ∀ w, (isAgg e).run P w = .ok false w) (hz : ∀ w, (sizeOf e).run P w = .ok 1 w)
    (cs : List Value) (hx : a.eval x = .agg cs.toArray) (i : Nat) (hi : a.eval ix = .int .i64 i) (hlt : i < n) (u : Value) (hu : cs[i]? = some u)
    (h : wpList P ops Q rest (a.put o.dst u) w) : wpList P ops Q (o :: rest) a w := by
  refine wpList_plain hgd fun K hK => ?_
  have hrun : (Instr.index t (.agg cs.toArray) (.int .i64 i)).run P w = .ok u w := by
    simp [Instr.index, Sem.run_bind, asIntOf, run_underlying ht, hlt, hz, run_part1 (ha w) hu]
  unfold Oper.wp execOp
  simp only [ho, hx, hi, Sem.run_bind, hrun, Result.andThen_ok, Sem.run_pure]
  exact hK _ _ h
end
theorem encN_snoc {l : List Int} {i : Nat} {x : Int} (h : l[i]? = some x) : PEnt.encN (l.take (i + 1)) = PEnt.encN (l.take i) ++ PNum.sev (PNum.zig x) := by
  obtain ⟨hi, he⟩ := List.getElem?_eq_some_iff.1 h
  rw [List.take_succ_eq_append_getElem hi, PEnt.encN_append, he]
  simp [PEnt.encN]
end Go.Proofs.YtfijjdahoimoeaaDoor

/- Small facts of encoded lists. -/
namespace Go.Proofs.YtfijjdahoimoeaaDoor
open Go.RowKit


theorem all_snoc {l : List Ent} {i : Nat} {e : Ent} (h : l[i]? = some e) : (l.take (i + 1)).all PEnt.may = ((l.take i).all PEnt.may && PEnt.may e) := by
  obtain ⟨hi, he⟩ := List.getElem?_eq_some_iff.1 h
  rw [List.take_succ_eq_append_getElem hi, he]; simp
theorem enc_snoc {l : List Ent} {i : Nat} {e : Ent} (h : l[i]? = some e) : PEnt.enc (l.take (i + 1)) = PEnt.enc (l.take i) ++ PEnt.encE e := by
  obtain ⟨hi, he⟩ := List.getElem?_eq_some_iff.1 h
  rw [List.take_succ_eq_append_getElem hi, PEnt.enc_append, he]; simp [PEnt.enc]
theorem encode_bad {l : List Ent} {e : Ent} (hm : e ∈ l) (h : PEnt.may e = false) : PEnt.encode l = [] := by
  unfold PEnt.encode
  rw [if_neg]
  intro ha
  have := List.all_eq_true.1 ha e hm
  rw [h] at this; cases this
theorem encode_good {l : List Ent} (h : l.all PEnt.may = true) : PEnt.encode l = PEnt.enc l := if_pos h
end Go.Proofs.YtfijjdahoimoeaaDoor

