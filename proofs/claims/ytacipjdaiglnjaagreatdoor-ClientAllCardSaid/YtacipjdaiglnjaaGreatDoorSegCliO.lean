/- A slice of operations of the laws of a process that came in: structs of two ints, a message, a bool, two ints, a string. No program is named here. -/
import Derived.Test.YtacipjdaiglnjaaGreatDoorSegGramN
namespace Go.Proofs.YtacipjdaiglnjaaGreatDoor
open Go.RowKit Go.ChangeShapes Go.WideShapes Go.Deep

section
variable {H : Type} {enc : TypeId × Value → H} {P : Program} {w : World} {base : Nat} {spare : Nat → Bool} {held : Bool}
/-- What is known of the cell j of an operation. -/
def FL (w : World) (j : Nat) (u : Value) : Prop :=
  (j < 2 ∨ (15 < j ∧ j < 18) → ∃ x, u = .int .i64 x ∧ (Lit.int .i64 x).wf = true) ∧ (2 ≤ j → j < 15 → FM w (j - 2) u) ∧
  (j = 15 → ∃ b, u = .bool b) ∧ (j = 18 → ∃ s, u = .string s ∧ s.size ≤ maxLen)
def AllL (w : World) (z : List Value) : Prop := ∀ (i j : Nat) (u : Value), j < 19 → z[i * 19 + j]? = some u → FL w j u

theorem open_lops {t e E : TypeId} {f0 f1 f2 f3 f4 f5 f6 : Field} {ms es : Array Field} {fuel : Nat} {cs : List Value} {x : DataW H × List MemPlace}
    (ht : P.underlying t = some (.slice e)) (he : P.underlying e = some (.struct #[f0, f1, f2, f3, f4, f5, f6])) (hC : P.cellsOf e = 19)
    (h0 : I1 P f0 0) (h1 : I1 P f1 1) (h4 : I1 P f4 16) (h5 : I1 P f5 17)
    (hM : P.underlying f2.type = some (.struct ms)) (hMC : P.cellsOf f2.type = 13) (hMO : f2.offset = 2) (hMT : MsgT P ms E) (hE : P.underlying E = some (.struct es)) (hEC : P.cellsOf E = 7) (hET : EntT P es)
    (hB : P.underlying f3.type = some .bool) (hBC : P.cellsOf f3.type = 1) (hBO : f3.offset = 15)
    (hS : P.underlying f6.type = some .string) (hSC : P.cellsOf f6.type = 1) (hSO : f6.offset = 18)
    (h : DataW.trod enc P w base spare held fuel t cs = some x) : ∃ (A : Option Addr) (n c : Nat) (z : List Value), cs = [.slice A n c] ∧ Rd w w.heap.size A c 19 n z ∧ AllL w z := by
  refine open_any (F := FL w) ht hC (by decide) (fun fuel cs x hx j u hu => ?_) h
  obtain ⟨xs, n, rfl, _, hl, hxl, hfs⟩ := DataW.trod_struct he hx
  rw [hC] at hl
  have hxl7 : xs.length = 7 := hxl
  have hj : j < 19 := by have := (List.getElem?_eq_some_iff.1 hu).1; omega
  have int1 : ∀ (q : Nat) (f : Field) (o : Nat), (#[f0, f1, f2, f3, f4, f5, f6] : Array Field)[q]? = some f → I1 P f o → q < 7 → ∀ u, cs[o]? = some u → ∃ x, u = .int .i64 x ∧ (Lit.int .i64 x).wf = true := by
    intro q f o hf hi hq u hu
    have hy := hfs q f hf
    rw [List.getElem?_eq_getElem (show q < xs.length by omega)] at hy
    obtain ⟨x, hcs, _, hw⟩ := DataW.trod_int hi.1 hy
    rw [hi.2.1, hi.2.2] at hcs
    exact ⟨x, one_of hu hcs, hw⟩
  refine ⟨fun hjj => ?_, fun h2 h15 => ?_, fun h15 => ?_, fun h18 => ?_⟩
  · rcases (by omega : j = 0 ∨ j = 1 ∨ j = 16 ∨ j = 17) with rfl | rfl | rfl | rfl
    · exact int1 0 f0 0 rfl h0 (by decide) u hu
    · exact int1 1 f1 1 rfl h1 (by decide) u hu
    · exact int1 4 f4 16 rfl h4 (by decide) u hu
    · exact int1 5 f5 17 rfl h5 (by decide) u hu
  · have hy := hfs 2 f2 rfl
    rw [List.getElem?_eq_getElem (show 2 < xs.length by omega), hMC, hMO] at hy
    refine (msg_cells hM hMC hMT hE hEC hET hy).2 (j - 2) u ?_
    rw [List.getElem?_take, if_pos (by omega), List.getElem?_drop, show 2 + (j - 2) = j by omega]
    exact hu
  · subst h15
    have hy := hfs 3 f3 rfl
    rw [List.getElem?_eq_getElem (show 3 < xs.length by omega)] at hy
    obtain ⟨b, hcs, _⟩ := DataW.trod_bool hB hy
    rw [hBC, hBO] at hcs
    exact ⟨b, one_of hu hcs⟩
  · subst h18
    have hy := hfs 6 f6 rfl
    rw [List.getElem?_eq_getElem (show 6 < xs.length by omega)] at hy
    obtain ⟨s, hcs, _, hz⟩ := DataW.trod_string hS hy
    rw [hSC, hSO] at hcs
    exact ⟨s, one_of hu hcs, hz⟩
end

/-- An operation's cells. -/
def lopc (kd n : Int) (m : Msg) (MA : Option Addr) (mc : Nat) (fit : Bool) (ord lev : Int) (dt : ByteArray) : List Value :=
  [.int .i64 kd, .int .i64 n, .int .i64 m.kind, .int .i64 m.fr, .int .i64 m.dst, .int .i64 m.boot, .int .i64 m.view, .int .i64 m.last, .int .i64 m.mem, .int .i64 m.pos, .slice MA m.es.length mc, .int .i64 m.com, .int .i64 m.num, .int .i64 m.clk, .bool m.yes, .bool fit, .int .i64 ord, .int .i64 lev, .string dt]
theorem lop_of {w : World} {cs : List Value} (hl : cs.length = 19) (h : ∀ (j : Nat) (u : Value), j < 19 → cs[j]? = some u → FL w j u) :
    ∃ (kd n : Int) (m : Msg) (MA : Option Addr) (mc : Nat) (fit : Bool) (ord lev : Int) (dt : ByteArray), cs = lopc kd n m MA mc fit ord lev dt ∧
      Rd w w.heap.size MA mc 7 m.es.length (els m.es) ∧ MsgOk m ∧ dt.size ≤ maxLen := by
  match cs, hl with
  | [a0, a1, a2, a3, a4, a5, a6, a7, a8, a9, a10, a11, a12, a13, a14, a15, a16, a17, a18], _ =>
    obtain ⟨kd, rfl, _⟩ := (h 0 a0 (by decide) rfl).1 (by decide)
    obtain ⟨n, rfl, _⟩ := (h 1 a1 (by decide) rfl).1 (by decide)
    obtain ⟨ord, rfl, _⟩ := (h 16 a16 (by decide) rfl).1 (by decide)
    obtain ⟨lev, rfl, _⟩ := (h 17 a17 (by decide) rfl).1 (by decide)
    obtain ⟨fit, rfl⟩ := (h 15 a15 (by decide) rfl).2.2.1 rfl
    obtain ⟨dt, rfl, hdt⟩ := (h 18 a18 (by decide) rfl).2.2.2 rfl
    obtain ⟨m, MA, mc, hm, hr, ho⟩ := msg_of (w := w) (cs := [a2, a3, a4, a5, a6, a7, a8, a9, a10, a11, a12, a13, a14]) rfl (fun j u hu => by
      have hj : j < 13 := by have := (List.getElem?_eq_some_iff.1 hu).1; simpa using this
      have := (h (j + 2) u (by omega) (by
        show (_ :: _ :: ([a2, a3, a4, a5, a6, a7, a8, a9, a10, a11, a12, a13, a14] ++ [_, _, _, _]))[j + 2]? = some u
        rw [List.getElem?_cons_succ, List.getElem?_cons_succ, List.getElem?_append_left (by simpa using hj)]
        exact hu)).2.1 (by omega) (by omega)
      simpa using this)
    unfold mcs at hm
    simp only [List.cons.injEq, and_true] at hm
    obtain ⟨rfl, rfl, rfl, rfl, rfl, rfl, rfl, rfl, rfl, rfl, rfl, rfl, rfl⟩ := hm
    exact ⟨kd, n, m, MA, mc, fit, ord, lev, dt, rfl, hr, ho, hdt⟩

/-- The operation at place i, in a later world. -/
theorem Rd.lop {w w' : World} {c n : Nat} {A : Option Addr} {z : List Value} (h : Rd w w.heap.size A c 19 n z) (hz : AllL w z) (hb : Below w.heap.size w w') {i : Nat} (hi : i < n) :
    ∃ (b o : Nat) (kd k : Int) (m : Msg) (MA : Option Addr) (mc : Nat) (fit : Bool) (ord lev : Int) (dt : ByteArray), A = some ⟨b, o, none⟩ ∧ w'.rangeAt b (o + i * 19) (lopc kd k m MA mc fit ord lev dt) ∧ dt.size ≤ maxLen := by
  have hlen := h.len
  obtain ⟨b, o, hA, _, hc⟩ := (h.below hb).2.2.2.2 (by omega)
  have hl : ((z.drop (i * 19)).take 19).length = 19 := by simp; omega
  obtain ⟨kd, k, m, MA, mc, fit, ord, lev, dt, hcs, h1, h2, h3⟩ := lop_of (w := w) hl (fun j u hj hu => hz i j u hj (by
    rw [List.getElem?_take, if_pos hj, List.getElem?_drop] at hu
    exact hu))
  refine ⟨b, o, kd, k, m, MA, mc, fit, ord, lev, dt, hA, fun j v hv => ?_, h3⟩
  rw [← hcs] at hv
  have hj : j < 19 := by have := (List.getElem?_eq_some_iff.1 hv).1; omega
  rw [List.getElem?_take, if_pos hj, List.getElem?_drop] at hv
  rw [Nat.add_assoc]
  exact hc _ _ hv
end Go.Proofs.YtacipjdaiglnjaaGreatDoor

