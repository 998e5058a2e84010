/- Messages as cells, by value; what is known of one that came in. No program is named here. -/
import Derived.Test.YtnpobagipgephaaPlainMsg
import Derived.Test.YtnpobagipgephaaEnt
import Derived.Test.YtnpobagipgephaaBlk
namespace Go.Proofs.Ytnpobagipgephaa
open Go.RowKit Go.ChangeShapes Go.WideShapes

/-- A message's cells, its entries at A; a message by value; its numbers by value. -/
def mcs (m : Msg) (A : Option Addr) (c : Nat) : List Value := [.int .i64 m.kind, .int .i64 m.fr, .int .i64 m.dst, .int .i64 m.boot, .int .i64 m.view, .int .i64 m.last, .int .i64 m.mem, .int .i64 m.pos, .slice A m.es.length c, .int .i64 m.com, .int .i64 m.num, .int .i64 m.clk, .bool m.yes]
def mv (m : Msg) (A : Option Addr) (c : Nat) : Value := .agg #[.int .i64 m.kind, .int .i64 m.fr, .int .i64 m.dst, .int .i64 m.boot, .int .i64 m.view, .int .i64 m.last, .int .i64 m.mem, .int .i64 m.pos, .slice A m.es.length c, .int .i64 m.com, .int .i64 m.num, .int .i64 m.clk, .bool m.yes]
theorem mv_mcs (m : Msg) (A : Option Addr) (c : Nat) : mv m A c = .agg (mcs m A c).toArray := rfl
def zeroM : Msg := ⟨0, 0, 0, 0, 0, 0, 0, 0, [], 0, 0, 0, false⟩
/-- Thirteen numbers by value; a message's. -/
def nv13 (x : List Int) : Value := .agg (x.map (Value.int .i64)).toArray

/-- What is known of a message that came in. -/
structure MsgOk (m : Msg) : Prop where
  f0 : -9223372036854775808 ≤ m.kind ∧ m.kind ≤ 9223372036854775807
  f1 : -9223372036854775808 ≤ m.fr ∧ m.fr ≤ 9223372036854775807
  f2 : -9223372036854775808 ≤ m.dst ∧ m.dst ≤ 9223372036854775807
  f3 : -9223372036854775808 ≤ m.boot ∧ m.boot ≤ 9223372036854775807
  f4 : -9223372036854775808 ≤ m.view ∧ m.view ≤ 9223372036854775807
  f5 : -9223372036854775808 ≤ m.last ∧ m.last ≤ 9223372036854775807
  f6 : -9223372036854775808 ≤ m.mem ∧ m.mem ≤ 9223372036854775807
  f7 : -9223372036854775808 ≤ m.pos ∧ m.pos ≤ 9223372036854775807
  f9 : -9223372036854775808 ≤ m.com ∧ m.com ≤ 9223372036854775807
  f10 : -9223372036854775808 ≤ m.num ∧ m.num ≤ 9223372036854775807
  f11 : -9223372036854775808 ≤ m.clk ∧ m.clk ≤ 9223372036854775807
  ents : ∀ e ∈ m.es, EntOk e

section
variable {w w' : World} {g : Nat} {t : TypeId} {m : Msg} {A : Option Addr} {c : Nat}
/-- The cells of a block that holds a message. -/
theorem Blk.msg (h : Blk w g t (mcs m A c)) :
    w.cell? ⟨g, 0, none⟩ = some (.int .i64 m.kind) ∧ w.cell? ⟨g, 1, none⟩ = some (.int .i64 m.fr) ∧ w.cell? ⟨g, 2, none⟩ = some (.int .i64 m.dst) ∧ w.cell? ⟨g, 3, none⟩ = some (.int .i64 m.boot) ∧ w.cell? ⟨g, 4, none⟩ = some (.int .i64 m.view) ∧
    w.cell? ⟨g, 5, none⟩ = some (.int .i64 m.last) ∧ w.cell? ⟨g, 6, none⟩ = some (.int .i64 m.mem) ∧ w.cell? ⟨g, 7, none⟩ = some (.int .i64 m.pos) ∧ w.cell? ⟨g, 8, none⟩ = some (.slice A m.es.length c) ∧ w.cell? ⟨g, 9, none⟩ = some (.int .i64 m.com) ∧
    w.cell? ⟨g, 10, none⟩ = some (.int .i64 m.num) ∧ w.cell? ⟨g, 11, none⟩ = some (.int .i64 m.clk) ∧ w.cell? ⟨g, 12, none⟩ = some (.bool m.yes) :=
  ⟨h.cell (i := 0) rfl, h.cell (i := 1) rfl, h.cell (i := 2) rfl, h.cell (i := 3) rfl, h.cell (i := 4) rfl, h.cell (i := 5) rfl, h.cell (i := 6) rfl, h.cell (i := 7) rfl, h.cell (i := 8) rfl, h.cell (i := 9) rfl, h.cell (i := 10) rfl, h.cell (i := 11) rfl, h.cell (i := 12) rfl⟩
end

/-- What is known of the cell of field j. -/
def FM (w : World) (j : Nat) (u : Value) : Prop := (j ≠ 8 → j ≠ 12 → ∃ x, u = .int .i64 x ∧ (Lit.int .i64 x).wf = true) ∧ (j = 8 → ∃ (A : Option Addr) (n c : Nat) (l : List Ent), u = .slice A n c ∧ Rd w w.heap.size A c 7 n (els l) ∧ ∀ e ∈ l, EntOk e) ∧ (j = 12 → ∃ b, u = .bool b)
theorem msg_of {w : World} {cs : List Value} (hl : cs.length = 13) (h : ∀ (j : Nat) (u : Value), cs[j]? = some u → FM w j u) : ∃ (m : Msg) (A : Option Addr) (c : Nat), cs = mcs m A c ∧ Rd w w.heap.size A c 7 m.es.length (els m.es) ∧ MsgOk m := by
  match cs, hl with
  | [a0, a1, a2, a3, a4, a5, a6, a7, a8, a9, a10, a11, a12], _ =>
    obtain ⟨x0, rfl, w0⟩ := (h 0 a0 rfl).1 (by omega) (by omega)
    obtain ⟨x1, rfl, w1⟩ := (h 1 a1 rfl).1 (by omega) (by omega)
    obtain ⟨x2, rfl, w2⟩ := (h 2 a2 rfl).1 (by omega) (by omega)
    obtain ⟨x3, rfl, w3⟩ := (h 3 a3 rfl).1 (by omega) (by omega)
    obtain ⟨x4, rfl, w4⟩ := (h 4 a4 rfl).1 (by omega) (by omega)
    obtain ⟨x5, rfl, w5⟩ := (h 5 a5 rfl).1 (by omega) (by omega)
    obtain ⟨x6, rfl, w6⟩ := (h 6 a6 rfl).1 (by omega) (by omega)
    obtain ⟨x7, rfl, w7⟩ := (h 7 a7 rfl).1 (by omega) (by omega)
    obtain ⟨A, n, c, l, rfl, hr, ho⟩ := (h 8 a8 rfl).2.1 rfl
    obtain ⟨x9, rfl, w9⟩ := (h 9 a9 rfl).1 (by omega) (by omega)
    obtain ⟨x10, rfl, w10⟩ := (h 10 a10 rfl).1 (by omega) (by omega)
    obtain ⟨x11, rfl, w11⟩ := (h 11 a11 rfl).1 (by omega) (by omega)
    obtain ⟨b, rfl⟩ := (h 12 a12 rfl).2.2 rfl
    have hn := hr.elen
    subst hn
    exact ⟨⟨x0, x1, x2, x3, x4, x5, x6, x7, l, x9, x10, x11, b⟩, A, c, rfl, hr, ⟨bounds_i64 w0, bounds_i64 w1, bounds_i64 w2, bounds_i64 w3, bounds_i64 w4, bounds_i64 w5, bounds_i64 w6, bounds_i64 w7, bounds_i64 w9, bounds_i64 w10, bounds_i64 w11, ho⟩⟩

section
variable {H : Type} {enc : TypeId × Value → H} {P : Program} {w : World} {base : Nat} {spare : Nat → Bool} {held : Bool}
/-- How a message's fields lie. -/
def MsgT (P : Program) (fs : Array Field) (E : TypeId) : Prop := fs.size = 13 ∧ ∀ (j : Nat) (f : Field), fs[j]? = some f → P.cellsOf f.type = 1 ∧ f.offset = j ∧ (j ≠ 8 → j ≠ 12 → P.underlying f.type = some (.int .i64)) ∧ (j = 8 → P.underlying f.type = some (.slice E)) ∧ (j = 12 → P.underlying f.type = some .bool)
/-- A message by value that came in. -/
theorem open_msg {r : Reach} {b0 : Nat} {t E : TypeId} {fs es : Array Field} {v : Value} {d : DataW H} {ps : List MemPlace} (ht : P.underlying t = some (.struct fs)) (hC : P.cellsOf t = 13) (hT : MsgT P fs E)
    (hE : P.underlying E = some (.struct es)) (hEC : P.cellsOf E = 7) (hET : EntT P es)
    (hval : Value.okWide P w r b0 t v) (hd : DataW.Trod enc P w base spare held t v d ps) : ∃ (m : Msg) (A : Option Addr) (c : Nat), v = mv m A c ∧ Rd w w.heap.size A c 7 m.es.length (els m.es) ∧ MsgOk m := by
  obtain ⟨cs, rfl, hsz⟩ := okWide_struct ht hval
  obtain ⟨fuel, hf⟩ := hd
  obtain ⟨xs, n, rfl, hx, hl, hxl, hfs⟩ := DataW.trod_struct ht hf
  have hl13 : cs.toList.length = 13 := by rw [hC] at hl; exact hl
  obtain ⟨m, A, c, hc, hr, ho⟩ := msg_of (w := w) hl13 (fun j u hu => by
    have hj := (List.getElem?_eq_some_iff.1 hu).1
    have hjf : j < fs.size := by rw [hT.1]; omega
    have hfj := Array.getElem?_eq_getElem hjf
    have hy := hfs j fs[j] hfj
    rw [List.getElem?_eq_getElem (show j < xs.length by omega)] at hy
    obtain ⟨h1, h2, h3, h4, h5⟩ := hT.2 j fs[j] hfj
    have key : ∀ v, (cs.toList.drop fs[j].offset).take (P.cellsOf fs[j].type) = [v] → u = v := by
      intro v hv
      rw [h1, h2] at hv
      have h3 := congrArg (fun q => q[0]?) hv
      simp only [List.getElem?_take, List.getElem?_drop] at h3
      simp only [Nat.lt_succ_self, if_true, Nat.add_zero, List.getElem?_cons_zero] at h3
      exact Option.some.inj (hu.symm.trans h3)
    by_cases e8 : j = 8
    · obtain ⟨A, n, c, l, hcs, hr, ho⟩ := open_ents (h4 e8) hE hEC hET hy
      have := key _ hcs
      exact ⟨fun h => absurd e8 h, fun _ => ⟨A, n, c, l, this, hr, ho⟩, fun h => by omega⟩
    · by_cases e12 : j = 12
      · obtain ⟨b, hcs, _⟩ := DataW.trod_bool (h5 e12) hy
        have := key _ hcs
        exact ⟨fun _ h => absurd e12 h, fun h => absurd h e8, fun _ => ⟨b, this⟩⟩
      · obtain ⟨x, hcs, _, hw⟩ := DataW.trod_int (h3 e8 e12) hy
        have := key _ hcs
        exact ⟨fun _ _ => ⟨x, this, hw⟩, fun h => absurd h e8, fun h => absurd h e12⟩)
  exact ⟨m, A, c, by rw [mv_mcs, ← hc], hr, ho⟩
end
end Go.Proofs.Ytnpobagipgephaa
