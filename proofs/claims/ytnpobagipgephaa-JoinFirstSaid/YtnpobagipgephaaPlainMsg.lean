/- Plain mathematics of messages: which may be, which are the same. No program is named here. -/
import Derived.Test.YtnpobagipgephaaPlainEnt
namespace Go.Proofs.Ytnpobagipgephaa

/-- A message. -/
structure Msg where
  kind : Int
  fr : Int
  dst : Int
  boot : Int
  view : Int
  last : Int
  mem : Int
  pos : Int
  es : List Ent
  com : Int
  num : Int
  clk : Int
  yes : Bool

namespace PMsg

/-- It may be. -/
def May (m : Msg) : Prop := (1 ≤ m.kind ∧ m.kind ≤ 13) ∧ (1 ≤ m.fr ∧ m.fr ≤ 7) ∧ (1 ≤ m.dst ∧ m.dst ≤ 7) ∧ m.fr ≠ m.dst ∧ (1 ≤ m.boot ∧ m.boot ≤ 1099511627776) ∧ (0 ≤ m.view ∧ m.view ≤ 1099511627776) ∧ (0 ≤ m.last ∧ m.last ≤ 1099511627776) ∧
  (0 ≤ m.mem ∧ m.mem ≤ 127) ∧ (0 ≤ m.pos ∧ m.pos ≤ 60) ∧ (0 ≤ m.com ∧ m.com ≤ 60) ∧ (0 ≤ m.num ∧ m.num ≤ 1099511627776) ∧ (0 ≤ m.clk ∧ m.clk ≤ 1099511627776) ∧ m.es.length ≤ 60 ∧ m.es.all PEnt.may = true
instance (m : Msg) : Decidable (May m) := by unfold May; infer_instance
def may (m : Msg) : Bool := decide (May m)
theorem may_iff (m : Msg) : may m = true ↔ May m := by simp [may]
theorem may_no {m : Msg} : may m = false ↔ ¬ May m := by simp [may]

def bit (b : Bool) : Int := if b = true then 1 else 0
theorem bit_inj {a b : Bool} : bit a = bit b ↔ a = b := by cases a <;> cases b <;> simp [bit]
/-- Its numbers, in the order in which they are written. -/
def ns (m : Msg) : List Int := [m.kind, m.fr, m.dst, m.boot, m.view, m.last, m.mem, m.pos, m.com, m.num, m.clk, bit m.yes, (m.es.length : Int)]
theorem ns_length (m : Msg) : (ns m).length = 13 := rfl
/-- A message of numbers and entries. -/
def ofN (x : List Int) (es : List Ent) : Msg := ⟨x.getD 0 0, x.getD 1 0, x.getD 2 0, x.getD 3 0, x.getD 4 0, x.getD 5 0, x.getD 6 0, x.getD 7 0, es, x.getD 8 0, x.getD 9 0, x.getD 10 0, x.getD 11 0 == 1⟩
theorem ofN_ns (m : Msg) : ofN (ns m) m.es = m := by
  obtain ⟨a, b, c, d, e, f, g, h, i, j, k, l, y⟩ := m
  cases y <;> rfl

/-- The same, number by number; all the same. -/
def eqN (a b : Msg) : Bool := a.kind == b.kind && a.fr == b.fr && a.dst == b.dst && a.boot == b.boot && a.view == b.view && a.last == b.last && a.mem == b.mem && a.pos == b.pos && a.com == b.com && a.num == b.num && a.clk == b.clk && a.yes == b.yes
def eqM (a b : Msg) : Bool := eqN a b && PEnt.eqL a.es b.es
theorem eqM_iff (a b : Msg) : eqM a b = true ↔ a = b := by
  obtain ⟨a0, a1, a2, a3, a4, a5, a6, a7, a8, a9, a10, a11, a12⟩ := a
  obtain ⟨b0, b1, b2, b3, b4, b5, b6, b7, b8, b9, b10, b11, b12⟩ := b
  simp only [eqM, eqN, Bool.and_eq_true, beq_iff_eq, Msg.mk.injEq, PEnt.eqL_iff]
  constructor
  · rintro ⟨⟨⟨⟨⟨⟨⟨⟨⟨⟨⟨⟨h0, h1⟩, h2⟩, h3⟩, h4⟩, h5⟩, h6⟩, h7⟩, h9⟩, h10⟩, h11⟩, h12⟩, h8⟩; exact ⟨h0, h1, h2, h3, h4, h5, h6, h7, h8, h9, h10, h11, h12⟩
  · rintro ⟨h0, h1, h2, h3, h4, h5, h6, h7, h8, h9, h10, h11, h12⟩; exact ⟨⟨⟨⟨⟨⟨⟨⟨⟨⟨⟨⟨h0, h1⟩, h2⟩, h3⟩, h4⟩, h5⟩, h6⟩, h7⟩, h9⟩, h10⟩, h11⟩, h12⟩, h8⟩
theorem eqM_refl (a : Msg) : eqM a a = true := (eqM_iff a a).2 rfl
theorem eqM_no {a b : Msg} (h : a ≠ b) : eqM a b = false := by
  cases h' : eqM a b with
  | false => rfl
  | true => exact absurd ((eqM_iff a b).1 h') h
/-- By the lists of numbers. -/
theorem eqM_ns (a b : Msg) : eqM a b = (decide (ns a = ns b) && PEnt.eqL a.es b.es) := by
  rw [Bool.eq_iff_iff, eqM_iff, Bool.and_eq_true, decide_eq_true_eq, PEnt.eqL_iff]
  constructor
  · rintro rfl; exact ⟨rfl, rfl⟩
  · rintro ⟨h1, h2⟩; rw [← ofN_ns a, ← ofN_ns b, h1, h2]

theorem ns_may {m : Msg} (h : May m) : ∀ x ∈ ns m, 0 ≤ x ∧ x ≤ 1099511627776 := by
  obtain ⟨h0, h1, h2, _, h3, h4, h5, h6, h7, h8, h9, h10, h11, _⟩ := h
  intro x hx
  simp only [ns, List.mem_cons, List.not_mem_nil, or_false] at hx
  rcases hx with rfl | rfl | rfl | rfl | rfl | rfl | rfl | rfl | rfl | rfl | rfl | rfl | rfl
  all_goals first | omega | (unfold bit; split <;> omega)
theorem ns_fit {m : Msg} (h : May m) : ∀ x ∈ ns m, -9223372036854775808 ≤ x ∧ x ≤ 9223372036854775807 := fun x hx => by have := ns_may h x hx; omega

end PMsg
end Go.Proofs.Ytnpobagipgephaa
