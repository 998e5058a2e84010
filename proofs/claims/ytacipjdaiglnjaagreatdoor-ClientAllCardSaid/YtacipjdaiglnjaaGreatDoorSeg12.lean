/- Plain mathematics of messages: their bytes, what is read of bytes. No program is named here. -/
import Derived.Test.YtacipjdaiglnjaaGreatDoorSeg10
import Derived.Test.YtacipjdaiglnjaaGreatDoorSeg1
import Derived.Test.YtacipjdaiglnjaaGreatDoorSeg2
import Derived.Test.YtacipjdaiglnjaaGreatDoorSeg4
import Derived.Test.YtacipjdaiglnjaaGreatDoorSeg6
import Derived.Test.YtacipjdaiglnjaaGreatDoorSeg7
import Derived.Test.YtacipjdaiglnjaaGreatDoorSeg8
import Derived.Test.YtacipjdaiglnjaaGreatDoorSeg9
import Derived.Test.YtacipjdaiglnjaaGreatDoorSeg11
import Derived.BigQuiet
import Derived.Deep.QuietTactic
import Derived.Test.YtacipjdaiglnjaaGreatDoorProg
import Derived.Lib.MinMax
namespace Go.Proofs.YtacipjdaiglnjaaGreatDoor
namespace PMsg

/-- The bytes ahead of the seal; all the bytes, none where it may not be. -/
def body (m : Msg) : List Int := PEnt.encN (ns m) ++ PEnt.enc m.es
def enc (m : Msg) : List Int := if may m = true then PCrc.sealed (body m) else []
theorem enc_yes {m : Msg} (h : may m = true) : enc m = PCrc.sealed (body m) := if_pos h
theorem enc_no {m : Msg} (h : may m = false) : enc m = [] := if_neg (by rw [h]; decide)
theorem body_byte (m : Msg) : isB (body m) := (PEnt.encN_byte _).append (PEnt.enc_byte _)
theorem enc_byte (m : Msg) : isB (enc m) := by
  unfold enc; split
  · exact isB_sealed (body_byte m)
  · intro x hx; simp at hx
theorem body_len {m : Msg} (h : May m) : (body m).length ≤ 5290 := by
  have h1 := PEnt.encN_len (ns m) (ns_fit h)
  have h2 := PEnt.enc_len m.es h.2.2.2.2.2.2.2.2.2.2.2.2.2
  have h3 := h.2.2.2.2.2.2.2.2.2.2.2.2.1
  rw [ns_length] at h1
  unfold body; rw [List.length_append]; omega
theorem enc_len (m : Msg) : (enc m).length ≤ 5294 := by
  unfold enc; split
  · next h => have := body_len ((may_iff m).1 h); rw [sealed_length]; omega
  · simp
/-- What stands in opened bytes. -/
def rd (l : List Int) : Option Msg :=
  match PEnt.rdN 13 l with
  | some (x, p) =>
    match PEnt.dec (l.drop p) with
    | some es => if may (ofN x es) = true ∧ ns (ofN x es) = x then some (ofN x es) else none
    | none => none
  | none => none
/-- What is read of bytes. -/
def dec (l : List Int) : Option Msg := if (openP l).2 = true then rd (openP l).1 else none
theorem dec_enc {m : Msg} (h : may m = true) : dec (enc m) = some m := by
  rw [enc_yes h]
  unfold dec
  rw [openP_sealed (body_byte m), if_pos rfl]
  have hm := (may_iff m).1 h
  have h1 := PEnt.rdN_enc (ns m) (PEnt.enc m.es) (ns_fit hm)
  rw [ns_length] at h1
  unfold rd
  show (match PEnt.rdN 13 (body m) with
  | some (x, p) =>
    match PEnt.dec ((body m).drop p) with
    | some es => if may (ofN x es) = true ∧ ns (ofN x es) = x then some (ofN x es) else none
    | none => none
  | none => none) = some m
  have hb : body m = PEnt.encN (ns m) ++ PEnt.enc m.es := rfl
  rw [hb, h1]
  simp only [List.drop_left, PEnt.dec_enc hm.2.2.2.2.2.2.2.2.2.2.2.2.2, ofN_ns, h, and_self, if_true]
theorem openP_yes {l : List Int} (hb : isB l) (h : (openP l).2 = true) : PCrc.sealed (openP l).1 = l ∧ isB (openP l).1 := by
  rw [openP_by_seal hb] at h ⊢
  by_cases h4 : 4 ≤ l.length ∧ PCrc.sealed (l.take (l.length - 4)) = l
  · rw [if_pos h4]; exact ⟨h4.2, hb.take _⟩
  · rw [if_neg h4] at h; cases h
theorem rd_inv {l : List Int} {m : Msg} (hb : isB l) (h : rd l = some m) : may m = true ∧ body m = l := by
  unfold rd at h
  cases hr : PEnt.rdN 13 l with
  | none => rw [hr] at h; simp at h
  | some q =>
    obtain ⟨x, p⟩ := q
    rw [hr] at h
    simp only at h
    obtain ⟨_, i2, i3, _⟩ := PEnt.rdN_inv 13 l x p hb hr
    cases hd : PEnt.dec (l.drop p) with
    | none => rw [hd] at h; simp at h
    | some es =>
      rw [hd] at h
      simp only at h
      obtain ⟨_, j2, _⟩ := PEnt.dec_inv (hb.drop p) hd
      by_cases hm : may (ofN x es) = true ∧ ns (ofN x es) = x
      · rw [if_pos hm] at h
        obtain rfl := Option.some.inj h
        refine ⟨hm.1, ?_⟩
        unfold body
        rw [hm.2, ← i3]
        show _ ++ PEnt.enc es = _
        rw [j2, List.take_append_drop]
      · rw [if_neg hm] at h; cases h
theorem dec_inv {l : List Int} {m : Msg} (hb : isB l) (h : dec l = some m) : may m = true ∧ enc m = l := by
  unfold dec at h
  cases ho : (openP l).2 with
  | false => rw [ho] at h; simp at h
  | true =>
    rw [ho, if_pos rfl] at h
    obtain ⟨h1, h2⟩ := openP_yes hb ho
    obtain ⟨h3, h4⟩ := rd_inv h2 h
    exact ⟨h3, by rw [enc_yes h3, h4, h1]⟩
end PMsg
end Go.Proofs.YtacipjdaiglnjaaGreatDoor

/- Plain mathematics of times and rates. No program is named here. -/
namespace Go.Proofs.YtacipjdaiglnjaaGreatDoor.PSpan

/-- A time and that it is one; else 0 and false. -/
def ans (a : Int) : Int × Bool := if -1099511627776 ≤ a ∧ a ≤ 1099511627776 then (a, true) else (0, false)
def add (a b : Int) : Int × Bool := if (-1099511627776 ≤ a ∧ a ≤ 1099511627776) ∧ (-1099511627776 ≤ b ∧ b ≤ 1099511627776) then ans (a + b) else (0, false)
def sub (a b : Int) : Int × Bool := if (-1099511627776 ≤ a ∧ a ≤ 1099511627776) ∧ (-1099511627776 ≤ b ∧ b ≤ 1099511627776) then ans (a - b) else (0, false)
/-- May a be by another clock, at such a rate? -/
def Ok (a d : Int) : Prop := 0 ≤ a ∧ a ≤ 1099511627776 ∧ 0 ≤ d ∧ d ≤ 500000
instance (a d : Int) : Decidable (Ok a d) := by unfold Ok; infer_instance
/-- a p / q, upwards and downwards. -/
def up (a p q : Int) : Int := (a * p + q - 1) / q
def dn (a p q : Int) : Int := a * p / q
def most (a d : Int) : Int × Bool := if Ok a d then ans (up a (1000000 + d) (1000000 - d)) else (0, false)
def least (a d : Int) : Int × Bool := if Ok a d then ans (dn a (1000000 - d) (1000000 + d)) else (0, false)

theorem ans_in {a : Int} (h1 : -1099511627776 ≤ a) (h2 : a ≤ 1099511627776) : ans a = (a, true) := if_pos ⟨h1, h2⟩
/-- The parts of a p / q. -/
theorem part (a p q : Int) : a * p = q * (a / q * p) + a % q * p := by
  have e := Int.emod_add_mul_ediv a q
  calc a * p = (a % q + q * (a / q)) * p := by rw [e]
    _ = a % q * p + q * (a / q) * p := Int.add_mul ..
    _ = q * (a / q * p) + a % q * p := by rw [Int.mul_assoc, Int.add_comm]
theorem up_le {a p q x : Int} (hq : 0 < q) (h : a * p ≤ x * q) : up a p q ≤ x := by
  unfold up
  have : (a * p + q - 1) / q < x + 1 := Int.ediv_lt_of_lt_mul hq (by rw [Int.add_mul]; omega)
  omega
theorem le_up {a p q : Int} (hq : 0 < q) : a * p ≤ up a p q * q := by
  unfold up
  have := Int.lt_ediv_add_one_mul_self (a * p + q - 1) hq
  rw [Int.add_mul] at this
  omega
/-- Of times that are not great the answers are times. -/
theorem up_in {a d : Int} (h : 0 ≤ a ∧ a ≤ 274877906944 ∧ 0 ≤ d ∧ d ≤ 500000) : a ≤ up a (1000000 + d) (1000000 - d) ∧ up a (1000000 + d) (1000000 - d) ≤ 1099511627776 := by
  obtain ⟨h1, h2, h3, h4⟩ := h
  have m := Int.mul_nonneg h1 h3
  have m2 : a * d ≤ a * 500000 := Int.mul_le_mul_of_nonneg_left h4 h1
  constructor
  · have := le_up (a := a) (p := 1000000 + d) (q := 1000000 - d) (by omega)
    refine Int.le_of_mul_le_mul_right (a := 1000000 - d) ?_ (by omega)
    rw [Int.mul_add] at this
    rw [Int.mul_sub a]
    omega
  · refine up_le (by omega) ?_
    rw [Int.mul_add, Int.mul_sub]
    omega
theorem most_in {a d : Int} (h : 0 ≤ a ∧ a ≤ 274877906944 ∧ 0 ≤ d ∧ d ≤ 500000) : most a d = (up a (1000000 + d) (1000000 - d), true) := by
  have := up_in h
  unfold most
  rw [if_pos (by unfold Ok; omega), ans_in (by omega) (by omega)]
theorem none (a : Int) : up a (1000000 + 0) (1000000 - 0) = a ∧ dn a (1000000 - 0) (1000000 + 0) = a := by
  unfold up dn; omega
theorem rates {d e : Int} (h : 0 ≤ d ∧ d ≤ e ∧ e ≤ 500000) : (1000000 + d) * (1000000 - e) ≤ (1000000 + e) * (1000000 - d) := by
  have c := Int.mul_comm e d
  simp only [Int.mul_sub, Int.add_mul]
  omega
end Go.Proofs.YtacipjdaiglnjaaGreatDoor.PSpan

/- Plain mathematics of how long a message took. No program is named here. -/
namespace Go.Proofs.YtacipjdaiglnjaaGreatDoor.PDelay
open PSpan (sub add up dn ans)

/-- What went by from x to y, and that there is such a time, not below 0. -/
def went (x y : Int) : Int × Bool := ((sub y x).1, (sub y x).2 && decide (0 ≤ (sub y x).1))
def Rate (p : Int) : Prop := 0 ≤ p ∧ p ≤ 500000
instance (p : Int) : Decidable (Rate p) := by unfold Rate; infer_instance
def raw (a k p : Int) : Int := max 0 (up a 1000000 (1000000 - p) - dn k 1000000 (1000000 + p))
def bound (s h b c p : Int) : Int × Bool :=
  if (went s c).2 = true ∧ (went h b).2 = true ∧ Rate p then add (raw (went s c).1 (went h b).1 p) 0 else (0, false)
def fast (s h b c p m : Int) : Bool := (bound s h b c p).2 && decide ((bound s h b c p).1 ≤ m)

theorem add_zero {a : Int} (h1 : 0 ≤ a) (h2 : a ≤ 1099511627776) : add a 0 = (a, true) := by
  unfold add
  rw [if_pos (by omega), show a + 0 = a by omega, PSpan.ans_in (by omega) h2]
end Go.Proofs.YtacipjdaiglnjaaGreatDoor.PDelay

/- What is known of each process, as plain data. No program is named here. -/
namespace Go.Proofs.YtacipjdaiglnjaaGreatDoor

/-- What is known of a process: its greatest start, the last ping's number and time, whether there was one. -/
structure Oth where
  boot : Int
  num : Int
  clk : Int
  sent : Bool

namespace PGram
def zero : Oth := ⟨0, 0, 0, false⟩
def zeroL : List Oth := List.replicate 7 zero
def isId (i : Int) : Bool := decide (1 ≤ i ∧ i ≤ 7)
def at_ (L : List Oth) (i : Int) : Oth := L.getD (i - 1).toNat zero
def put (L : List Oth) (i : Int) (o : Oth) : List Oth := L.set (i - 1).toNat o
/-- What Hear tells, what it leaves. -/
def herr (me : Int) (L : List Oth) : Option Msg → Int
  | none => 1
  | some m => if m.dst ≠ me then 1 else if m.boot < (at_ L m.fr).boot then 7 else 0
def hmsg (me : Int) (L : List Oth) : Option Msg → Msg
  | none => zeroM
  | some m => if m.dst ≠ me then zeroM else if m.boot < (at_ L m.fr).boot then zeroM else m
def hleft (me : Int) (L : List Oth) : Option Msg → List Oth
  | none => L
  | some m => if m.dst ≠ me then L else if m.boot < (at_ L m.fr).boot then L else put L m.fr { at_ L m.fr with boot := m.boot }
def took (L : List Oth) (m : Msg) (c p : Int) : Int × Bool :=
  if isId m.fr = true ∧ m.kind = 13 ∧ (at_ L m.fr).sent = true ∧ (at_ L m.fr).num = m.num then PDelay.bound (at_ L m.fr).clk m.clk m.clk c p else (0, false)

theorem at_k (L : List Oth) (k : Nat) : at_ L ((k : Int) + 1) = L.getD k zero := by unfold at_; congr 1; omega
theorem put_k (L : List Oth) (k : Nat) (o : Oth) : put L ((k : Int) + 1) o = L.set k o := by unfold put; congr 1; omega
theorem put_len (L : List Oth) (i : Int) (o : Oth) : (put L i o).length = L.length := List.length_set ..
theorem getD_eq {L : List Oth} {k : Nat} (h : k < L.length) : L[k]? = some (L.getD k zero) := by
  rw [List.getD_eq_getElem?_getD, List.getElem?_eq_getElem h]; rfl
end PGram

/-- A process as cells; all of them, behind who one is oneself. -/
def ocs (o : Oth) : List Value := [.int .i64 o.boot, .int .i64 o.num, .int .i64 o.clk, .bool o.sent]
def olds (L : List Oth) : List Value := L.flatMap ocs
def gcs (me : Int) (L : List Oth) : List Value := .int .i64 me :: olds L
theorem olds_cons (o : Oth) (L : List Oth) : olds (o :: L) = ocs o ++ olds L := rfl
theorem olds_at {L : List Oth} {k : Nat} {o : Oth} (h : L[k]? = some o) {j : Nat} (hj : j < 4) : (olds L)[k * 4 + j]? = (ocs o)[j]? := by
  induction L generalizing k with
  | nil => simp at h
  | cons a L ih =>
    cases k with
    | zero =>
      simp at h; subst h
      rw [olds_cons, List.getElem?_append_left (by simp [ocs]; omega)]; simp
    | succ k =>
      rw [olds_cons, List.getElem?_append_right (by simp [ocs]; omega), ← ih (by simpa using h)]
      congr 1; simp [ocs]; omega
theorem gcs_at {me : Int} {L : List Oth} {k : Nat} {o : Oth} (h : L[k]? = some o) {j : Nat} (hj : j < 4) : (gcs me L)[1 + k * 4 + j]? = (ocs o)[j]? := by
  rw [← olds_at h hj, gcs, show 1 + k * 4 + j = (k * 4 + j) + 1 by omega, List.getElem?_cons_succ]
theorem olds_set {L : List Oth} {k : Nat} {o : Oth} (h : L[k]? = some o) {j : Nat} (hj : j < 4) {o' : Oth} {v : Value} (e : (ocs o).set j v = ocs o') : (olds L).set (k * 4 + j) v = olds (L.set k o') := by
  induction L generalizing k with
  | nil => simp at h
  | cons a L ih =>
    cases k with
    | zero =>
      simp at h; subst h
      rw [olds_cons, List.set_append_left _ _ (by simp [ocs]; omega)]
      simp only [Nat.zero_mul, Nat.zero_add, List.set_cons_zero]
      rw [olds_cons, e]
    | succ k =>
      rw [olds_cons, List.set_append_right _ _ (by simp [ocs]; omega), List.set_cons_succ, olds_cons, ← ih (by simpa using h)]
      congr 2; simp [ocs]; omega
theorem gcs_set {me : Int} {L : List Oth} {k : Nat} {o : Oth} (h : L[k]? = some o) {j : Nat} (hj : j < 4) {o' : Oth} {v : Value} (e : (ocs o).set j v = ocs o') : (gcs me L).set (1 + k * 4 + j) v = gcs me (L.set k o') := by
  rw [gcs, show 1 + k * 4 + j = (k * 4 + j) + 1 by omega, List.set_cons_succ, olds_set h hj e, gcs]
end Go.Proofs.YtacipjdaiglnjaaGreatDoor

/- Contracts of package gram: isID, New, other. -/
namespace Go.Proofs.YtacipjdaiglnjaaGreatDoor
open Go.RowKit

/-- The gram at block g: who one is oneself, what is known of each. -/
def Gm (w : World) (g : Nat) (me : Int) (L : List Oth) : Prop := Blk w g 150 (gcs me L) ∧ L.length = 7

section
variable {w w' : World} {g : Nat} {me : Int} {L : List Oth}
theorem Gm.cells (h : Gm w g me L) {k : Nat} (hk : k < 7) {o : Oth} (ho : L.getD k PGram.zero = o) :
    w.cell? ⟨g, 1 + k * 4, none⟩ = some (.int .i64 o.boot) ∧ w.cell? ⟨g, 1 + k * 4 + 1, none⟩ = some (.int .i64 o.num) ∧ w.cell? ⟨g, 1 + k * 4 + 2, none⟩ = some (.int .i64 o.clk) ∧ w.cell? ⟨g, 1 + k * 4 + 3, none⟩ = some (.bool o.sent) := by
  have e := PGram.getD_eq (show k < L.length by rw [h.2]; exact hk)
  rw [ho] at e
  exact ⟨h.1.cell (by have := gcs_at (me := me) e (j := 0) (by omega); exact this), h.1.cell (gcs_at e (j := 1) (by omega)), h.1.cell (gcs_at e (j := 2) (by omega)), h.1.cell (gcs_at e (j := 3) (by omega))⟩
/-- One cell of a process is written. -/
theorem Gm.set (h : Gm w g me L) {k : Nat} (hk : k < 7) {o : Oth} (ho : L.getD k PGram.zero = o) {j : Nat} (hj : j < 4) {o' : Oth} {v : Value} (e : (ocs o).set j v = ocs o') : Gm (w.setCell ⟨g, 1 + k * 4 + j, none⟩ v) g me (L.set k o') := by
  have e0 := PGram.getD_eq (show k < L.length by rw [h.2]; exact hk)
  rw [ho] at e0
  refine ⟨?_, by rw [List.length_set]; exact h.2⟩
  rw [← gcs_set e0 hj e]
  exact h.1.set _ _
theorem Gm.self (h : Gm w g me L) : w.cell? ⟨g, 0, none⟩ = some (.int .i64 me) := h.1.cell rfl
theorem Gm.past (h : Gm w g me L) (b : Below w.heap.size w w') : Gm w' g me L := ⟨h.1.past b, h.2⟩
theorem Gm.drew (h : Gm w g me L) : Gm w.drew g me L := h
theorem Gm.far (h : Gm w g me L) {S : List Nat} (ht : Touch S w w') (hg : g ∉ S) : Gm w' g me L := ⟨h.1.touch ht hg, h.2⟩
end

theorem isID_c (w : World) (i : Int) :
    Calls Tryz.prog 86 #[.int .i64 i] w fun e w' => e = .returned (.bool (PGram.isId i)) ∧ w = w' := by
  have H := Lib.hid (show PGram.isId i = (decide (1 ≤ i) && decide (i ≤ 7)) from Bool.decide_and ..)
  by_cases h1 : 1 ≤ i <;> by_cases h2 : i ≤ 7
  all_goals
    go_enter Tryz.func86, Tryz.ntmps86
    go_wp2_with fail
    go_ret
    exact ⟨by rw [H.out]; simp [h1, h2], rfl⟩

theorem gNew_yes (w : World) (i : Int) (h : PGram.isId i = true) :
    Calls Tryz.prog 50 #[.int .i64 i] w fun e w' => e = .returned (.pointer (some ⟨w.heap.size, 0, none⟩)) ∧ Gm w' w.heap.size i PGram.zeroL ∧ Below w.heap.size w w' := by
  have H := Lib.hid h
  clear h
  go_enter Tryz.func50, Tryz.ntmps50
  go_wp2_with fail
  refine (isID_c w i).mono ?_
  rw [H.out]
  rintro e w' ⟨rfl, rfl⟩
  go_wp2_with fail
  go_ret
  exact ⟨rfl, ⟨Blk.new w (gcs i PGram.zeroL).toArray _, rfl⟩, (Below.refl _ _).alloc (Nat.le_refl _) _⟩

theorem other_c (w : World) (g k : Nat) (hk : k < 7) (i : Int) (hi : i = (k : Int) + 1) :
    Calls Tryz.prog 88 #[.pointer (some ⟨g, 0, none⟩), .int .i64 i] w fun e w' => e = .returned (.pointer (some ⟨g, 1 + k * 4, none⟩)) ∧ w = w' := by
  subst hi
  go_enter Tryz.func88, Tryz.ntmps88
  go_wp2_with fail
  go_ret
  exact ⟨rfl, rfl⟩

theorem set_set (L : List Oth) (k : Nat) (o o' : Oth) : (L.set k o).set k o' = L.set k o' := List.set_set ..

end Go.Proofs.YtacipjdaiglnjaaGreatDoor

/- A process: its own cells, and the objects that it keeps, side by side. -/
namespace Go.Proofs.YtacipjdaiglnjaaGreatDoor
open Go.RowKit

/-- A question that waits. -/
structure Qn where
  fr : Int
  num : Int
  probe : Int
def qns (l : List Qn) : List Value := l.flatMap fun q => [.int .i64 q.fr, .int .i64 q.num, .int .i64 q.probe]
/-- What is kept of the view that it decides: the quorum; how long the log was; who was heard when, and who at all; the questions. -/
structure Te where
  m : Nat
  H : List Int
  P : List Int
  ql : Int
  start : Int
  word : List Int
  ans : Nat
  qs : List Qn
def tecs (qg : Nat) (t : Te) (A : Option Addr) (c : Nat) : List Value := [.pointer (some ⟨qg, 0, none⟩), .int .i64 t.start] ++ is t.word ++ [.int .i64 t.ans, .slice A t.qs.length c]
/-- It at block g. -/
def Tm (w : World) (g : Nat) (F : List Nat) (n id : Int) (t : Te) : Prop :=
  ∃ qg A c, Blk w g 173 (tecs qg t A c) ∧ Qs w qg n id t.m t.H t.P t.ql ∧ Og w 0 176 3 A t.qs.length c (qns t.qs) ∧ F = g :: qg :: bl A

/-- A process as plain data. -/
structure Np where
  id : Int
  n : Int
  boot : Int
  pro : Int
  clock : Int
  heard : Int
  knows : Bool
  last : Int
  mem : Nat
  L : List Ent
  com : Int
  vo : Option (Int × List (Option Vt))
  den : Int
  te : Option Te
  jo : Option Int
  G : List Oth
  pl : Int
  pc : Int
  pA : List Int
  pp : Bool
  pk : Int
  pm : Int
  seq : Int
  pend : List Ent
  T : List PReady.Tl
  tab : List PTab.Pr
/-- Where its objects lie. -/
structure Na where
  lg : Nat
  FL : List Nat
  vg : Nat
  FV : List Nat
  tg : Nat
  FT : List Nat
  jg : Nat
  FJ : List Nat
  gg : Nat
  pg : Nat
  ng : Nat
  rg : Nat
  FR : List Nat
  bg : Nat
  FB : List Nat
  bc : Nat

def ptO {α : Type} (o : Option α) (g : Nat) : Value := .pointer (o.map fun _ => ⟨g, 0, none⟩)
def ncs (d : Nat) (p : Np) (a : Na) : List Value :=
  [.int .i64 p.id, .int .i64 p.n, .int .i64 p.boot, .pointer (some ⟨d, 0, none⟩), .int .i64 p.clock, .int .i64 p.heard, .bool p.knows, .int .i64 p.last, .int .i64 p.mem, .pointer (some ⟨a.lg, 0, none⟩), .int .i64 p.com,
   ptO p.vo a.vg, .int .i64 p.den, ptO p.te a.tg, ptO p.jo a.jg, .pointer (some ⟨a.gg, 0, none⟩), .pointer (some ⟨a.pg, 0, none⟩), .pointer (some ⟨a.ng, 0, none⟩), .pointer (some ⟨a.rg, 0, none⟩), .pointer (some ⟨a.bg, 0, none⟩)]

/-- The types of a process's blocks. -/
def okN (t : TypeId) : Bool := [79, 62, 131, 93, 211, 173, 226, 176, 143, 150, 153, 138, 135, 95, 104].contains t

def pX (x d : Nat) (p : Np) (a : Na) : Part := ⟨[x], fun w => Blk w x 79 (ncs d p a)⟩
def pD (d : Nat) (p : Np) : Part := ⟨[d], fun w => Ds w d p.boot p.pro⟩
def pL (p : Np) (a : Na) : Part := ⟨a.FL, fun w => Lg w a.lg a.FL p.L⟩
def pV (n : Int) (a : Na) : Option (Int × List (Option Vt)) → Part
  | none => ⟨[], fun _ => True⟩
  | some (v, S) => ⟨a.FV, fun w => Vs w a.vg a.FV v n S⟩
def pT (n id : Int) (a : Na) : Option Te → Part
  | none => ⟨[], fun _ => True⟩
  | some t => ⟨a.FT, fun w => Tm w a.tg a.FT n id t⟩
def pJ (id n boot : Int) (a : Na) : Option Int → Part
  | none => ⟨[], fun _ => True⟩
  | some j => ⟨a.FJ, fun w => Jn w a.jg a.FJ id n boot j none⟩
def pG (p : Np) (a : Na) : Part := ⟨[a.gg], fun w => Gm w a.gg p.id p.G⟩
def pP (p : Np) (a : Na) : Part := ⟨[a.pg], fun w => Pf w a.pg p.pl p.pc p.pA p.pp p.pk p.pm⟩
def pN (p : Np) (a : Na) : Part := ⟨[a.ng], fun w => Pn w a.ng p.id p.boot p.seq p.pend⟩
def pR (p : Np) (a : Na) : Part := ⟨a.FR, fun w => Qu w a.rg a.FR p.T⟩
def pB (p : Np) (a : Na) : Part := ⟨a.FB, fun w => Tb w a.bg a.FB a.bc p.tab ∧ a.bc ≤ p.T.length⟩
def parts (x d : Nat) (p : Np) (a : Na) : List Part := [pX x d p a, pD d p, pL p a, pV p.n a p.vo, pT p.n p.id a p.te, pJ p.id p.n p.boot a p.jo, pG p a, pP p a, pN p a, pR p a, pB p a]

section
variable {w w' : World} {g : Nat} {F S : List Nat}
theorem Blk.kd {t : TypeId} {ys : List Value} (h : Blk w g t ys) (ht : okN t = true) : Kd okN w g := .inl ⟨t, ys, h, ht⟩
theorem Ow.kd {base k n c : Nat} {e : TypeId} {A : Option Addr} {xs : List Value} (h : Ow w base e k A n c xs) (he : okN e = true) : ∀ k ∈ bl A, Kd okN w k := fun k hk => by
  obtain ⟨ys, hy⟩ := h.blk (mem_bl.1 hk)
  exact hy.kd he
theorem blkOk {x : Nat} {t : TypeId} {ys : List Value} (ht : okN t = true) : (⟨[x], fun w => Blk w x t ys⟩ : Part).Ok okN :=
  ⟨fun _ _ _ h t hd => Blk.touch h t fun hm => hd x hm (by simp), fun _ h k hk => by rw [List.mem_singleton.1 hk]; exact Blk.kd h ht⟩
theorem noneOk : (⟨[], fun _ => True⟩ : Part).Ok okN := ⟨fun _ _ _ _ _ _ => trivial, fun _ _ _ hk => by cases hk⟩
theorem Lg.kd {L : List Ent} (h : Lg w g F L) : ∀ k ∈ F, Kd okN w k := by
  obtain ⟨A, c, hB, hO, rfl⟩ := h.ex
  intro k hk
  rcases List.mem_cons.1 hk with rfl | hk
  · exact hB.kd rfl
  · exact hO.kd rfl k hk
theorem Vs.kd {view n : Int} {V : List (Option Vt)} (h : Vs w g F view n V) : ∀ k ∈ F, Kd okN w k := by
  obtain ⟨P, _, hB, hO, rfl⟩ := h.ex
  intro k hk
  rcases List.mem_cons.1 hk with rfl | hk
  · exact hB.kd rfl
  · obtain ⟨p, hp, hk⟩ := List.mem_flatMap.1 hk
    exact (hO p hp).kd rfl k hk
theorem Jn.kd {me n boot pro : Int} {o : Option Msg} (h : Jn w g F me n boot pro o) : ∀ k ∈ F, Kd okN w k := fun k hk => by
  obtain ⟨t, ys, hB, hT⟩ := h.kinds k hk
  rcases hT with rfl | rfl
  · exact hB.kd rfl
  · exact hB.kd rfl
theorem Qu.kd {T : List PReady.Tl} (h : Qu w g F T) : ∀ k ∈ F, Kd okN w k := by
  obtain ⟨A, c, q, hB, hO, hM, rfl⟩ := h.ex
  intro k hk
  rcases List.mem_cons.1 hk with rfl | hk
  · exact hB.kd rfl
  · rcases List.mem_append.1 hk with hk | hk
    · exact hO.kd rfl k hk
    · rcases hM with ⟨h0, _⟩ | ⟨b, h0, D, ⟨es, clock, hb, _⟩, _⟩
      · rw [h0] at hk; cases hk
      · rw [h0] at hk
        rw [List.mem_singleton.1 hk]
        exact .inr ⟨_, _, hb⟩
theorem Tb.kd {c : Nat} {L : List PTab.Pr} (h : Tb w g F c L) : ∀ k ∈ F, Kd okN w k := by
  obtain ⟨q, hB, hM, rfl⟩ := h.ex
  intro k hk
  rcases List.mem_cons.1 hk with rfl | hk
  · exact hB.kd rfl
  · rcases hM with ⟨h0, _⟩ | ⟨b, h0, D, ⟨es, clock, hb, _⟩, _⟩
    · rw [h0] at hk; cases hk
    · rw [h0] at hk
      rw [List.mem_singleton.1 hk]
      exact .inr ⟨_, _, hb⟩
theorem Tm.kd {n id : Int} {t : Te} (h : Tm w g F n id t) : ∀ k ∈ F, Kd okN w k := by
  obtain ⟨qg, A, c, hB, hQ, hO, rfl⟩ := h
  intro k hk
  rcases List.mem_cons.1 hk with rfl | hk
  · exact hB.kd rfl
  · rcases List.mem_cons.1 hk with rfl | hk
    · exact Blk.kd hQ rfl
    · obtain ⟨-, ys, hy⟩ := hO.blk (mem_bl.1 hk)
      exact hy.kd rfl
theorem Tm.touch {n id : Int} {t : Te} (h : Tm w g F n id t) (ht : Touch S w w') (hd : ∀ k ∈ S, k ∉ F) : Tm w' g F n id t := by
  obtain ⟨qg, A, c, hB, hQ, hO, rfl⟩ := h
  exact ⟨qg, A, c, hB.touch ht (fun hm => hd g hm (by simp)), hQ.touch ht (fun hm => hd qg hm (by simp)), hO.touch ht (fun s hs e => hd s hs (by simp [mem_bl.2 e])), rfl⟩
end
theorem pV_ok (n : Int) (a : Na) (o : Option (Int × List (Option Vt))) : (pV n a o).Ok okN := by
  cases o with
  | none => exact noneOk
  | some q => exact ⟨fun _ _ _ h t hd => Vs.touch h t hd, fun _ h => Vs.kd h⟩
theorem pT_ok (n id : Int) (a : Na) (o : Option Te) : (pT n id a o).Ok okN := by
  cases o with
  | none => exact noneOk
  | some q => exact ⟨fun _ _ _ h t hd => Tm.touch h t hd, fun _ h => Tm.kd h⟩
theorem pJ_ok (id n boot : Int) (a : Na) (o : Option Int) : (pJ id n boot a o).Ok okN := by
  cases o with
  | none => exact noneOk
  | some q => exact ⟨fun _ _ _ h t hd => Jn.touch h t hd, fun _ h => Jn.kd h⟩
theorem pX_ok (x d : Nat) (p : Np) (a : Na) : (pX x d p a).Ok okN := blkOk rfl
theorem pD_ok (d : Nat) (p : Np) : (pD d p).Ok okN := blkOk rfl
theorem pL_ok (p : Np) (a : Na) : (pL p a).Ok okN := ⟨fun _ _ _ h t hd => Lg.touch h t hd, fun _ h => Lg.kd h⟩
theorem pG_ok (p : Np) (a : Na) : (pG p a).Ok okN := ⟨fun _ _ _ h t hd => Gm.far h t (fun hm => hd _ hm (by simp [pG])), fun _ h k hk => by rw [List.mem_singleton.1 hk]; exact Blk.kd h.1 rfl⟩
theorem pP_ok (p : Np) (a : Na) : (pP p a).Ok okN := blkOk rfl
theorem pN_ok (p : Np) (a : Na) : (pN p a).Ok okN := ⟨fun _ _ _ h t hd => Pn.touch h t (fun hm => hd _ hm (by simp [pN])), fun _ h k hk => by
  rw [List.mem_singleton.1 hk]
  obtain ⟨ys, hy⟩ := Pn.blk h
  exact hy.kd rfl⟩
theorem pR_ok (p : Np) (a : Na) : (pR p a).Ok okN := ⟨fun _ _ _ h t hd => Qu.touch h t hd, fun _ h => Qu.kd h⟩
theorem pB_ok (p : Np) (a : Na) : (pB p a).Ok okN := ⟨fun _ _ _ h t hd => ⟨Tb.touch h.1 t hd, h.2⟩, fun _ h => Tb.kd h.1⟩

/-- What holds of its numbers. -/
structure Nr (p : Np) : Prop where
  n : 3 ≤ p.n ∧ p.n ≤ 7
  id : 1 ≤ p.id ∧ p.id ≤ p.n
  boot : 1 ≤ p.boot ∧ p.boot ≤ 1099511627776
  pro : 0 ≤ p.pro ∧ p.pro ≤ 1099511627776
  clock : 0 ≤ p.clock ∧ p.clock ≤ 1099511627776
  heard : 0 ≤ p.heard ∧ p.heard ≤ p.clock
  last : 0 ≤ p.last ∧ p.last ≤ p.pro
  mem : p.mem < 128
  com : 0 ≤ p.com ∧ p.com ≤ p.L.length
  vo : ∀ v S, p.vo = some (v, S) → 1 ≤ v ∧ v ≤ 1099511627776 ∧ PVote.Pl S
  den : 0 ≤ p.den ∧ p.den ≤ 1099511627776
  pf : PProof.Ok p.pl p.pc p.pA p.pk
  seq : 0 ≤ p.seq ∧ p.seq ≤ 1099511627776
/-- The process at block x, its disk at block d; F: all its blocks. -/
structure Nd (w : World) (x d : Nat) (F : List Nat) (p : Np) : Prop where
  ex : ∃ a, Sep okN w (parts x d p a) ∧ F = allF (parts x d p a)
  r : Nr p
/-- What a call leaves that writes it. -/
structure NdW (w w' : World) (x d : Nat) (F : List Nat) (p : Np) : Prop where
  ex : ∃ F', Nd w' x d F' p ∧ ∀ k ∈ F', k ∈ F ∨ w.heap.size ≤ k
  touch : Touch F w w'
section
variable {w w' : World} {x d : Nat} {F : List Nat} {p : Np}
theorem Nd.hi (h : Nd w x d F p) : ∀ k ∈ F, k < w.heap.size := by obtain ⟨a, h1, rfl⟩ := h.ex; exact h1.hi
theorem Nd.off (h : Nd w x d F p) {g : Nat} {t : TypeId} {ys : List Value} (hB : Blk w g t ys) (ht : okN t = false) : g ∉ F := by obtain ⟨a, h1, rfl⟩ := h.ex; exact h1.off hB ht
theorem Nd.touch {T : List Nat} (h : Nd w x d F p) (t : Touch T w w') (hd : ∀ k ∈ T, k ∉ F) : Nd w' x d F p := by obtain ⟨a, h1, rfl⟩ := h.ex; exact ⟨⟨a, h1.touch t hd, rfl⟩, h.r⟩
theorem Nd.past (h : Nd w x d F p) (hb : Below w.heap.size w w') : Nd w' x d F p := h.touch (T := []) (.of_below hb) (by simp)
theorem NdW.same (h : Nd w x d F p) (hb : Below w.heap.size w w') : NdW w w' x d F p := ⟨⟨F, h.past hb, fun _ hk => .inl hk⟩, .of_below hb⟩
theorem NdW.behind {w0 : World} (h : NdW w w' x d F p) (hb : Below w0.heap.size w0 w) : NdW w0 w' x d F p := by
  obtain ⟨F', h1, h2⟩ := h.ex
  exact ⟨⟨F', h1, fun k hk => (h2 k hk).imp id (Nat.le_trans hb.size)⟩, (Touch.of_below hb).trans h.touch⟩
theorem NdW.ahead {w2 : World} (h : NdW w w' x d F p) (hb : Below w'.heap.size w' w2) : NdW w w2 x d F p := by
  obtain ⟨F', h1, h2⟩ := h.ex
  exact ⟨⟨F', h1.past hb, h2⟩, h.touch.trans (.of_below hb)⟩
theorem NdW.then {w2 : World} {F' : List Nat} {p' : Np} (hF : ∀ k ∈ F', k ∈ F ∨ w.heap.size ≤ k) (ht : Touch F w w') (k : NdW w' w2 x d F' p') : NdW w w2 x d F p' := by
  obtain ⟨F2, h1, h2⟩ := k.ex
  refine ⟨⟨F2, h1, fun q hq => ?_⟩, St.wide ht k.touch hF⟩
  rcases h2 q hq with h3 | h3
  · exact hF q h3
  · exact .inr (Nat.le_trans ht.size h3)
end
section
variable {w w1 w2 : World} {x d : Nat} {F : List Nat} {p : Np} {a : Na}
theorem Nd.open (h : Nd w x d F p) : ∃ a, St okN w w F (parts x d p a) ∧ Nr p := by
  obtain ⟨a, h1, rfl⟩ := h.ex
  exact ⟨a, .begin h1, h.r⟩
theorem St.shut (s : St okN w w1 F (parts x d p a)) (r : Nr p) : NdW w w1 x d F p := ⟨⟨_, ⟨⟨a, s.sep, rfl⟩, r⟩, s.sub⟩, s.touch⟩
end
end Go.Proofs.YtacipjdaiglnjaaGreatDoor

/- Plain mathematics of a process: whom it asks, which view it proposes. No program is named here. -/
namespace Go.Proofs.YtacipjdaiglnjaaGreatDoor
namespace PNode
open PTeam

/-- What a process asks another one: to vote for its view. -/
def propM (me boot view dst : Int) : Msg := ⟨1, me, dst, boot, view, 0, 0, 0, [], 0, 0, 0, false⟩
/-- Of the first k: those that have not voted. -/
def props (t : Nat) (me boot view : Int) : Nat → List Msg
  | 0 => []
  | k + 1 => props t me boot view k ++ if has t ((k : Int) + 1) = true then [] else [propM me boot view (k + 1)]
theorem props_has {t : Nat} {me boot view : Int} {k : Nat} (h : has t ((k : Int) + 1) = true) : props t me boot view (k + 1) = props t me boot view k := by simp [props, h]
theorem props_not {t : Nat} {me boot view : Int} {k : Nat} (h : has t ((k : Int) + 1) = false) : props t me boot view (k + 1) = props t me boot view k ++ [propM me boot view (k + 1)] := by simp [props, h]
theorem props_le (t : Nat) (me boot view : Int) : ∀ k : Nat, (props t me boot view k).length ≤ k
  | 0 => Nat.le_refl _
  | k + 1 => by
    have := props_le t me boot view k
    cases h : has t ((k : Int) + 1)
    · rw [props_not h, List.length_append, List.length_singleton]; omega
    · rw [props_has h]; omega
/-- Each of them is such a question. -/
theorem props_each {t : Nat} {me boot view : Int} : ∀ {k : Nat} {m : Msg}, m ∈ props t me boot view k → ∃ dst : Int, 1 ≤ dst ∧ dst ≤ k ∧ m = propM me boot view dst
  | 0, m, h => by simp [props] at h
  | k + 1, m, h => by
    unfold props at h
    rcases List.mem_append.1 h with h | h
    · obtain ⟨d, h1, h2, h3⟩ := props_each h
      exact ⟨d, h1, by omega, h3⟩
    · split at h
      · simp at h
      · exact ⟨k + 1, by omega, by omega, List.mem_singleton.1 h⟩

/-- The view that it proposes, of those from least on. -/
def IsNext (id n least v : Int) : Prop := least ≤ v ∧ v < least + n ∧ decider v n = id
/-- Of as many views as there are processes one is decided by each. -/
theorem next_some {id n least : Int} (h3 : 3 ≤ n) (h7 : n ≤ 7) (h1 : 1 ≤ id) (hn : id ≤ n) (hl : 1 ≤ least) : ∃ v, IsNext id n least v := by
  have q0 := Int.emod_nonneg (id - least) (show n ≠ 0 by omega)
  have q1 := Int.emod_lt_of_pos (id - least) (show 0 < n by omega)
  refine ⟨least + (id - least) % n, by omega, by omega, ?_⟩
  unfold decider
  rw [if_neg (by omega)]
  have e : (least + (id - least) % n - 1) % n = (id - 1) % n := by
    have e1 : least + (id - least) % n - 1 = (least - 1) + (id - least) % n := by omega
    rw [e1, Int.add_emod_emod]
    congr 1; omega
  rw [e, Int.emod_eq_of_lt (by omega) (by omega)]
  omega
end PNode
end Go.Proofs.YtacipjdaiglnjaaGreatDoor

/- A process: whether it is in its view, is late, has votes, decides. -/
namespace Go.Proofs.YtacipjdaiglnjaaGreatDoor
open Go.RowKit

namespace PNode
/-- Is it in its last view? -/
def inV (p : Np) : Bool := p.knows && (decide (0 < p.last) && (p.last == p.pro && PTeam.has p.mem p.id))
def late (p : Np) : Bool := decide (8 + 2 * p.id ≤ p.clock - p.heard)
def hasV (p : Np) : Bool := match p.vo with | none => false | some q => q.1 == p.pro
def dec (p : Np) : Bool := p.te.isSome && inV p
end PNode
open PNode

section
variable {w : World} {x d : Nat} {p : Np} {a : Na}
theorem ndIn_c (B : Blk w x 79 (ncs d p a)) (D : Ds w d p.boot p.pro) (hm : p.mem < 128) :
    Calls Tryz.prog 36 #[.pointer (some ⟨x, 0, none⟩)] w fun e w' => e = .returned (.bool (inV p)) ∧ Below w.heap.size w w' := by
  obtain ⟨id, n, boot, pro, clock, heard, knows, last, mem, L, com, vo, den, te, jo, G, pl, pc, pA, pp, pk, pm, seq, pend, T, tab⟩ := p
  have HI := Lib.hid (show inV ⟨id, n, boot, pro, clock, heard, knows, last, mem, L, com, vo, den, te, jo, G, pl, pc, pA, pp, pk, pm, seq, pend, T, tab⟩ = (knows && (decide (0 < last) && (last == pro && PTeam.has mem id))) from rfl)
  have c0 : w.cell? ⟨x, 0, none⟩ = some (.int .i64 id) := B.cell rfl
  have c3 : w.cell? ⟨x, 3, none⟩ = some (.pointer (some ⟨d, 0, none⟩)) := B.cell rfl
  have c6 : w.cell? ⟨x, 6, none⟩ = some (.bool knows) := B.cell rfl
  have c7 : w.cell? ⟨x, 7, none⟩ = some (.int .i64 last) := B.cell rfl
  have c8 : w.cell? ⟨x, 8, none⟩ = some (.int .i64 mem) := B.cell rfl
  have HD := Lib.hid D
  have HM := Lib.hid (show mem < 128 from hm)
  have hV : ∀ k : Nat, Calls Tryz.prog 49 #[.pointer (some ⟨d, 0, none⟩)] (w.drewN k) fun e w' => e = .returned (.int .i64 pro) ∧ w' = w.drewN k := fun k => (view_c (w.drewN k) d boot pro (HD.out.past (w' := w.drewN k) ⟨rfl, rfl, rfl, Nat.le_refl _, fun _ _ => rfl⟩)).mono fun e w' h => ⟨h.1, h.2.symm⟩
  have hH : ∀ W : World, Calls Tryz.prog 76 #[.int .i64 mem, .int .i64 id] W fun e w' => e = .returned (.bool (PTeam.has mem id)) ∧ w' = W := fun W => (tHas_c W mem id HM.out).mono fun e w' h => ⟨h.1, h.2.symm⟩
  rw [HI.out]
  clear HI B D hm
  generalize PTeam.has mem id = bh at *
  cases knows
  · go_enter Tryz.func36, Tryz.ntmps36
    go_wp2_with fail
    go_quiet (fail)
    go_wp2_with fail
    go_ret
    exact ⟨rfl, ⟨rfl, rfl, rfl, Nat.le_refl _, fun _ _ => rfl⟩⟩
  · cases h1 : decide (0 < last)
    · go_enter Tryz.func36, Tryz.ntmps36
      go_wp2_with fail
      go_quiet (fail)
      go_wp2_with fail
      go_ret
      exact ⟨rfl, ⟨rfl, rfl, rfl, Nat.le_refl _, fun _ _ => rfl⟩⟩
    · cases h2 : (last == pro)
      · go_enter Tryz.func36, Tryz.ntmps36
        go_wp2_with fail
        go_quiet (first | (go_at_call 49; refine Calls.quiet_of_same (hV _)))
        go_wp2_with fail
        go_ret
        exact ⟨rfl, ⟨rfl, rfl, rfl, Nat.le_refl _, fun _ _ => rfl⟩⟩
      · go_enter Tryz.func36, Tryz.ntmps36
        go_wp2_with fail
        go_quiet (first | (go_at_call 49; refine Calls.quiet_of_same (hV _)) | (go_at_call 76; refine Calls.quiet_of_same (hH _)))
        go_wp2_with fail
        go_ret
        exact ⟨rfl, ⟨rfl, rfl, rfl, Nat.le_refl _, fun _ _ => rfl⟩⟩
end
end Go.Proofs.YtacipjdaiglnjaaGreatDoor

/- A process: it leaves whatever view it is in (promise); its messages (to, reply). -/
namespace Go.Proofs.YtacipjdaiglnjaaGreatDoor
open Go.RowKit PNode

/-- Behind a promise. -/
def proP (p : Np) (view : Int) : Np := { p with pro := PStab.put p.pro view, vo := none, te := none, pc := p.pl, pp := false, heard := p.clock }
theorem put_ge {v x : Int} : v ≤ PStab.put v x := by unfold PStab.put; split <;> omega
theorem put_in {v x : Int} (h0 : 0 ≤ v) (h : v ≤ 1099511627776) : 0 ≤ PStab.put v x ∧ PStab.put v x ≤ 1099511627776 := by unfold PStab.put; split <;> omega
theorem Nr.promise {p : Np} (h : Nr p) (view : Int) : Nr (proP p view) :=
  ⟨h.n, h.id, h.boot, put_in h.pro.1 h.pro.2, h.clock, ⟨h.clock.1, Int.le_refl _⟩, ⟨h.last.1, Int.le_trans h.last.2 put_ge⟩, h.mem, h.com, fun _ _ e => (by cases e), h.den,
    ⟨h.pf.len, Int.le_trans h.pf.c0 h.pf.cl, Int.le_refl _, h.pf.l1, h.pf.a, h.pf.k⟩, h.seq⟩

set_option maxHeartbeats 2000000 in
theorem promise_c {w : World} {x d : Nat} {F : List Nat} {p : Np} (h : Nd w x d F p) (view : Int) :
    Calls Tryz.prog 119 #[.pointer (some ⟨x, 0, none⟩), .int .i64 view] w fun e w' => e = .returned (.tuple #[]) ∧ NdW w w' x d F (proP p view) := by
  obtain ⟨a, s0, hr⟩ := h.open
  have HR := Lib.hid (hr.promise view)
  have hpf := Lib.hid hr.pf
  clear h hr
  have B0 : Blk w x 79 (ncs d p a) := s0.sep.get (i := 0) rfl
  have D0 : Ds w d p.boot p.pro := s0.sep.get (i := 1) rfl
  have P0 : Pf w a.pg p.pl p.pc p.pA p.pp p.pk p.pm := s0.sep.get (i := 7) rfl
  have S0 := Lib.hid s0
  have c3 : w.cell? ⟨x, 3, none⟩ = some (.pointer (some ⟨d, 0, none⟩)) := B0.cell rfl
  clear s0
  go_enter Tryz.func119, Tryz.ntmps119
  go_wp2_with fail
  refine (prom_c w d p.boot p.pro D0 view).mono ?_
  rintro e w1 ⟨rfl, D1, T1⟩
  have S1 := Lib.hid (S0.out.set 1 rfl (pD_ok d (proP p view)) T1 D1 (fun k hk => .inl hk))
  have B1 : Blk w1 x 79 (ncs d p a) := S1.out.sep.get (i := 0) rfl
  clear c3 B0 D0 P0 D1 T1
  have c4 : w1.cell? ⟨x, 4, none⟩ = some (.int .i64 p.clock) := B1.cell rfl
  have c5 : w1.cell? ⟨x, 5, none⟩ = some (.int .i64 p.heard) := B1.cell rfl
  have c11 : w1.cell? ⟨x, 11, none⟩ = some (ptO p.vo a.vg) := B1.cell rfl
  have c13 : w1.cell? ⟨x, 13, none⟩ = some (ptO p.te a.tg) := B1.cell rfl
  have c16 : w1.cell? ⟨x, 16, none⟩ = some (.pointer (some ⟨a.pg, 0, none⟩)) := B1.cell rfl
  have f5 := B1.free 5
  have f11 := B1.free 11
  have f13 := B1.free 13
  have BB := Lib.hid B1
  clear B1
  unfold ptO at c11 c13
  go_wp2_with fail
  have B2 := Lib.hid ((BB.out.set 11 (.pointer none)).set 13 (.pointer none))
  have T2 : Touch [x] w1 ((w1.setCell ⟨x, 11, none⟩ (.pointer none)).setCell ⟨x, 13, none⟩ (.pointer none)) := ((Touch.refl _ _).cell (by simp) _ _).cell (by simp) _ _
  have S2 := Lib.hid (((S1.out.set 0 rfl (pX_ok x d { proP p view with heard := p.heard } a) T2 B2.out (fun k hk => .inl hk)).leave 3 rfl).leave 4 rfl)
  clear T2
  have P2 : Pf ((w1.setCell ⟨x, 11, none⟩ (.pointer none)).setCell ⟨x, 13, none⟩ (.pointer none)) a.pg p.pl p.pc p.pA p.pp p.pk p.pm := S2.out.sep.get (i := 7) rfl
  clear B2
  refine (pdrop_c _ _ _ _ _ _ _ _ P2 hpf.out).mono ?_
  rintro e w3 ⟨rfl, P3, T3⟩
  have S3 := Lib.hid (S2.out.set 7 rfl (pP_ok (proP p view) a) T3 P3 (fun k hk => .inl hk))
  clear P2 P3 T3 c4 c5 c11 c13 c16 f5 f11 f13
  have B3 : Blk w3 x 79 (ncs d { proP p view with heard := p.heard } a) := S3.out.sep.get (i := 0) rfl
  have c4 : w3.cell? ⟨x, 4, none⟩ = some (.int .i64 p.clock) := B3.cell rfl
  have c5 : w3.cell? ⟨x, 5, none⟩ = some (.int .i64 p.heard) := B3.cell rfl
  have f5 := B3.free 5
  have B4 := Lib.hid B3
  clear B3
  go_wp2_with fail
  go_end0
  refine ⟨rfl, ?_⟩
  have B5 := B4.out.set 5 (.int .i64 p.clock)
  have T5 : Touch [x] w3 (w3.setCell ⟨x, 5, none⟩ (.int .i64 p.clock)) := (Touch.refl _ _).cell (by simp) _ _
  exact (show St okN w _ F (parts x d (proP p view) a) from S3.out.set 0 rfl (pX_ok x d (proP p view) a) T5 B5 (fun k hk => .inl hk)).shut HR.out
end Go.Proofs.YtacipjdaiglnjaaGreatDoor

/- Loads of one cell in a region that draws, at a process's types. -/
namespace Go.Proofs.YtacipjdaiglnjaaGreatDoor
open Go.RowKit

section
variable {w : World} {dst : Option Tmp} {x : Operand} {ty : TypeId} {pos : String} {after : Array Edge} {guard : Option (Nat × Bool)} {ρ : Operand → Value} {p : Addr}
theorem ldInt {k : Int} (h : w.cell? p = some (.int .i64 k)) (hx : ρ x = .pointer (some p)) : (execOp ρ { dst, op := .load 3 x, type := ty, pos, after, guard }).run Tryz.prog w = .ok (.value (.int .i64 k)) w := by
  go_simp
theorem ldI64 {k : Int} (h : w.cell? p = some (.int .i64 k)) (hx : ρ x = .pointer (some p)) : (execOp ρ { dst, op := .load 2 x, type := ty, pos, after, guard }).run Tryz.prog w = .ok (.value (.int .i64 k)) w := by
  go_simp
theorem ldBool {k : Bool} (h : w.cell? p = some (.bool k)) (hx : ρ x = .pointer (some p)) : (execOp ρ { dst, op := .load 4 x, type := ty, pos, after, guard }).run Tryz.prog w = .ok (.value (.bool k)) w := by
  go_simp
theorem ldTeam {k : Int} (h : w.cell? p = some (.int .i64 k)) (hx : ρ x = .pointer (some p)) : (execOp ρ { dst, op := .load 43 x, type := ty, pos, after, guard }).run Tryz.prog w = .ok (.value (.int .i64 k)) w := by
  go_simp
theorem ldLog {k : Option Addr} (h : w.cell? p = some (.pointer k)) (hx : ρ x = .pointer (some p)) : (execOp ρ { dst, op := .load 70 x, type := ty, pos, after, guard }).run Tryz.prog w = .ok (.value (.pointer k)) w := by
  go_simp
theorem ldVotes {k : Option Addr} (h : w.cell? p = some (.pointer k)) (hx : ρ x = .pointer (some p)) : (execOp ρ { dst, op := .load 71 x, type := ty, pos, after, guard }).run Tryz.prog w = .ok (.value (.pointer k)) w := by
  go_simp
theorem ldTerm {k : Option Addr} (h : w.cell? p = some (.pointer k)) (hx : ρ x = .pointer (some p)) : (execOp ρ { dst, op := .load 72 x, type := ty, pos, after, guard }).run Tryz.prog w = .ok (.value (.pointer k)) w := by
  go_simp
theorem ldProof {k : Option Addr} (h : w.cell? p = some (.pointer k)) (hx : ρ x = .pointer (some p)) : (execOp ρ { dst, op := .load 75 x, type := ty, pos, after, guard }).run Tryz.prog w = .ok (.value (.pointer k)) w := by
  go_simp
theorem ldPend {k : Option Addr} (h : w.cell? p = some (.pointer k)) (hx : ρ x = .pointer (some p)) : (execOp ρ { dst, op := .load 76 x, type := ty, pos, after, guard }).run Tryz.prog w = .ok (.value (.pointer k)) w := by
  go_simp
theorem ldQueue {k : Option Addr} (h : w.cell? p = some (.pointer k)) (hx : ρ x = .pointer (some p)) : (execOp ρ { dst, op := .load 77 x, type := ty, pos, after, guard }).run Tryz.prog w = .ok (.value (.pointer k)) w := by
  go_simp
theorem ldTable {k : Option Addr} (h : w.cell? p = some (.pointer k)) (hx : ρ x = .pointer (some p)) : (execOp ρ { dst, op := .load 52 x, type := ty, pos, after, guard }).run Tryz.prog w = .ok (.value (.pointer k)) w := by
  go_simp
theorem ldQuo {k : Option Addr} (h : w.cell? p = some (.pointer k)) (hx : ρ x = .pointer (some p)) : (execOp ρ { dst, op := .load 169 x, type := ty, pos, after, guard }).run Tryz.prog w = .ok (.value (.pointer k)) w := by
  go_simp
theorem ldEnts {A : Option Addr} {n c : Nat} (h : w.cell? p = some (.slice A n c)) (hx : ρ x = .pointer (some p)) : (execOp ρ { dst, op := .load 29 x, type := ty, pos, after, guard }).run Tryz.prog w = .ok (.value (.slice A n c)) w := by
  go_simp
end
end Go.Proofs.YtacipjdaiglnjaaGreatDoor

/- A process: it tells what may be told (settle), where its log is empty. -/
namespace Go.Proofs.YtacipjdaiglnjaaGreatDoor
open Go.RowKit PNode

theorem From_none {w : World} {g : Nat} {F : List Nat} (h : Lg w g F []) :
    Calls Tryz.prog 38 #[.pointer (some ⟨g, 0, none⟩), .int .i64 0] w fun x w' => ∃ A' c', x = .returned (.slice A' 0 c') ∧ Ow w' w.heap.size 93 7 A' 0 c' (els []) ∧ Below w.heap.size w w' := by
  have := From_in w g F [] h 0 (Nat.zero_le _)
  simp only [List.length_nil, Nat.sub_zero, List.drop_zero] at this
  exact this.mono fun e w' ⟨A, c, h1, h2, h3⟩ => ⟨A, c, h1, Ow.of_own h2, h3⟩

set_option maxHeartbeats 4000000 in
theorem settle0_c {w : World} {x d : Nat} {F : List Nat} {p : Np} (h : Nd w x d F p) (hL : p.L = []) (hc : p.com = 0) :
    Calls Tryz.prog 31 #[.pointer (some ⟨x, 0, none⟩)] w fun e w' => e = .returned (.tuple #[]) ∧ NdW w w' x d F p := by
  obtain ⟨a, s0, hr⟩ := h.open
  have HR := Lib.hid hr
  clear h hr
  have B0 : Blk w x 79 (ncs d p a) := s0.sep.get (i := 0) rfl
  have L0 : Lg w a.lg a.FL [] := hL ▸ (show Lg w a.lg a.FL p.L from s0.sep.get (i := 2) rfl)
  have c9 : w.cell? ⟨x, 9, none⟩ = some (.pointer (some ⟨a.lg, 0, none⟩)) := B0.cell rfl
  have S0 := Lib.hid s0
  have BB := Lib.hid B0
  have HC := Lib.hid hc
  clear s0 B0 hc hL
  go_enter Tryz.func31, Tryz.ntmps31
  go_wp2_with fail
  refine (From_none L0).mono ?_
  rintro e w1 ⟨A, c, rfl, o1, b1⟩
  have S1 := Lib.hid (S0.out.past b1)
  have hp : ({ p with com := 0 } : Np) = p := by cases p; simp only at HC; rw [HC.out]
  have HB1 : Blk w1 x 79 (ncs d { p with com := 0 } a) := by rw [hp]; exact S1.out.sep.get (i := 0) rfl
  have B1 := Lib.hid HB1
  have hN1 : Pn w1.drew a.ng p.id p.boot p.seq p.pend := S1.out.drew.sep.get (i := 8) rfl
  have N1 := Lib.hid hN1
  have hx : x ∉ [a.ng] := S1.out.sep.two (i := 0) (j := 8) (by omega) rfl rfl x (by simp [pX])
  have HX := Lib.hid hx
  have o1d := o1.past (Below.refl _ _).drew
  have O1' := Lib.hid o1d
  have O1 := Lib.hid o1d.rd
  have ho : ∀ k ∈ [a.ng], bk A ≠ some k := fun k hk => by
    obtain ⟨ys, hy⟩ := hN1.blk
    rw [List.mem_singleton.1 hk]
    exact o1d.ne hy (by decide)
  have HO := Lib.hid ho
  clear c9 L0 b1 HB1 hN1 hx o1 o1d ho
  go_wp2_with fail
-- REGION (*curfew/node.Node).settle 1 nsettle1 2
  refine Hs.begin ([a.ng]) ?_
  refine Hs.take (v := .pointer (some ⟨x, 0, none⟩)) 0 10 rfl ?_ (fun _ _ => rfl)
  refine Hs.take (v := .pointer (some ⟨x, 0, none⟩)) 1 11 rfl ?_ (fun w' hw' => by go_simp; first | done | rfl | (simp; omega))
  refine Hs.take (v := .pointer (some ⟨x, 17, none⟩)) 2 12 rfl ?_ (fun w' hw' => by go_simp; first | done | rfl | (simp; omega))
  refine Hs.take (v := .pointer (some ⟨a.ng, 0, none⟩)) 3 13 rfl ?_ (fun w' hw' => by exact ldPend (Blk.cell (i := 17) (Blk.touch (show Blk w1.drew x 79 (ncs d { p with com := 0 } a) from B1.out) hw' HX.out) rfl) rfl)
  refine Hs.take (v := .slice A 0 c) 4 14 rfl ?_ (fun _ _ => rfl)
  refine Hs.take (v := .pointer (some ⟨x, 0, none⟩)) 5 15 rfl ?_ (fun _ _ => rfl)
  refine Hs.take (v := .pointer (some ⟨x, 0, none⟩)) 6 16 rfl ?_ (fun w' hw' => by go_simp; first | done | rfl | (simp; omega))
  refine Hs.take (v := .pointer (some ⟨x, 10, none⟩)) 7 17 rfl ?_ (fun w' hw' => by go_simp; first | done | rfl | (simp; omega))
  refine Hs.take (v := .int .i64 0) 8 18 rfl ?_ (fun w' hw' => by exact ldInt (Blk.cell (i := 10) (Blk.touch (show Blk w1.drew x 79 (ncs d { p with com := 0 } a) from B1.out) hw' HX.out) rfl) rfl)
  refine Hs.only 9 (some 19) rfl ?_
  refine wpList_headS rfl 29 _ _ rfl 93 _ 7 _ Tryz.underlying29 ent_info A c 0 0 rfl rfl (Nat.zero_le _) ?_
  refine Hs.next (Touch.refl _ _) ?_
  refine Hs.call (f := 70) (args := #[.pointer (some ⟨a.ng, 0, none⟩), .slice A 0 c]) 10 20 rfl ?_ (run_callf Tryz.func70 (by kernel_rfl) (by kernel_rfl) (by simp only [List.map_toArray, List.map_cons, List.map_nil]; rfl))
  refine (pdone_c w1.drew a.ng p.id p.boot p.seq p.pend N1.out A c 0 [] O1.out (by omega)).mono ?_
  rintro e w2 ⟨rfl, N2, T2⟩
  have S2 := Lib.hid (S1.out.drew.set 8 rfl (pN_ok p a) T2 (show Pn w2 a.ng p.id p.boot p.seq p.pend by rw [← PPend.left_nil p.pend]; exact N2) (fun k hk => .inl hk))
  have O2 := Lib.hid (O1'.out.touch T2 HO.out)
  clear N2
  refine Hs.back T2 ?_
  refine Hs.done ?_
-- END
  have hx2 : x ∉ a.FR := S2.out.sep.two (i := 0) (j := 9) (by omega) rfl rfl x (by simp [pX])
  have HX2 := Lib.hid hx2
  have HB2 : Blk w2 x 79 (ncs d { p with com := 0 } a) := by rw [hp]; exact S2.out.sep.get (i := 0) rfl
  have B2 := Lib.hid HB2
  have hR2 : Qu w2.drew a.rg a.FR p.T := S2.out.drew.sep.get (i := 9) rfl
  have R2 := Lib.hid hR2
  have Q2 := Lib.hid (O2.out.past (Below.refl _ _).drew).rd
  have HT := Lib.hid hR2.le
  have PW0 := Lib.hid (show PReady.Apart [] from List.Pairwise.nil)
  have HG := Lib.hid (show PReady.go 0 p.clock p.T [] = [] from rfl)
  clear hx2 HB2 hR2
  go_wp2_with fail
-- REGION (*curfew/node.Node).settle 2 nsettle2 2
  refine Hs.begin (a.FR) ?_
  refine Hs.take (v := .pointer (some ⟨x, 0, none⟩)) 0 21 rfl ?_ (fun _ _ => rfl)
  refine Hs.take (v := .pointer (some ⟨x, 0, none⟩)) 1 22 rfl ?_ (fun w' hw' => by go_simp; first | done | rfl | (simp; omega))
  refine Hs.take (v := .pointer (some ⟨x, 18, none⟩)) 2 23 rfl ?_ (fun w' hw' => by go_simp; first | done | rfl | (simp; omega))
  refine Hs.take (v := .pointer (some ⟨a.rg, 0, none⟩)) 3 24 rfl ?_ (fun w' hw' => by exact ldQueue (Blk.cell (i := 18) (Blk.touch (show Blk w2.drew x 79 (ncs d { p with com := 0 } a) from B2.out) hw' HX2.out) rfl) rfl)
  refine Hs.take (v := .slice A 0 c) 4 25 rfl ?_ (fun _ _ => rfl)
  refine Hs.take (v := .pointer (some ⟨x, 0, none⟩)) 5 26 rfl ?_ (fun _ _ => rfl)
  refine Hs.take (v := .pointer (some ⟨x, 0, none⟩)) 6 27 rfl ?_ (fun w' hw' => by go_simp; first | done | rfl | (simp; omega))
  refine Hs.take (v := .pointer (some ⟨x, 10, none⟩)) 7 28 rfl ?_ (fun w' hw' => by go_simp; first | done | rfl | (simp; omega))
  refine Hs.take (v := .int .i64 0) 8 29 rfl ?_ (fun w' hw' => by exact ldInt (Blk.cell (i := 10) (Blk.touch (show Blk w2.drew x 79 (ncs d { p with com := 0 } a) from B2.out) hw' HX2.out) rfl) rfl)
  refine Hs.take (v := .pointer (some ⟨x, 0, none⟩)) 9 30 rfl ?_ (fun _ _ => rfl)
  refine Hs.take (v := .pointer (some ⟨x, 0, none⟩)) 10 31 rfl ?_ (fun w' hw' => by go_simp; first | done | rfl | (simp; omega))
  refine Hs.take (v := .pointer (some ⟨x, 4, none⟩)) 11 32 rfl ?_ (fun w' hw' => by go_simp; first | done | rfl | (simp; omega))
  refine Hs.take (v := .int .i64 p.clock) 12 33 rfl ?_ (fun w' hw' => by exact ldI64 (Blk.cell (i := 4) (Blk.touch (show Blk w2.drew x 79 (ncs d { p with com := 0 } a) from B2.out) hw' HX2.out) rfl) rfl)
  refine Hs.take (v := .int .i64 0) 15 36 rfl ?_ (fun _ _ => rfl)
  refine Hs.call (f := 71) (args := #[.pointer (some ⟨a.rg, 0, none⟩), .slice A 0 c, .int .i64 0, .int .i64 p.clock]) 13 34 rfl ?_ (run_callf Tryz.func71 (by kernel_rfl) (by kernel_rfl) (by simp only [List.map_toArray, List.map_cons, List.map_nil]; rfl))
  refine (Go_c w2.drew a.rg a.FR p.T R2.out A c 0 [] Q2.out (by omega) (by simp) PW0.out (by omega) HT.out 0 p.clock).mono ?_
  rintro e w3 ⟨A3, c3, rfl, -, ⟨F3, q3, hF3⟩, T3⟩
  have S3 := Lib.hid (S2.out.drew.set 9 rfl (pR_ok p { a with FR := F3 }) T3 (show Qu w3 a.rg F3 p.T by have := q3; rw [HG.out, List.append_nil] at this; exact this) hF3)
  rw [HG.out]
  clear q3 hF3
  refine Hs.back T3 ?_
  refine Hs.take 14 35 rfl ?_ (fun w' hw' => by go_simp; first | done | rfl)
  refine Hs.done ?_
-- END
  go_wp2_with fail
  go_loopw [36] (fun s36 wr => s36 = .int .i64 0 ∧ wr = w3) (fun _ _ => 1)
  case atStart => exact ⟨rfl, rfl⟩
  case round =>
    obtain ⟨rfl, rfl⟩ := hrel
    go_wp2_with fail
    go_end0
    refine ⟨rfl, ?_⟩
    exact (show St okN w wr F (parts x d p { a with FR := F3 }) from S3.out).shut HR.out
end Go.Proofs.YtacipjdaiglnjaaGreatDoor

/- A process: is it late, has it votes, does it decide; the view that it may propose. -/
namespace Go.Proofs.YtacipjdaiglnjaaGreatDoor
open Go.RowKit PNode

theorem drewN_below (w : World) (k : Nat) : Below w.heap.size w (w.drewN k) := ⟨rfl, rfl, rfl, Nat.le_refl _, fun _ _ => rfl⟩

section
variable {w : World} {x d : Nat} {p : Np} {a : Na}
theorem isLate_c (B : Blk w x 79 (ncs d p a)) (hr : Nr p) :
    Calls Tryz.prog 67 #[.pointer (some ⟨x, 0, none⟩)] w fun e w' => e = .returned (.bool (late p)) ∧ Below w.heap.size w w' := by
  have c0 : w.cell? ⟨x, 0, none⟩ = some (.int .i64 p.id) := B.cell rfl
  have c4 : w.cell? ⟨x, 4, none⟩ = some (.int .i64 p.clock) := B.cell rfl
  have c5 : w.cell? ⟨x, 5, none⟩ = some (.int .i64 p.heard) := B.cell rfl
  have r1 := hr.clock
  have r2 := hr.heard
  have r3 := hr.id
  have r4 := hr.n
  have HI := Lib.hid (show late p = decide (8 + 2 * p.id ≤ p.clock - p.heard) from rfl)
  rw [HI.out]
  clear HI hr B
  generalize p.id = id at *
  generalize p.clock = clock at *
  generalize p.heard = heard at *
  obtain ⟨b, hb⟩ : ∃ b, decide (8 + 2 * id ≤ clock - heard) = b := ⟨_, rfl⟩
  rw [hb]
  go_enter Tryz.func67, Tryz.ntmps67
  go_wp2_with fail
  go_quiet (fail)
  go_wp2_with fail
  go_ret
  exact ⟨rfl, drewN_below _ _⟩

theorem hasVotes_c (B : Blk w x 79 (ncs d p a)) (D : Ds w d p.boot p.pro) (V : (pV p.n a p.vo).P w) :
    Calls Tryz.prog 63 #[.pointer (some ⟨x, 0, none⟩)] w fun e w' => e = .returned (.bool (hasV p)) ∧ Below w.heap.size w w' := by
  have c3 : w.cell? ⟨x, 3, none⟩ = some (.pointer (some ⟨d, 0, none⟩)) := B.cell rfl
  have c11 : w.cell? ⟨x, 11, none⟩ = some (ptO p.vo a.vg) := B.cell rfl
  have HI := Lib.hid (show hasV p = match p.vo with | none => false | some q => q.1 == p.pro from rfl)
  have HD := Lib.hid D
  have HV := Lib.hid V
  rw [HI.out]
  clear HI B D V
  generalize p.vo = vo at *
  cases vo with
  | none =>
    have c11' : w.cell? ⟨x, 11, none⟩ = some (.pointer none) := c11
    clear c11
    go_enter Tryz.func63, Tryz.ntmps63
    go_wp2_with fail
    go_quiet (fail)
    go_wp2_with fail
    go_ret
    exact ⟨rfl, drewN_below _ _⟩
  | some q =>
    obtain ⟨v, S⟩ := q
    have c11' : w.cell? ⟨x, 11, none⟩ = some (.pointer (some ⟨a.vg, 0, none⟩)) := c11
    have hV : ∀ k : Nat, Calls Tryz.prog 90 #[.pointer (some ⟨a.vg, 0, none⟩)] (w.drewN k) fun e w' => e = .returned (.int .i64 v) ∧ w' = w.drewN k := fun k => (vview_c (w.drewN k) a.vg a.FV v p.n S (Vs.past HV.out (drewN_below w k))).mono fun e w' h => ⟨h.1, h.2.symm⟩
    have hP : ∀ k : Nat, Calls Tryz.prog 49 #[.pointer (some ⟨d, 0, none⟩)] (w.drewN k) fun e w' => e = .returned (.int .i64 p.pro) ∧ w' = w.drewN k := fun k => (view_c (w.drewN k) d p.boot p.pro (HD.out.past (drewN_below w k))).mono fun e w' h => ⟨h.1, h.2.symm⟩
    clear c11
    show Calls _ _ _ _ fun e w' => e = .returned (.bool (v == p.pro)) ∧ _
    obtain ⟨b, hb⟩ : ∃ b, (v == p.pro) = b := ⟨_, rfl⟩
    rw [hb]
    go_enter Tryz.func63, Tryz.ntmps63
    go_wp2_with fail
    go_quiet (first | (go_at_call 90; refine Calls.quiet_of_same (hV _)) | (go_at_call 49; refine Calls.quiet_of_same (hP _)))
    go_wp2_with fail
    go_ret
    exact ⟨rfl, drewN_below _ _⟩

theorem decides_c (B : Blk w x 79 (ncs d p a)) (D : Ds w d p.boot p.pro) (hm : p.mem < 128) :
    Calls Tryz.prog 65 #[.pointer (some ⟨x, 0, none⟩)] w fun e w' => e = .returned (.bool (dec p)) ∧ Below w.heap.size w w' := by
  have c13 : w.cell? ⟨x, 13, none⟩ = some (ptO p.te a.tg) := B.cell rfl
  have HI := Lib.hid (show dec p = (p.te.isSome && inV p) from rfl)
  have HB := Lib.hid B
  have HD := Lib.hid D
  have HM := Lib.hid hm
  rw [HI.out]
  clear HI B D hm
  cases ht : p.te with
  | none =>
    have c13' : w.cell? ⟨x, 13, none⟩ = some (.pointer none) := by rw [c13, ht]; rfl
    clear c13 ht
    go_enter Tryz.func65, Tryz.ntmps65
    go_wp2_with fail
    go_ret
    exact ⟨rfl, Below.refl _ _⟩
  | some q =>
    have c13' : w.cell? ⟨x, 13, none⟩ = some (.pointer (some ⟨a.tg, 0, none⟩)) := by rw [c13, ht]; rfl
    clear c13 ht
    go_enter Tryz.func65, Tryz.ntmps65
    go_wp2_with fail
    refine (ndIn_c HB.out HD.out HM.out).mono ?_
    rintro e w' ⟨rfl, b⟩
    go_wp2_with fail
    go_ret
    exact ⟨rfl, b⟩

set_option maxHeartbeats 4000000 in
theorem nextView_c (B : Blk w x 79 (ncs d p a)) (D : Ds w d p.boot p.pro) (hr : Nr p) (h1 : p.pro ≤ 1000000) (h2 : p.den ≤ 1000000) :
    Calls Tryz.prog 118 #[.pointer (some ⟨x, 0, none⟩)] w fun e w' => ∃ v, e = .returned (.int .i64 v) ∧ IsNext p.id p.n (max p.pro p.den + 1) v ∧ Below w.heap.size w w' := by
  have c3 : w.cell? ⟨x, 3, none⟩ = some (.pointer (some ⟨d, 0, none⟩)) := B.cell rfl
  have c12 : w.cell? ⟨x, 12, none⟩ = some (.int .i64 p.den) := B.cell rfl
  have HD := Lib.hid D
  have HB := Lib.hid B
  have r1 := hr.pro
  have r2 := hr.den
  have r3 := hr.n
  have r4 := hr.id
  have hP : ∀ k : Nat, Calls Tryz.prog 49 #[.pointer (some ⟨d, 0, none⟩)] (w.drewN k) fun e w' => e = .returned (.int .i64 p.pro) ∧ w' = w.drewN k := fun k => (view_c (w.drewN k) d p.boot p.pro (HD.out.past (drewN_below w k))).mono fun e w' h => ⟨h.1, h.2.symm⟩
  have m1 : max p.pro p.den ≤ 1000000 := Int.max_le.2 ⟨h1, h2⟩
  have m0 : 0 ≤ max p.pro p.den := Int.le_trans r1.1 (Int.le_max_left ..)
  have HX := Lib.hid (next_some (id := p.id) (n := p.n) (least := max p.pro p.den + 1) r3.1 r3.2 r4.1 r4.2 (by omega))
  clear B D hr h1 h2
  go_enter Tryz.func118, Tryz.ntmps118
  go_wp2_with fail
  go_quiet (first | (go_at_call 49; refine Calls.quiet_of_same (hP _)))
  have BW := Lib.hid (drewN_below w 1)
  clear c3 c12 hP
  go_wp2_with fail
  go_loopw [4] (fun s4 wr => ∃ k : Nat, s4 = .int .i64 (max p.pro p.den + 1 + (k : Int)) ∧ (k : Int) ≤ p.n ∧ Hid (∀ j : Nat, j < k → PTeam.decider (max p.pro p.den + 1 + (j : Int)) p.n ≠ p.id) ∧ Hid (Below w.heap.size w wr)) (fun s4 _ => (max p.pro p.den + 1 + p.n - intOf s4).toNat)
  case atStart => exact ⟨0, by simp, by omega, Lib.hid (fun j hj => by omega), Lib.hid ⟨rfl, rfl, rfl, Nat.le_refl _, fun _ _ => rfl⟩⟩
  case round =>
    obtain ⟨k, rfl, hk, HN, BT⟩ := hrel
    have hkn : (k : Int) < p.n := by
      obtain ⟨v, hv1, hv2, hv3⟩ := HX.out
      rcases Int.lt_or_le (k : Int) p.n with h | h
      · exact h
      · exfalso
        have := HN.out (v - (max p.pro p.den + 1)).toNat (by omega)
        rw [show max p.pro p.den + 1 + ((v - (max p.pro p.den + 1)).toNat : Int) = v by omega] at this
        exact this hv3
    have B2 := HB.out.below BT.out HB.out.lt
    have c0 : wr.cell? ⟨x, 0, none⟩ = some (.int .i64 p.id) := B2.cell rfl
    have c1 : wr.cell? ⟨x, 1, none⟩ = some (.int .i64 p.n) := B2.cell rfl
    have hT : ∀ W : World, Calls Tryz.prog 121 #[.int .i64 (max p.pro p.den + 1 + (k : Int)), .int .i64 p.n] W fun e w' => e = .returned (.int .i64 (PTeam.decider (max p.pro p.den + 1 + (k : Int)) p.n)) ∧ w' = W := fun W => (tDecider_c W _ p.n (by omega) (by omega)).mono fun e w' h => ⟨h.1, h.2.symm⟩
    have HE := Lib.hid (show (PTeam.decider (max p.pro p.den + 1 + (k : Int)) p.n == p.id) = true ∨ (PTeam.decider (max p.pro p.den + 1 + (k : Int)) p.n == p.id) = false by cases (PTeam.decider (max p.pro p.den + 1 + (k : Int)) p.n == p.id) <;> simp)
    clear B2
    go_wp2_with fail
    have HQ := Lib.hid (show IsNext p.id p.n (max p.pro p.den + 1) (max p.pro p.den + 1 + (k : Int)) ↔ PTeam.decider (max p.pro p.den + 1 + (k : Int)) p.n = p.id from ⟨fun h => h.2.2, fun h => ⟨by omega, by omega, h⟩⟩)
    obtain ⟨dd, hdd⟩ : ∃ dd, PTeam.decider (max p.pro p.den + 1 + (k : Int)) p.n = dd := ⟨_, rfl⟩
    rw [hdd] at hT HE HQ
    have HDD := Lib.hid hdd
    clear hdd
    rcases HE.out with h | h
    · go_quiet (first | (go_at_call 121; refine Calls.quiet_of_same (hT _)))
      go_wp2_with fail
      go_ret
      exact ⟨_, rfl, HQ.out.2 (by simpa using h), BT.out.trans ((drewN_below _ _).mono BT.out.size)⟩
    · go_quiet (first | (go_at_call 121; refine Calls.quiet_of_same (hT _)))
      go_wp2_with fail
      go_roundw
      case rel => exact ⟨k + 1, by go_num, by omega, Lib.hid (fun j hj => by
        rcases Nat.lt_or_ge j k with h2 | h2
        · exact HN.out j h2
        · obtain rfl : j = k := by omega
          rw [HDD.out]; simpa using h), Lib.hid (BT.out.trans ((drewN_below _ _).mono BT.out.size))⟩
      case measure => simp [intOf]; omega
end
end Go.Proofs.YtacipjdaiglnjaaGreatDoor

/- Package join: Ask. -/
namespace Go.Proofs.YtacipjdaiglnjaaGreatDoor
open Go.RowKit PJoin

/-- '[]api.Msg{m}' in a region that draws. -/
theorem wpList_buildMs {w : World} {ops : Array Oper} {rest : List Oper} {o : Oper} {a : Act} {Q : Exit → Act → World → Prop} (hgd : o.guard = none) (x : Operand) (ho : o.op = .buildSlice 34 1 #[(0, x)]) (m : Msg) (A : Option Addr) (c : Nat) (hx : a.eval x = mv m A c)
    (h : wpList Tryz.prog ops Q rest (a.put o.dst (.slice (some ⟨w.heap.size, 0, none⟩) 1 1)) (w.alloc (.cells (mcs m A c).toArray 31))) : wpList Tryz.prog ops Q (o :: rest) a w := by
  obtain ⟨i, hi0, hz, hk, -⟩ := info_parts nMsg_info
  refine wpList_buildSlice hgd 34 31 1 _ ho (mcs m A c).toArray i (mv zeroM none 0) Tryz.underlying34 hi0 hz (by rw [hk]; omega) (by rw [hk]; omega) ?_ h
  rw [hk]
  have hb : (Array.range (1 * 13)).map (fun x => (mv zeroM none 0).cells[x % (mv zeroM none 0).cells.size]!) = (mcs zeroM none 0).toArray := by kernel_rfl
  rw [hb]
  simp [Instr.fill, mv, mcs, Value.cells, hx]

/-- Those that are asked, among the first k. -/
def asksP (me boot : Int) (k : Nat) : List Mp := (asks me boot k).map fun m => ⟨m, none, 0⟩
theorem asksP_me {me boot : Int} {k : Nat} (h : (k : Int) + 1 = me) : asksP me boot (k + 1) = asksP me boot k := by unfold asksP; rw [asks_me h]
theorem asksP_not {me boot : Int} {k : Nat} (h : (k : Int) + 1 ≠ me) : asksP me boot (k + 1) = asksP me boot k ++ [⟨askM me boot (k + 1), none, 0⟩] := by unfold asksP; rw [asks_not h, List.map_append]; rfl
theorem asksP_le (me boot : Int) : ∀ k : Nat, (asksP me boot k).length ≤ k
  | 0 => Nat.le_refl _
  | k + 1 => by
    have := asksP_le me boot k
    by_cases h : (k : Int) + 1 = me
    · rw [asksP_me h]; omega
    · rw [asksP_not h, List.length_append, List.length_singleton]; omega

set_option maxHeartbeats 4000000 in
set_option maxRecDepth 100000 in
theorem jask_c (w : World) (g : Nat) (F : List Nat) (me boot pro : Int) (n : Nat) (hn : n ≤ 7) (o : Option Msg) (h : Jn w g F me n boot pro o) :
    Calls Tryz.prog 62 #[.pointer (some ⟨g, 0, none⟩)] w fun e w' => ∃ A c, e = .returned (.slice A (asksP me boot n).length c) ∧ Ms w' w.heap.size A c (asksP me boot n) ∧ Below w.heap.size w w' := by
  obtain ⟨m0, A0, c0, hB⟩ := h.blk
  have HG := Lib.hid hB.lt
  have JB := Lib.hid hB
  clear h hB
  go_enter Tryz.func62, Tryz.ntmps62
  go_wp2_with fail
  go_loopw [3, 4] (fun s3 s4 wr => ∃ (k : Nat) (A : Option Addr) (c : Nat) (Q : List Mp), s4 = .int .i64 ((k : Int) + 1) ∧ k ≤ n ∧ Q.length ≤ 7 ∧ s3 = .slice A Q.length c ∧ Hid (Q = asksP me boot k) ∧ Hid (Ms wr w.heap.size A c Q) ∧ Hid (Below w.heap.size w wr)) (fun _ s4 _ => n + 1 - (intOf s4).toNat)
  case atStart => exact ⟨0, none, 0, [], rfl, by omega, by simp, rfl, Lib.hid rfl, Lib.hid (Ms.nil _ _), Lib.hid (Below.refl _ _)⟩
  case round =>
    obtain ⟨k, A, c, Q, rfl, hk, hq7, rfl, HQ, MM, BT⟩ := hrel
    obtain ⟨d0, d1, d2, -, -⟩ := (JB.out.below BT.out HG.out).join
    by_cases hlt : k < n
    · by_cases he : (k : Int) + 1 = me
      · have e1 : ((k : Int) + 1 == me) = true := by rw [he]; simp
        have e2 : ((k : Int) + 1 != me) = false := by rw [he]; simp
        have HE := Lib.hid (asksP_me (boot := boot) he)
        clear he
        go_wp2_with fail
        go_roundw
        case rel => exact ⟨k + 1, A, c, Q, by go_num, by omega, hq7, rfl, Lib.hid (by rw [HE.out]; exact HQ.out), MM, BT⟩
        case measure => simp [intOf]; omega
      · have e1 : ((k : Int) + 1 == me) = false := by simpa using he
        have e2 : ((k : Int) + 1 != me) = true := by simpa using he
        have HE := Lib.hid (asksP_not (boot := boot) he)
        have hl : (Q ++ [⟨askM me boot (k + 1), none, 0⟩] : List Mp).length ≤ 7 := by
          have := asksP_le me boot (k + 1)
          rw [asksP_not he, ← HQ.out] at this
          omega
        have HL := Lib.hid hl
        have hq6 : Q.length ≤ 6 := by rw [List.length_append, List.length_singleton] at hl; omega
        have MA := Lib.hid (MM.out.past ((Below.refl wr.heap.size wr).drew.alloc (Nat.le_refl _) (.cells (mcs (askM me boot ((k : Int) + 1)) none 0).toArray 31)))
        have RN := Lib.hid (Rd.new wr.drew (mcs (askM me boot ((k : Int) + 1)) none 0).toArray 31 13 1 rfl (by unfold maxLen; omega))
        have HSZ := Lib.hid (show w.heap.size ≤ (wr.drew.alloc (.cells (mcs (askM me boot ((k : Int) + 1)) none 0).toArray 31)).heap.size from Nat.le_trans BT.out.size (by simp))
        have HFIT := Lib.hid (show (-9223372036854775808 : Int) ≤ (askM me boot ((k : Int) + 1)).mem ∧ (askM me boot ((k : Int) + 1)).mem ≤ 9223372036854775807 from (show (-9223372036854775808 : Int) ≤ 0 ∧ (0 : Int) ≤ 9223372036854775807 by decide))
        clear he hl
        go_wp2_with fail
        clear d0 d1 d2
-- REGION (*curfew/join.Join).Ask 8 jask8 8
        refine Hb.beginB (B := w.heap.size) ?_
        refine Hb.take 0 21 rfl ?_ (fun w' hw' => by go_simp; first | done | rfl)
        refine Hb.take (v := .pointer (some ⟨g, 0, none⟩)) 1 22 rfl ?_ (fun _ _ => rfl)
        refine Hb.take (v := .pointer (some ⟨g, 0, none⟩)) 2 23 rfl ?_ (fun w' hw' => by go_simp; first | done | rfl | (simp; omega))
        refine Hb.take (v := .pointer (some ⟨g, 0, none⟩)) 3 24 rfl ?_ (fun w' hw' => by go_simp; first | done | rfl | (simp; omega))
        refine Hb.take (v := .int .i64 me) 4 25 rfl ?_ (fun w' hw' => by exact run_loadJi ((JB.out.below (BT.out.drew.trans hw') HG.out).cell (i := 0) rfl) rfl)
        refine Hb.take (v := .int .i64 ((k : Int) + 1)) 5 26 rfl ?_ (fun _ _ => rfl)
        refine Hb.take (v := .pointer (some ⟨g, 0, none⟩)) 6 27 rfl ?_ (fun _ _ => rfl)
        refine Hb.take (v := .pointer (some ⟨g, 0, none⟩)) 7 28 rfl ?_ (fun w' hw' => by go_simp; first | done | rfl | (simp; omega))
        refine Hb.take (v := .pointer (some ⟨g, 2, none⟩)) 8 29 rfl ?_ (fun w' hw' => by go_simp; first | done | rfl | (simp; omega))
        refine Hb.take (v := .int .i64 boot) 9 30 rfl ?_ (fun w' hw' => by exact run_loadI ((JB.out.below (BT.out.drew.trans hw') HG.out).cell (i := 2) rfl) rfl)
        refine Hb.take (v := .pointer (some ⟨g, 0, none⟩)) 10 31 rfl ?_ (fun _ _ => rfl)
        refine Hb.take (v := .pointer (some ⟨g, 0, none⟩)) 11 32 rfl ?_ (fun w' hw' => by go_simp; first | done | rfl | (simp; omega))
        refine Hb.take (v := .pointer (some ⟨g, 2, none⟩)) 12 33 rfl ?_ (fun w' hw' => by go_simp; first | done | rfl | (simp; omega))
        refine Hb.take (v := .int .i64 boot) 13 34 rfl ?_ (fun w' hw' => by exact run_loadI ((JB.out.below (BT.out.drew.trans hw') HG.out).cell (i := 2) rfl) rfl)
        refine Hb.take (v := .agg #[.int .i64 10, .int .i64 me, .int .i64 ((k : Int) + 1), .int .i64 boot, .int .i64 0, .int .i64 0, .int .i64 0, .int .i64 0, .slice none 0 0, .int .i64 0, .int .i64 boot, .int .i64 0, .bool false]) 14 35 rfl ?_ (fun w' hw' => by go_simp; first | done | rfl | omega | exact wrap_in (by omega) (by omega) | exact Int.tmod_eq_emod_of_nonneg (by omega) | exact Int.tdiv_eq_ediv_of_nonneg (by omega) | (simp; omega))
        refine Hb.only 15 (some 36) rfl ?_
        refine wpList_buildMs rfl (.tmp 35) rfl (askM me boot ((k : Int) + 1)) none 0 rfl ?_
        refine Hb.next (B' := w.heap.size) (((Below.refl _ _).alloc (Nat.le_refl _) _).mono BT.out.size) (Nat.le_refl _) ?_
        refine Hb.only 16 (some 37) rfl ?_
        refine wpList_app2 rfl (.tmp 21) (.tmp 36) 34 rfl w.heap.size 31 _ 13 120 Tryz.underlying34 nMsg_info rfl (by omega) A Q.length c (mgs Q) rfl MA.out.row _ _ 1 1 (mgc ⟨askM me boot ((k : Int) + 1), none, 0⟩) rfl RN.out (mgc_oneCell _) (by unfold maxLen; omega) (by omega) HSZ.out ?_
        intro A2 c2 w3 O3 g3 h3
        have M3 := Lib.hid (MA.out.app (q := ⟨askM me boot ((k : Int) + 1), none, 0⟩) g3 O3 (Ow.nil _ _ _ _) HFIT.out)
        have T3 := Lib.hid ((Touch.of_bk g3).below (B := w.heap.size) (fun s hs => MA.out.row.low s (mem_bl.1 hs)) HSZ.out)
        clear O3 g3 h3
        refine Hb.next (B' := w.heap.size) T3.out (Nat.le_refl _) ?_
        refine Hb.take (v := .slice A2 (Q.length + 1) c2) 17 3 rfl ?_ (fun _ _ => rfl)
        refine Hb.done ?_
-- END
        have BT2 := Lib.hid (((BT.out.drew.trans (((Below.refl _ _).alloc (Nat.le_refl _) _).mono BT.out.size)).trans T3.out))
        go_wp2_with fail
        go_roundw
        case rel => exact ⟨k + 1, A2, c2, Q ++ [⟨askM me boot (k + 1), none, 0⟩], by go_num, by omega, HL.out, by simp, Lib.hid (by rw [HE.out, HQ.out]), M3, BT2⟩
        case measure => simp [intOf]; omega
    · obtain rfl : k = n := by omega
      go_wp2_with fail
      go_ret
      refine ⟨A, c, ?_, ?_, BT.out⟩
      · rw [← HQ.out]; rfl
      · rw [← HQ.out]; exact MM.out
end Go.Proofs.YtacipjdaiglnjaaGreatDoor

