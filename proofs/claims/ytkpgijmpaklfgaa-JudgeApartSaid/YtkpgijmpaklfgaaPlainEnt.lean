/- Plain mathematics of entries: which may be, their bytes, what is read of bytes. No program is named here. -/
import Derived.Test.YtkpgijmpaklfgaaPlainNumB
import Derived.Test.YtkpgijmpaklfgaaKit
namespace Go.Proofs.Ytkpgijmpaklfgaa.PNum

theorem zig_unzig (v : Nat) : zig (unzig v) = v := by
  unfold unzig zig; split <;> split <;> omega

/-- What is read as a number is what is written of it. -/
theorem getB_inv : ∀ (l : List Int) (i u : Nat) (x k : Int), isB l → getB i u l = (x, k, 0) →
    ∃ v, (0 < v ∨ i = 0) ∧ x = unzig (u + v * 128 ^ i) ∧ l.take (k - i).toNat = sev v ∧ (i : Int) < k ∧ k ≤ i + l.length := by
  intro l
  induction l with
  | nil => intro i u x k _ h; simp [getB] at h
  | cons c r ih =>
    intro i u x k hb h
    have hc := hb c (List.mem_cons_self ..)
    unfold getB at h
    by_cases h9 : i = 9 ∧ 1 < c
    · rw [if_pos h9] at h; simp at h
    · rw [if_neg h9] at h
      by_cases h1 : c < 128
      · rw [if_pos h1] at h
        by_cases h0 : c = 0 ∧ 0 < i
        · rw [if_pos h0] at h; simp at h
        · rw [if_neg h0] at h
          simp only [Prod.mk.injEq] at h
          obtain ⟨rfl, rfl, _⟩ := h
          refine ⟨c.toNat, by omega, rfl, ?_, by omega, by simp only [List.length_cons]; omega⟩
          have e : ((i : Int) + 1 - i).toNat = 1 := by omega
          rw [e, sev_lo (by omega)]
          have e2 : ((c.toNat : Nat) : Int) = c := by omega
          rw [e2]; simp
      · rw [if_neg h1] at h
        obtain ⟨v, hv, hx, ht, hk, hk2⟩ := ih (i + 1) _ x k (fun d hd => hb d (List.mem_cons_of_mem _ hd)) h
        have hv0 : 0 < v := by omega
        refine ⟨c.toNat - 128 + v * 128, by omega, ?_, ?_, by omega, by simp only [List.length_cons]; omega⟩
        · rw [hx]
          congr 1
          rw [Nat.add_mul, Nat.pow_succ, Nat.mul_assoc, Nat.mul_comm (128 ^ i) 128, Nat.add_assoc]
        · rw [sev_hi (by omega)]
          have e1 : (c.toNat - 128 + v * 128) % 128 = c.toNat - 128 := by omega
          have e2 : (c.toNat - 128 + v * 128) / 128 = v := by omega
          rw [e1, e2]
          have e3 : (k - i).toNat = (k - ((i + 1 : Nat) : Int)).toNat + 1 := by omega
          rw [e3, List.take_succ_cons, ht]
          congr 1
          omega

theorem getB_whole {l : List Int} {x k : Int} (hb : isB l) (h : getB 0 0 l = (x, k, 0)) : l.take k.toNat = sev (zig x) ∧ 0 < k ∧ k ≤ l.length := by
  obtain ⟨v, _, hx, ht, hk, hk2⟩ := getB_inv l 0 0 x k hb h
  have e : x = unzig v := by rw [hx]; simp
  rw [e, zig_unzig]
  refine ⟨?_, by omega, by omega⟩
  rw [← ht]; congr 1; omega

theorem getT_whole {l s : List Int} {k : Int} (hb : isB l) (h : getT l = (s, k, 0)) : l.take k.toNat = sev (zig s.length) ++ s ∧ 0 < k ∧ k ≤ l.length ∧ isB s := by
  unfold getT at h
  obtain ⟨⟨x, j, e⟩, hg⟩ : ∃ r, getB 0 0 l = r := ⟨_, rfl⟩
  rw [hg] at h
  by_cases h0 : e = 0
  · subst h0
    rw [if_pos rfl] at h
    obtain ⟨h1, h2, h3⟩ := getB_whole hb hg
    by_cases hx : x < 0 ∨ 65536 < x
    · rw [if_pos hx] at h; simp at h
    · rw [if_neg hx] at h
      by_cases hl : (l.length : Int) < j + x
      · rw [if_pos hl] at h; simp at h
      · rw [if_neg hl] at h
        simp only [Prod.mk.injEq, and_true] at h
        obtain ⟨rfl, rfl⟩ := h
        have e1 : ((l.drop j.toNat).take x.toNat).length = x.toNat := by rw [List.length_take, List.length_drop]; omega
        refine ⟨?_, by omega, by omega, (hb.drop _).take _⟩
        rw [e1, show (j + x).toNat = j.toNat + x.toNat by omega, List.take_add, h1, show ((x.toNat : Nat) : Int) = x by omega]
  · rw [if_neg h0] at h
    simp only [Prod.mk.injEq] at h
    exact absurd h.2.2 h0

end Go.Proofs.Ytkpgijmpaklfgaa.PNum
namespace Go.Proofs.Ytkpgijmpaklfgaa
open PNum

/-- An entry. -/
structure Ent where
  fr : Int
  boot : Int
  seq : Int
  ord : Int
  lev : Int
  stamp : Int
  data : ByteArray

namespace PEnt

/-- Each number is an int64. -/
structure Fit (e : Ent) : Prop where
  f0 : -9223372036854775808 ≤ e.fr ∧ e.fr ≤ 9223372036854775807
  f1 : -9223372036854775808 ≤ e.boot ∧ e.boot ≤ 9223372036854775807
  f2 : -9223372036854775808 ≤ e.seq ∧ e.seq ≤ 9223372036854775807
  f3 : -9223372036854775808 ≤ e.ord ∧ e.ord ≤ 9223372036854775807
  f4 : -9223372036854775808 ≤ e.lev ∧ e.lev ≤ 9223372036854775807
  f5 : -9223372036854775808 ≤ e.stamp ∧ e.stamp ≤ 9223372036854775807

/-- It may be. -/
def May (e : Ent) : Prop := (1 ≤ e.fr ∧ e.fr ≤ 7) ∧ (1 ≤ e.boot ∧ e.boot ≤ 1099511627776) ∧ (1 ≤ e.seq ∧ e.seq ≤ 1099511627776) ∧ (0 ≤ e.ord ∧ e.ord ≤ 2) ∧ (0 ≤ e.lev ∧ e.lev ≤ 2) ∧ (0 ≤ e.stamp ∧ e.stamp ≤ 1099511627776) ∧ e.data.size ≤ 16
instance (e : Ent) : Decidable (May e) := by unfold May; infer_instance
def may (e : Ent) : Bool := decide (May e)
theorem may_iff (e : Ent) : may e = true ↔ May e := by simp [may]
theorem May.fit {e : Ent} (h : May e) : Fit e := by
  obtain ⟨h0, h1, h2, h3, h4, h5, _⟩ := h
  constructor <;> constructor <;> omega

/-- One broadcast; all the same. -/
def same (a b : Ent) : Bool := a.fr == b.fr && a.boot == b.boot && a.seq == b.seq
def eqE (a b : Ent) : Bool := a.fr == b.fr && a.boot == b.boot && a.seq == b.seq && a.ord == b.ord && a.lev == b.lev && a.stamp == b.stamp && a.data.toList == b.data.toList
theorem bytes_ext {a b : ByteArray} (h : a.toList = b.toList) : a = b := by
  have h3 : a.data.toList = b.data.toList := by rw [← ByteArray.toList_eq, ← ByteArray.toList_eq, h]
  cases a; cases b; simp at h3; subst h3; rfl
theorem eqE_iff (a b : Ent) : eqE a b = true ↔ a = b := by
  obtain ⟨a0, a1, a2, a3, a4, a5, a6⟩ := a
  obtain ⟨b0, b1, b2, b3, b4, b5, b6⟩ := b
  simp only [eqE, Bool.and_eq_true, beq_iff_eq, Ent.mk.injEq]
  constructor
  · rintro ⟨⟨⟨⟨⟨⟨h0, h1⟩, h2⟩, h3⟩, h4⟩, h5⟩, h6⟩; exact ⟨h0, h1, h2, h3, h4, h5, bytes_ext h6⟩
  · rintro ⟨h0, h1, h2, h3, h4, h5, rfl⟩; exact ⟨⟨⟨⟨⟨⟨h0, h1⟩, h2⟩, h3⟩, h4⟩, h5⟩, rfl⟩
def eqL : List Ent → List Ent → Bool
  | [], [] => true
  | a :: l, b :: m => eqE a b && eqL l m
  | _, _ => false
theorem eqL_iff : ∀ l m : List Ent, eqL l m = true ↔ l = m
  | [], [] => by simp [eqL]
  | [], _ :: _ => by simp [eqL]
  | _ :: _, [] => by simp [eqL]
  | a :: l, b :: m => by simp [eqL, eqE_iff, eqL_iff l m]

/-- Its numbers, in their order; an entry of numbers and a text. -/
def nums (e : Ent) : List Int := [e.fr, e.boot, e.seq, e.ord, e.lev, e.stamp]
def entOf (xs : List Int) (d : ByteArray) : Ent := ⟨xs.getD 0 0, xs.getD 1 0, xs.getD 2 0, xs.getD 3 0, xs.getD 4 0, xs.getD 5 0, d⟩
/-- The bytes of numbers, of an entry, of entries. -/
def encN : List Int → List Int
  | [] => []
  | x :: r => sev (zig x) ++ encN r
def encE (e : Ent) : List Int := encN (nums e) ++ (sev (zig e.data.size) ++ sb e.data)
def enc : List Ent → List Int
  | [] => []
  | e :: r => encE e ++ enc r
/-- What is told: nothing, where one may not be. -/
def encode (l : List Ent) : List Int := if l.all may = true then enc l else []

theorem encN_append (a b : List Int) : encN (a ++ b) = encN a ++ encN b := by
  induction a with
  | nil => rfl
  | cons x r ih => simp [encN, ih]
theorem enc_append (a b : List Ent) : enc (a ++ b) = enc a ++ enc b := by
  induction a with
  | nil => rfl
  | cons x r ih => simp [enc, ih]
theorem encN_byte (l : List Int) : isB (encN l) := by
  induction l with
  | nil => intro x hx; simp [encN] at hx
  | cons x r ih => exact isB.append (sev_byte _) ih
theorem encE_byte (e : Ent) : isB (encE e) := (encN_byte _).append (isB.append (sev_byte _) (sb_isB _))
theorem enc_byte (l : List Ent) : isB (enc l) := by
  induction l with
  | nil => intro x hx; simp [enc] at hx
  | cons x r ih => exact (encE_byte x).append ih
theorem encode_byte (l : List Ent) : isB (encode l) := by
  unfold encode; split
  · exact enc_byte l
  · intro x hx; simp at hx
theorem encN_pos {x : Int} (r : List Int) : 0 < (encN (x :: r)).length := by
  have := sev_pos (zig x); simp [encN]; omega
theorem encE_pos (e : Ent) : 0 < (encE e).length := by
  have := encN_pos (x := e.fr) [e.boot, e.seq, e.ord, e.lev, e.stamp]
  simp only [encE, nums, List.length_append]; omega
theorem encN_len (l : List Int) (h : ∀ x ∈ l, -9223372036854775808 ≤ x ∧ x ≤ 9223372036854775807) : (encN l).length ≤ 10 * l.length := by
  induction l with
  | nil => simp [encN]
  | cons x r ih =>
    have h1 := h x (List.mem_cons_self ..)
    have h2 := sev_ten (zig x) (zig_lt x h1.1 h1.2)
    have h3 := ih (fun y hy => h y (List.mem_cons_of_mem _ hy))
    simp only [encN, List.length_append, List.length_cons]; omega
theorem nums_fit {e : Ent} (h : Fit e) : ∀ x ∈ nums e, -9223372036854775808 ≤ x ∧ x ≤ 9223372036854775807 := by
  intro x hx
  obtain ⟨h0, h1, h2, h3, h4, h5⟩ := h
  simp only [nums, List.mem_cons, List.not_mem_nil, or_false] at hx
  rcases hx with rfl | rfl | rfl | rfl | rfl | rfl <;> assumption
theorem encE_len {e : Ent} (h : Fit e) (hd : e.data.size ≤ 65536) : (encE e).length ≤ 70 + e.data.size := by
  have h1 := encN_len (nums e) (nums_fit h)
  have h2 := sev_ten (zig e.data.size) (zig_lt _ (by omega) (by omega))
  have h3 := sb_length e.data
  simp only [encE, List.length_append, nums, List.length_cons, List.length_nil] at *
  omega
theorem enc_len (l : List Ent) (h : l.all may = true) : (enc l).length ≤ 86 * l.length := by
  induction l with
  | nil => simp [enc]
  | cons e r ih =>
    simp only [List.all_cons, Bool.and_eq_true] at h
    have hm := (may_iff e).1 h.1
    have h1 := encE_len hm.fit (by have := hm.2.2.2.2.2.2; omega)
    have h2 := ih h.2
    have h3 := hm.2.2.2.2.2.2
    simp only [enc, List.length_append, List.length_cons]; omega
theorem encode_len (l : List Ent) : (encode l).length ≤ 86 * l.length := by
  unfold encode; split
  · next h => exact enc_len l h
  · simp
theorem encode_zero (l : List Ent) : (encode l).length = 0 ↔ (l.all may = false ∨ l = []) := by
  unfold encode
  cases h : l.all may
  · simp
  · rcases l with _ | ⟨e, r⟩
    · simp [enc]
    · have := encE_pos e
      rw [if_pos rfl]
      constructor
      · intro h'
        simp only [enc, List.length_append] at h'
        omega
      · intro h'
        rcases h' with h' | h' <;> cases h'

/-- Numbers at the beginning of bytes, how many bytes they take. -/
def rdN : Nat → List Int → Option (List Int × Nat)
  | 0, _ => some ([], 0)
  | k + 1, l =>
    if (getB 0 0 l).2.2 = 0 then
      match rdN k (l.drop (getB 0 0 l).2.1.toNat) with
      | some (xs, m) => some ((getB 0 0 l).1 :: xs, (getB 0 0 l).2.1.toNat + m)
      | none => none
    else none
/-- What stands behind an entry's numbers xs, p bytes on. -/
def rdT (l : List Int) (xs : List Int) (p : Nat) : Option (Ent × Nat) :=
  if (getT (l.drop p)).2.2 = 0 then
    if may (entOf xs (strOfNums (getT (l.drop p)).1)) = true then some (entOf xs (strOfNums (getT (l.drop p)).1), p + (getT (l.drop p)).2.1.toNat) else none
  else none
/-- An entry at the beginning of bytes, how many bytes it takes. -/
def rdE (l : List Int) : Option (Ent × Nat) :=
  match rdN 6 l with
  | some (xs, p) => rdT l xs p
  | none => none
/-- Entries, to the end; so many at most. -/
def rdL : Nat → List Int → Option (List Ent)
  | _, [] => some []
  | 0, _ :: _ => none
  | f + 1, c :: r =>
    match rdE (c :: r) with
    | some (e, k) => (rdL f ((c :: r).drop k)).map (e :: ·)
    | none => none

theorem rdN_enc : ∀ (xs r : List Int), (∀ x ∈ xs, -9223372036854775808 ≤ x ∧ x ≤ 9223372036854775807) → rdN xs.length (encN xs ++ r) = some (xs, (encN xs).length) := by
  intro xs
  induction xs with
  | nil => intro r _; rfl
  | cons x xs ih =>
    intro r h
    have hx := h x (List.mem_cons_self ..)
    have hg := getB_put x (encN xs ++ r) hx.1 hx.2
    simp only [List.length_cons, rdN, encN, List.append_assoc]
    rw [hg, if_pos rfl]
    simp only [Int.toNat_natCast, List.drop_left, ih r (fun y hy => h y (List.mem_cons_of_mem _ hy)), List.length_append]
theorem rdN_inv : ∀ (k : Nat) (l xs : List Int) (m : Nat), isB l → rdN k l = some (xs, m) → xs.length = k ∧ m ≤ l.length ∧ l.take m = encN xs ∧ ∀ x ∈ xs, -9223372036854775808 ≤ x ∧ x ≤ 9223372036854775807 := by
  intro k
  induction k with
  | zero => intro l xs m _ h; simp [rdN] at h; obtain ⟨rfl, rfl⟩ := h; simp [encN]
  | succ k ih =>
    intro l xs m hb h
    simp only [rdN] at h
    obtain ⟨⟨x, j, e⟩, hg⟩ : ∃ r, getB 0 0 l = r := ⟨_, rfl⟩
    rw [hg] at h
    by_cases h0 : e = 0
    · subst h0
      rw [if_pos rfl] at h
      simp only at h
      obtain ⟨h1, h2, h3⟩ := getB_whole hb hg
      obtain ⟨hx1, hx2, _, _⟩ := getB_ok l 0 0 x j hb (by omega) (by decide) hg
      cases hr : rdN k (l.drop j.toNat) with
      | none => rw [hr] at h; simp at h
      | some p =>
        obtain ⟨ys, q⟩ := p
        rw [hr] at h
        simp only [Option.some.injEq, Prod.mk.injEq] at h
        obtain ⟨rfl, rfl⟩ := h
        obtain ⟨i1, i2, i3, i4⟩ := ih _ ys q (hb.drop _) hr
        rw [List.length_drop] at i2
        refine ⟨by simp [i1], by omega, ?_, ?_⟩
        · rw [List.take_add, h1, i3]; rfl
        · intro y hy
          rcases List.mem_cons.1 hy with rfl | hy
          · exact ⟨hx1, hx2⟩
          · exact i4 y hy
    · rw [if_neg h0] at h; simp at h

theorem list6 {xs : List Int} (h : xs.length = 6) (d : ByteArray) : nums (entOf xs d) = xs := by
  match xs, h with
  | [a, b, c, e, f, g], _ => rfl
theorem entOf_nums (e : Ent) : entOf (nums e) e.data = e := rfl

theorem rdE_enc {e : Ent} (h : May e) (r : List Int) : rdE (encE e ++ r) = some (e, (encE e).length) := by
  have h1 := rdN_enc (nums e) ((sev (zig e.data.size) ++ sb e.data) ++ r) (nums_fit h.fit)
  have hn : (nums e).length = 6 := rfl
  rw [hn, ← List.append_assoc] at h1
  have hd := h.2.2.2.2.2.2
  have h2 := getT_put e.data.size (sb e.data) r (sb_length _) (by omega)
  unfold rdE
  unfold encE
  rw [h1]
  simp only [rdT]
  rw [show (encN (nums e) ++ (sev (zig ↑e.data.size) ++ sb e.data) ++ r).drop (encN (nums e)).length = sev (zig ↑e.data.size) ++ sb e.data ++ r by rw [List.append_assoc, List.drop_left], h2, if_pos rfl]
  simp only [str_sb, entOf_nums]
  rw [if_pos ((may_iff e).2 h)]
  have e1 := sb_length e.data
  simp only [List.length_append, Option.some.injEq, Prod.mk.injEq, true_and]
  omega
theorem rdE_inv {l : List Int} {e : Ent} {k : Nat} (hb : isB l) (h : rdE l = some (e, k)) : May e ∧ 0 < k ∧ k ≤ l.length ∧ l.take k = encE e := by
  unfold rdE at h
  cases hr : rdN 6 l with
  | none => rw [hr] at h; simp at h
  | some p =>
    obtain ⟨xs, p⟩ := p
    rw [hr] at h
    simp only [rdT] at h
    obtain ⟨i1, i2, i3, i4⟩ := rdN_inv 6 l xs p hb hr
    obtain ⟨⟨s, j, er⟩, hg⟩ : ∃ r, getT (l.drop p) = r := ⟨_, rfl⟩
    rw [hg] at h
    by_cases h0 : er = 0
    · subst h0
      rw [if_pos rfl] at h
      simp only at h
      by_cases hm : may (entOf xs (strOfNums s)) = true
      · rw [if_pos hm] at h
        simp only [Option.some.injEq, Prod.mk.injEq] at h
        obtain ⟨rfl, rfl⟩ := h
        obtain ⟨j1, j2, j3, j4⟩ := getT_whole (hb.drop _) hg
        rw [List.length_drop] at j3
        refine ⟨(may_iff _).1 hm, by omega, by omega, ?_⟩
        unfold encE
        rw [list6 i1]
        have e1 : sb (entOf xs (strOfNums s)).data = s := sb_str j4
        have e2 : (entOf xs (strOfNums s)).data.size = s.length := by rw [← sb_length, e1]
        rw [e1, e2, List.take_add, i3, j1]
      · rw [if_neg hm] at h; simp at h
    · rw [if_neg h0] at h; simp at h

theorem rdL_enc : ∀ (es : List Ent) (f : Nat), es.all may = true → es.length ≤ f → rdL f (enc es) = some es := by
  intro es
  induction es with
  | nil => intro f _ _; cases f <;> rfl
  | cons e r ih =>
    intro f h hf
    simp only [List.all_cons, Bool.and_eq_true] at h
    obtain ⟨g, rfl⟩ : ∃ g, f = g + 1 := ⟨f - 1, by simp only [List.length_cons] at hf; omega⟩
    have hp := encE_pos e
    have hE := rdE_enc ((may_iff e).1 h.1) (enc r)
    have hI := ih g h.2 (by simp only [List.length_cons] at hf; omega)
    have hl : enc (e :: r) = encE e ++ enc r := rfl
    have hd : (encE e ++ enc r).drop (encE e).length = enc r := List.drop_left ..
    rw [hl]
    generalize encE e ++ enc r = L at *
    match L with
    | [] => simp [rdE, rdN, getB] at hE
    | c :: t =>
      simp only [rdL, hE, hd, hI, Option.map_some]
theorem rdL_inv : ∀ (f : Nat) (l : List Int) (es : List Ent), isB l → rdL f l = some es → es.all may = true ∧ enc es = l ∧ es.length ≤ f := by
  intro f
  induction f with
  | zero =>
    intro l es hb h
    cases l with
    | nil => simp [rdL] at h; subst h; simp [enc]
    | cons c r => simp [rdL] at h
  | succ f ih =>
    intro l es hb h
    cases l with
    | nil => simp [rdL] at h; subst h; simp [enc]
    | cons c r =>
      simp only [rdL] at h
      cases hr : rdE (c :: r) with
      | none => rw [hr] at h; simp at h
      | some p =>
        obtain ⟨e, k⟩ := p
        rw [hr] at h
        simp only [Option.map_eq_some_iff] at h
        obtain ⟨ts, ht, rfl⟩ := h
        obtain ⟨h1, h2, h3, h4⟩ := rdE_inv hb hr
        obtain ⟨i1, i2, i3⟩ := ih _ ts (hb.drop _) ht
        refine ⟨by simp [i1, (may_iff e).2 h1], ?_, by simp; omega⟩
        show encE e ++ enc ts = _
        rw [i2, ← h4, List.take_append_drop]
theorem enc_inj {a b : List Ent} (ha : a.all may = true) (hb : b.all may = true) (h : enc a = enc b) : a = b := by
  have h1 := rdL_enc a (a.length + b.length) ha (by omega)
  have h2 := rdL_enc b (a.length + b.length) hb (by omega)
  rw [h, h2] at h1
  exact (Option.some.inj h1).symm

/-- What Decode tells of bytes. -/
def dec (l : List Int) : Option (List Ent) := rdL l.length l
theorem enc_count (l : List Ent) : l.length ≤ (enc l).length := by
  induction l with
  | nil => simp [enc]
  | cons e r ih => have := encE_pos e; simp only [enc, List.length_append, List.length_cons]; omega
theorem dec_enc {l : List Ent} (h : l.all may = true) : dec (enc l) = some l := rdL_enc l _ h (enc_count l)
theorem dec_inv {l : List Int} {es : List Ent} (hb : isB l) (h : dec l = some es) : es.all may = true ∧ enc es = l ∧ es.length ≤ l.length := rdL_inv _ _ _ hb h

end PEnt
end Go.Proofs.Ytkpgijmpaklfgaa
