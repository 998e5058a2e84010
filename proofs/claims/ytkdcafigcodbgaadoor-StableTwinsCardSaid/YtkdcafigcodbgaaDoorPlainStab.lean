/- Plain mathematics of what lasts: two numbers, their bytes, what is read of bytes. No program is named here. -/
import Derived.Test.YtkdcafigcodbgaaDoorPlainEnt
import Derived.Test.YtkdcafigcodbgaaDoorOpenP
namespace Go.Proofs.YtkdcafigcodbgaaDoor
namespace PStab
open PNum

def Fit (x : Int) : Prop := -9223372036854775808 ≤ x ∧ x ≤ 9223372036854775807
def Ok (x : Int) : Prop := 0 ≤ x ∧ x ≤ 1099511627776
theorem Ok.fit {x : Int} (h : Ok x) : Fit x := by unfold Ok at h; unfold Fit; omega

def body (b v : Int) : List Int := sev (zig b) ++ sev (zig v)
def enc (b v : Int) : List Int := PCrc.sealed (body b v)
theorem body_byte (b v : Int) : isB (body b v) := isB.append (sev_byte _) (sev_byte _)
theorem enc_byte (b v : Int) : isB (enc b v) := isB_sealed (body_byte b v)
theorem sev_fit {x : Int} (h : Fit x) : (sev (zig x)).length ≤ 10 := sev_ten _ (zig_lt x h.1 h.2)
theorem body_len {b v : Int} (hb : Fit b) (hv : Fit v) : (body b v).length ≤ 20 := by
  have := sev_fit hb; have := sev_fit hv
  unfold body; rw [List.length_append]; omega
theorem enc_length (b v : Int) : (enc b v).length = (body b v).length + 4 := sealed_length _
theorem enc_len {b v : Int} (hb : Fit b) (hv : Fit v) : (enc b v).length ≤ 24 := by have := body_len hb hv; rw [enc_length]; omega

/-- A number that may be at the beginning of bytes, and what stands behind it. -/
def one (l : List Int) : Option (Int × List Int) :=
  if (getB 0 0 l).2.2 = 0 ∧ 0 ≤ (getB 0 0 l).1 ∧ (getB 0 0 l).1 ≤ 1099511627776 then some ((getB 0 0 l).1, l.drop (getB 0 0 l).2.1.toNat) else none
/-- What stands in opened bytes. -/
def rd (l : List Int) : Option (Int × Int) :=
  match one l with
  | some (b, r) =>
    match one r with
    | some (v, s) => if s.length = 0 then some (b, v) else none
    | none => none
  | none => none
/-- What is read of bytes. -/
def dec (l : List Int) : Option (Int × Int) := if (openP l).2 = true then rd (openP l).1 else none

theorem one_put {x : Int} (h : Fit x) (r : List Int) [Decidable (Ok x)] : one (sev (zig x) ++ r) = if Ok x then some (x, r) else none := by
  have hg := getB_put x r h.1 h.2
  unfold one
  rw [hg]
  simp only [Int.toNat_natCast, List.drop_left]
  by_cases ho : Ok x
  · rw [if_pos ho, if_pos ⟨trivial, ho.1, ho.2⟩]
  · rw [if_neg ho, if_neg (fun k => ho ⟨k.2.1, k.2.2⟩)]
theorem one_yes {x : Int} (h : Ok x) (r : List Int) : one (sev (zig x) ++ r) = some (x, r) := by
  have : Decidable (Ok x) := .isTrue h
  rw [one_put h.fit, if_pos h]
theorem one_no {x : Int} (hf : Fit x) (h : ¬ Ok x) (r : List Int) : one (sev (zig x) ++ r) = none := by
  have : Decidable (Ok x) := .isFalse h
  rw [one_put hf, if_neg h]
theorem one_inv {l r : List Int} {x : Int} (hb : isB l) (h : one l = some (x, r)) : Ok x ∧ isB r ∧ sev (zig x) ++ r = l := by
  unfold one at h
  split at h
  · next k =>
    obtain ⟨rfl, rfl⟩ := Prod.mk.inj (Option.some.inj h)
    have hr : PEnt.rdN 1 l = some ([(getB 0 0 l).1], (getB 0 0 l).2.1.toNat) := by simp [PEnt.rdN, k.1]
    obtain ⟨_, _, h3, _⟩ := PEnt.rdN_inv 1 l _ _ hb hr
    refine ⟨⟨k.2.1, k.2.2⟩, hb.drop _, ?_⟩
    have e : PEnt.encN [(getB 0 0 l).1] = sev (zig (getB 0 0 l).1) := by simp [PEnt.encN]
    rw [← e, ← h3, List.take_append_drop]
  · cases h
theorem openP_yes {l : List Int} (hb : isB l) (h : (openP l).2 = true) : PCrc.sealed (openP l).1 = l ∧ isB (openP l).1 := by
  rw [openP_by_seal hb] at h ⊢
  by_cases h4 : 4 ≤ l.length ∧ PCrc.sealed (l.take (l.length - 4)) = l
  · rw [if_pos h4]; exact ⟨h4.2, hb.take _⟩
  · rw [if_neg h4] at h; cases h
theorem dec_shut {l : List Int} (h : openP l = ([], false)) : dec l = none := by unfold dec; rw [h]; rfl
theorem dec_open {l : List Int} (h : (openP l).2 = true) : dec l = rd (openP l).1 := by unfold dec; rw [if_pos h]
theorem dec_enc0 (b v : Int) : dec (enc b v) = rd (body b v) := by
  have h := openP_sealed (body_byte b v)
  unfold dec enc
  rw [h, if_pos rfl]
theorem dec_yes {b v : Int} (hb : Ok b) (hv : Ok v) : dec (enc b v) = some (b, v) := by
  rw [dec_enc0]
  unfold rd body
  rw [one_yes hb]
  simp only
  have := one_yes hv []
  rw [List.append_nil] at this
  rw [this]
  rfl
theorem dec_no {b v : Int} (hb : Fit b) (hv : Fit v) (h : ¬ (Ok b ∧ Ok v)) : dec (enc b v) = none := by
  rw [dec_enc0]
  unfold rd body
  by_cases h1 : Ok b
  · rw [one_yes h1]
    simp only
    have := one_no hv (fun k => h ⟨h1, k⟩) []
    rw [List.append_nil] at this
    rw [this]
  · rw [one_no hb h1]
theorem dec_inv {l : List Int} {b v : Int} (hb : isB l) (h : dec l = some (b, v)) : Ok b ∧ Ok v ∧ enc b v = l := by
  unfold dec at h
  cases ho : (openP l).2 with
  | false => rw [ho] at h; simp at h
  | true =>
    rw [ho, if_pos rfl] at h
    obtain ⟨h1, h2⟩ := openP_yes hb ho
    generalize (openP l).1 = L at *
    unfold rd at h
    cases h3 : one L with
    | none => rw [h3] at h; cases h
    | some p =>
      obtain ⟨x, r⟩ := p
      rw [h3] at h
      simp only at h
      obtain ⟨k1, k2, k3⟩ := one_inv h2 h3
      cases h4 : one r with
      | none => rw [h4] at h; cases h
      | some q =>
        obtain ⟨y, s⟩ := q
        rw [h4] at h
        simp only at h
        obtain ⟨j1, _, j3⟩ := one_inv k2 h4
        split at h
        · next hs =>
          obtain ⟨rfl, rfl⟩ := Prod.mk.inj (Option.some.inj h)
          have hs' := List.eq_nil_of_length_eq_zero hs
          subst hs'
          rw [List.append_nil] at j3
          exact ⟨k1, j1, by unfold enc body; rw [j3, k3, h1]⟩
        · cases h
/-- One byte that was changed. -/
theorem dec_each {b v x : Int} {i : Nat} (hx : 0 ≤ x ∧ x < 256) (hi : i < (enc b v).length) (h0 : x ≠ 0) : dec (PCrc.lay (enc b v) [x] i) = none := by
  rw [enc_length] at hi
  exact dec_shut (openP_each (body_byte b v) hx hi h0)
theorem enc_inj {a v b u : Int} (h1 : Ok a) (h2 : Ok v) (h3 : Ok b) (h4 : Ok u) : enc a v = enc b u ↔ a = b ∧ v = u := by
  constructor
  · intro h
    have := dec_yes h1 h2
    rw [h, dec_yes h3 h4] at this
    have := Prod.mk.inj (Option.some.inj this)
    exact ⟨this.1.symm, this.2.symm⟩
  · rintro ⟨rfl, rfl⟩; rfl

/-- Promise: is it taken; the view behind it. -/
def may (v x : Int) : Bool := decide (v < x ∧ x ≤ 1099511627776)
def put (v x : Int) : Int := if v < x ∧ x ≤ 1099511627776 then x else v
theorem may_yes {v x : Int} (h : v < x ∧ x ≤ 1099511627776) : may v x = true := decide_eq_true h
theorem may_no {v x : Int} (h : ¬ (v < x ∧ x ≤ 1099511627776)) : may v x = false := decide_eq_false h
theorem put_yes {v x : Int} (h : v < x ∧ x ≤ 1099511627776) : put v x = x := if_pos h
theorem put_no {v x : Int} (h : ¬ (v < x ∧ x ≤ 1099511627776)) : put v x = v := if_neg h
theorem put_ok {v x : Int} (h : Ok v) : Ok (put v x) := by unfold put; unfold Ok at h ⊢; split <;> omega
end PStab
end Go.Proofs.YtkdcafigcodbgaaDoor
