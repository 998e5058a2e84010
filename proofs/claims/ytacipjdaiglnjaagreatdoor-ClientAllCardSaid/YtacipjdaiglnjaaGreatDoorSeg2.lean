/- Plain mathematics of what lasts: two numbers, their bytes, what is read of bytes. No program is named here. -/
import Derived.Test.YtacipjdaiglnjaaGreatDoorSeg1
import Derived.Deep.Slices
import Derived.Deep.Fields
import Derived.ChangeSame
import Derived.WideShapes
import Derived.ChangeShapes
import Derived.Test.YtacipjdaiglnjaaGreatDoorRows
import Derived.ArgAppend
import Derived.Deep.Upon
import Derived.Laws.StructEq
import Derived.Great.BuildSlice
namespace Go.Proofs.YtacipjdaiglnjaaGreatDoor
namespace PStab
open PNum

def Fit (x : Int) : Prop := -9223372036854775808 ≤ x ∧ x ≤ 9223372036854775807
def Ok (x : Int) : Prop := 0 ≤ x ∧ x ≤ 1099511627776
theorem Ok.fit {x : Int} (h : Ok x) : Fit x := by unfold Ok at h; unfold Fit; omega

def body (b v : Int) : List Int := sev (zig b) ++ sev (zig v)
def enc (b v : Int) : List Int := PCrc.sealed (body b v)
theorem body_byte (b v : Int) : isB (body b v) := isB.append (sev_byte _) (sev_byte _)
theorem enc_byte (b v : Int) : isB (enc b v) := isB_sealed (body_byte b v)
theorem sev_fit {x : Int} (h : Fit x) : (sev (zig x)).length ≤ 10 := sev_ten _ (zig_lt x h.1 h.2)
theorem body_len {b v : Int} (hb : Fit b) (hv : Fit v) : (body b v).length ≤ 20 := by
  have := sev_fit hb; have := sev_fit hv
  unfold body; rw [List.length_append]; omega
theorem enc_length (b v : Int) : (enc b v).length = (body b v).length + 4 := sealed_length _
theorem enc_len {b v : Int} (hb : Fit b) (hv : Fit v) : (enc b v).length ≤ 24 := by have := body_len hb hv; rw [enc_length]; omega

/-- A number that may be at the beginning of bytes, and what stands behind it. -/
def one (l : List Int) : Option (Int × List Int) :=
  if (getB 0 0 l).2.2 = 0 ∧ 0 ≤ (getB 0 0 l).1 ∧ (getB 0 0 l).1 ≤ 1099511627776 then some ((getB 0 0 l).1, l.drop (getB 0 0 l).2.1.toNat) else none
/-- What stands in opened bytes. -/
def rd (l : List Int) : Option (Int × Int) :=
  match one l with
  | some (b, r) =>
    match one r with
    | some (v, s) => if s.length = 0 then some (b, v) else none
    | none => none
  | none => none
/-- What is read of bytes. -/
def dec (l : List Int) : Option (Int × Int) := if (openP l).2 = true then rd (openP l).1 else none

theorem one_inv {l r : List Int} {x : Int} (hb : isB l) (h : one l = some (x, r)) : Ok x ∧ isB r ∧ sev (zig x) ++ r = l := by
  unfold one at h
  split at h
  · next k =>
    obtain ⟨rfl, rfl⟩ := Prod.mk.inj (Option.some.inj h)
    have hr : PEnt.rdN 1 l = some ([(getB 0 0 l).1], (getB 0 0 l).2.1.toNat) := by simp [PEnt.rdN, k.1]
    obtain ⟨_, _, h3, _⟩ := PEnt.rdN_inv 1 l _ _ hb hr
    refine ⟨⟨k.2.1, k.2.2⟩, hb.drop _, ?_⟩
    have e : PEnt.encN [(getB 0 0 l).1] = sev (zig (getB 0 0 l).1) := by simp [PEnt.encN]
    rw [← e, ← h3, List.take_append_drop]
  · cases h
theorem openP_yes {l : List Int} (hb : isB l) (h : (openP l).2 = true) : PCrc.sealed (openP l).1 = l ∧ isB (openP l).1 := by
  rw [openP_by_seal hb] at h ⊢
  by_cases h4 : 4 ≤ l.length ∧ PCrc.sealed (l.take (l.length - 4)) = l
  · rw [if_pos h4]; exact ⟨h4.2, hb.take _⟩
  · rw [if_neg h4] at h; cases h
theorem dec_inv {l : List Int} {b v : Int} (hb : isB l) (h : dec l = some (b, v)) : Ok b ∧ Ok v ∧ enc b v = l := by
  unfold dec at h
  cases ho : (openP l).2 with
  | false => rw [ho] at h; simp at h
  | true =>
    rw [ho, if_pos rfl] at h
    obtain ⟨h1, h2⟩ := openP_yes hb ho
    generalize (openP l).1 = L at *
    unfold rd at h
    cases h3 : one L with
    | none => rw [h3] at h; cases h
    | some p =>
      obtain ⟨x, r⟩ := p
      rw [h3] at h
      simp only at h
      obtain ⟨k1, k2, k3⟩ := one_inv h2 h3
      cases h4 : one r with
      | none => rw [h4] at h; cases h
      | some q =>
        obtain ⟨y, s⟩ := q
        rw [h4] at h
        simp only at h
        obtain ⟨j1, _, j3⟩ := one_inv k2 h4
        split at h
        · next hs =>
          obtain ⟨rfl, rfl⟩ := Prod.mk.inj (Option.some.inj h)
          have hs' := List.eq_nil_of_length_eq_zero hs
          subst hs'
          rw [List.append_nil] at j3
          exact ⟨k1, j1, by unfold enc body; rw [j3, k3, h1]⟩
        · cases h
/-- Promise: is it taken; the view behind it. -/
def may (v x : Int) : Bool := decide (v < x ∧ x ≤ 1099511627776)
def put (v x : Int) : Int := if v < x ∧ x ≤ 1099511627776 then x else v
theorem may_yes {v x : Int} (h : v < x ∧ x ≤ 1099511627776) : may v x = true := decide_eq_true h
theorem may_no {v x : Int} (h : ¬ (v < x ∧ x ≤ 1099511627776)) : may v x = false := decide_eq_false h
theorem put_yes {v x : Int} (h : v < x ∧ x ≤ 1099511627776) : put v x = x := if_pos h
theorem put_no {v x : Int} (h : ¬ (v < x ∧ x ≤ 1099511627776)) : put v x = v := if_neg h
end PStab
end Go.Proofs.YtacipjdaiglnjaaGreatDoor

/- A disk, the program's and the document's: starts and promises. -/
namespace Go.Proofs.YtacipjdaiglnjaaGreatDoor
open Go.RowKit PStab

/-- A disk: its two numbers. -/
def Ds (w : World) (g : Nat) (b v : Int) : Prop := Blk w g 62 [.int .i64 b, .int .i64 v]
theorem Ds.past {w w' : World} {g : Nat} {b v : Int} (h : Ds w g b v) (hb : Below w.heap.size w w') : Ds w' g b v := Blk.past h hb
theorem Ds.lt {w : World} {g : Nat} {b v : Int} (h : Ds w g b v) : g < w.heap.size := Blk.lt h
theorem view_c (w : World) (g : Nat) (b v : Int) (h : Ds w g b v) : Calls Tryz.prog 49 #[.pointer (some ⟨g, 0, none⟩)] w fun e w' => e = .returned (.int .i64 v) ∧ w = w' := by
  have q1 := Blk.cell h (i := 1) rfl
  go_enter Tryz.func49, Tryz.ntmps49
  go_wp2_with fail
  go_ret
  exact ⟨rfl, rfl⟩
theorem start_c (w : World) (g : Nat) (b v : Int) (h : Ds w g b v) (hb : Ok b) (hlt : b < 1099511627776) :
    Calls Tryz.prog 46 #[.pointer (some ⟨g, 0, none⟩)] w fun e w' => e = .returned (.int .i64 (b + 1)) ∧ Ds w' g (b + 1) v ∧ Touch [g] w w' := by
  have q0 := Blk.cell h (i := 0) rfl
  have f0 := Blk.free h 0
  have h0 := hb.1
  go_enter Tryz.func46, Tryz.ntmps46
  go_wp2_with fail
  go_ret
  exact ⟨rfl, Blk.set h 0 _, (Touch.refl _ _).cell (by simp) 0 _⟩
theorem prom_c (w : World) (g : Nat) (b v : Int) (h : Ds w g b v) (x : Int) :
    Calls Tryz.prog 166 #[.pointer (some ⟨g, 0, none⟩), .int .i64 x] w fun e w' => e = .returned (.bool (may v x)) ∧ Ds w' g b (put v x) ∧ Touch [g] w w' := by
  have q1 := Blk.cell h (i := 1) rfl
  have f1 := Blk.free h 1
  rcases (by omega : x ≤ v ∨ v < x ∧ 1099511627776 < x ∨ v < x ∧ x ≤ 1099511627776) with k | ⟨k, k2⟩ | ⟨k, k2⟩
  · have H := Lib.hid (show may v x = false ∧ put v x = v from ⟨may_no (by omega), put_no (by omega)⟩)
    go_enter Tryz.func166, Tryz.ntmps166
    go_wp2_with fail
    go_ret
    exact ⟨by rw [H.out.1]; rfl, by rw [H.out.2]; exact h, Touch.refl _ _⟩
  · have H := Lib.hid (show may v x = false ∧ put v x = v from ⟨may_no (by omega), put_no (by omega)⟩)
    go_enter Tryz.func166, Tryz.ntmps166
    go_wp2_with fail
    go_ret
    exact ⟨by rw [H.out.1]; rfl, by rw [H.out.2]; exact h, Touch.refl _ _⟩
  · have H := Lib.hid (show may v x = true ∧ put v x = x from ⟨may_yes ⟨k, k2⟩, put_yes ⟨k, k2⟩⟩)
    go_enter Tryz.func166, Tryz.ntmps166
    go_wp2_with fail
    go_ret
    exact ⟨by rw [H.out.1]; rfl, by rw [H.out.2]; exact Blk.set h 1 _, (Touch.refl _ _).cell (by simp) 1 _⟩
end Go.Proofs.YtacipjdaiglnjaaGreatDoor

/- A slice of structs of one-cell fields (ints, bools, strings) that came in, as cells. No program is named here. -/
namespace Go.Proofs.YtacipjdaiglnjaaGreatDoor
open Go.RowKit Go.ChangeShapes Go.WideShapes Go.Deep

section
variable {H : Type} {enc : TypeId × Value → H} {P : Program} {w : World} {base : Nat} {spare : Nat → Bool} {held : Bool}
/-- F j u: what is known of the cell of field j. -/
theorem open_flat {t e : TypeId} {fs : Array Field} {m : Nat} {fuel : Nat} {cs : List Value} {x : DataW H × List MemPlace} (F : Nat → Value → Prop)
    (ht : P.underlying t = some (.slice e)) (he : P.underlying e = some (.struct fs)) (hC : P.cellsOf e = m) (hm : fs.size = m) (hm0 : 0 < m)
    (hF : ∀ (j : Nat) (f : Field), fs[j]? = some f → P.cellsOf f.type = 1 ∧ f.offset = j ∧ ∀ (fuel : Nat) (cs : List Value) (x : DataW H × List MemPlace), DataW.trod enc P w base spare held fuel f.type cs = some x → ∃ u, cs = [u] ∧ F j u)
    (h : DataW.trod enc P w base spare held fuel t cs = some x) :
    ∃ (A : Option Addr) (n c : Nat) (xs : List Value), cs = [.slice A n c] ∧ Rd w w.heap.size A c m n xs ∧ ∀ (i j : Nat) (u : Value), j < m → xs[i * m + j]? = some u → F j u := by
  rcases open_slice ht h with ⟨rfl, _⟩ | ⟨a, len, cap, k, q, D, Pl, hcs, hb, hl, hc, hk, hx, hi⟩
  · exact ⟨none, 0, 0, [], rfl, Rd.nil _ _ _, fun i j u _ hu => by simp at hu⟩
  · have hle : len ≤ k := by rw [hk]; split <;> omega
    have each : ∀ i j, i < len → j < m → ∃ u, w.cell? ((a.add (i * m)).add j) = some u ∧ F j u := by
      intro i j hil hj
      obtain ⟨cs', hc', ht'⟩ := hi i (by omega)
      rw [hC] at hc'
      obtain ⟨_, hcl, hat⟩ := World.cells?_some hc'
      obtain ⟨ys, n', _, _, _, hyl, hf⟩ := DataW.trod_struct he ht'
      have hj' : j < fs.size := by omega
      obtain ⟨h1, h2, h3⟩ := hF j fs[j] (Array.getElem?_eq_getElem hj')
      have hy := hf j fs[j] (Array.getElem?_eq_getElem hj')
      rw [List.getElem?_eq_getElem (show j < ys.length by omega)] at hy
      obtain ⟨u, hu, hFu⟩ := h3 _ _ _ hy
      rw [h1, h2] at hu
      refine ⟨u, (hat j hj).trans ?_, hFu⟩
      have := congrArg (fun l => l[0]?) hu
      simpa [List.getElem?_take, List.getElem?_drop] using this
    by_cases hp : 0 < len
    · obtain ⟨u0, e0, _⟩ := each 0 0 hp hm0
      obtain ⟨b, o, spot⟩ := a
      have hs : spot = none := by simpa [Addr.add] using World.cell?_spot e0
      subst hs
      have cel : ∀ i j, i < len → j < m → ∃ u, w.cell? ⟨b, o + (i * m + j), none⟩ = some u ∧ F j u := by
        intro i j hil hj
        obtain ⟨u, hu, hFu⟩ := each i j hil hj
        rw [add_zero_spot, add_zero_spot, Nat.add_assoc] at hu
        exact ⟨u, hu, hFu⟩
      refine ⟨some ⟨b, o, none⟩, len, cap, (List.range (len * m)).map (fun q => (w.cell? ⟨b, o + q, none⟩).getD undef), hcs, ⟨by simp, hl, hc, (fun hh => by cases hh), fun _ => ⟨b, o, rfl, ?_, fun j u hu => ?_⟩⟩, fun i j u hj hu => ?_⟩
      · rw [add_zero_spot, add_zero_spot] at e0
        exact World.block_lt_of_cell? w _ e0
      · rw [List.getElem?_map] at hu
        by_cases hj : j < len * m
        · rw [List.getElem?_range hj] at hu
          have d1 : j / m < len := Nat.div_lt_of_lt_mul (by rw [Nat.mul_comm]; exact hj)
          have d2 : j % m < m := Nat.mod_lt _ hm0
          obtain ⟨v, hv, _⟩ := cel (j / m) (j % m) d1 d2
          rw [show j / m * m + j % m = j by rw [Nat.mul_comm]; exact Nat.div_add_mod j m] at hv
          simp [hv] at hu
          rw [hv, hu]
        · rw [List.getElem?_eq_none (by simpa using hj)] at hu
          cases hu
      · rw [List.getElem?_map] at hu
        by_cases hq : i * m + j < len * m
        · rw [List.getElem?_range hq] at hu
          have d1 : i < len := by
            rcases Nat.lt_or_ge i len with h | h
            · exact h
            · have := Nat.mul_le_mul_right m h; omega
          obtain ⟨v, hv, hFv⟩ := cel i j d1 hj
          simp [hv] at hu
          rw [← hu]; exact hFv
        · rw [List.getElem?_eq_none (by simpa using hq)] at hu
          cases hu
    · have : len = 0 := by omega
      subst this
      exact ⟨some a, 0, cap, [], hcs, ⟨by simp, hl, hc, (fun hh => by cases hh), fun h => by omega⟩, fun i j u _ hu => by simp at hu⟩

end

section
variable {w : World} {B c m n : Nat} {A : Option Addr} {xs : List Value}
/-- The cells of the struct at place i. -/
theorem Rd.flat (h : Rd w B A c m n xs) {i : Nat} (hi : i < n) (hm : 0 < m) : ∃ b o, A = some ⟨b, o, none⟩ ∧ b < B ∧ ∀ j, j < m → ∃ u, xs[i * m + j]? = some u ∧ w.cell? ⟨b, o + i * m + j, none⟩ = some u := by
  have hlt : i * m + m ≤ n * m := by rw [← Nat.succ_mul]; exact Nat.mul_le_mul_right m hi
  obtain ⟨b, o, hA, hb, hc⟩ := h.2.2.2.2 (by omega)
  refine ⟨b, o, hA, hb, fun j hj => ?_⟩
  have hl : i * m + j < xs.length := by rw [h.len]; omega
  exact ⟨_, List.getElem?_eq_getElem hl, by rw [Nat.add_assoc]; exact hc _ _ (List.getElem?_eq_getElem hl)⟩
end
end Go.Proofs.YtacipjdaiglnjaaGreatDoor

/- Entries as cells, by value and in slices; what is known of those that came in. No program is named here. -/
namespace Go.Proofs.YtacipjdaiglnjaaGreatDoor
open Go.RowKit Go.ChangeShapes Go.WideShapes

/-- An entry's cells; an entry by value; a list's cells. -/
def ecs (e : Ent) : List Value := [.int .i64 e.fr, .int .i64 e.boot, .int .i64 e.seq, .int .i64 e.ord, .int .i64 e.lev, .int .i64 e.stamp, .string e.data]
def ev (e : Ent) : Value := .agg #[.int .i64 e.fr, .int .i64 e.boot, .int .i64 e.seq, .int .i64 e.ord, .int .i64 e.lev, .int .i64 e.stamp, .string e.data]
def els : List Ent → List Value
  | [] => []
  | e :: r => ecs e ++ els r
theorem ecs_length (e : Ent) : (ecs e).length = 7 := rfl
theorem els_length (l : List Ent) : (els l).length = l.length * 7 := by
  induction l with
  | nil => rfl
  | cons e r ih => simp only [els, List.length_append, ecs_length, ih, List.length_cons]; omega
theorem els_append (a b : List Ent) : els (a ++ b) = els a ++ els b := by
  induction a with
  | nil => rfl
  | cons x r ih => simp [els, ih]
theorem els_one (l : List Ent) : ∀ u ∈ els l, u.oneCell' = true := by
  induction l with
  | nil => intro u h; simp [els] at h
  | cons e r ih =>
    intro u h
    rcases List.mem_append.1 h with h | h
    · simp only [ecs, List.mem_cons, List.not_mem_nil, or_false] at h
      rcases h with rfl | rfl | rfl | rfl | rfl | rfl | rfl <;> rfl
    · exact ih u h
theorem els_drop (l : List Ent) : ∀ i, (els l).drop (i * 7) = els (l.drop i) := by
  induction l with
  | nil => intro i; simp [els]
  | cons e r ih =>
    intro i
    cases i with
    | zero => simp
    | succ i =>
      have h := ih i
      show (ecs e ++ els r).drop ((i + 1) * 7) = els (r.drop i)
      rw [← h, show (i + 1) * 7 = (ecs e).length + i * 7 by rw [ecs_length]; omega, ← List.drop_drop, List.drop_left]
theorem els_take (l : List Ent) : ∀ i, (els l).take (i * 7) = els (l.take i) := by
  induction l with
  | nil => intro i; simp [els]
  | cons e r ih =>
    intro i
    cases i with
    | zero => simp [els]
    | succ i =>
      have h := ih i
      show (ecs e ++ els r).take ((i + 1) * 7) = ecs e ++ els (r.take i)
      rw [← h, show (i + 1) * 7 = (ecs e).length + i * 7 by rw [ecs_length]; omega, List.take_add, List.take_left, List.drop_left]
theorem els_at {l : List Ent} {i : Nat} {e : Ent} (h : l[i]? = some e) {j : Nat} (hj : j < 7) : (els l)[i * 7 + j]? = (ecs e)[j]? := by
  obtain ⟨hi, he⟩ := List.getElem?_eq_some_iff.1 h
  have h1 := els_drop l i
  have h2 : l.drop i = e :: l.drop (i + 1) := by rw [List.drop_eq_getElem_cons hi, he]
  rw [h2] at h1
  have h3 := congrArg (fun q => q[j]?) h1
  simp only [List.getElem?_drop] at h3
  rw [h3]
  show (ecs e ++ els (l.drop (i + 1)))[j]? = _
  rw [List.getElem?_append_left (by rw [ecs_length]; omega)]

/-- What is known of an entry that came in. -/
structure EntOk (e : Ent) : Prop where
  fit : PEnt.Fit e
  sz : e.data.size ≤ maxLen

section
variable {w w' : World} {B c n : Nat} {A : Option Addr} {l : List Ent}
theorem Rd.elen (h : Rd w B A c 7 n (els l)) : l.length = n := by have := h.len; rw [els_length] at this; omega
/-- The cells of the entry at place i. -/
theorem Rd.ent (h : Rd w B A c 7 n (els l)) {i : Nat} (hi : i < n) : ∃ b o e, A = some ⟨b, o, none⟩ ∧ b < B ∧ l[i]? = some e ∧ e ∈ l ∧
    w.cell? ⟨b, o + i * 7, none⟩ = some (.int .i64 e.fr) ∧ w.cell? ⟨b, o + i * 7 + 1, none⟩ = some (.int .i64 e.boot) ∧ w.cell? ⟨b, o + i * 7 + 2, none⟩ = some (.int .i64 e.seq) ∧ w.cell? ⟨b, o + i * 7 + 3, none⟩ = some (.int .i64 e.ord) ∧
    w.cell? ⟨b, o + i * 7 + 4, none⟩ = some (.int .i64 e.lev) ∧ w.cell? ⟨b, o + i * 7 + 5, none⟩ = some (.int .i64 e.stamp) ∧ w.cell? ⟨b, o + i * 7 + 6, none⟩ = some (.string e.data) := by
  obtain ⟨b, o, hA, hb, hc⟩ := h.flat hi (by omega)
  have hl := h.elen
  have he : l[i]? = some l[i] := List.getElem?_eq_getElem (by omega)
  have g : ∀ j u, j < 7 → (ecs l[i])[j]? = some u → w.cell? ⟨b, o + i * 7 + j, none⟩ = some u := by
    intro j u hj hu
    obtain ⟨v, hv, hcell⟩ := hc j hj
    rw [els_at he hj, hu] at hv
    rw [hcell, hv]
  exact ⟨b, o, l[i], hA, hb, he, List.getElem_mem _, g 0 _ (by omega) rfl, g 1 _ (by omega) rfl, g 2 _ (by omega) rfl, g 3 _ (by omega) rfl, g 4 _ (by omega) rfl, g 5 _ (by omega) rfl, g 6 _ (by omega) rfl⟩
/-- A block that holds an entry. -/
theorem Blk.ent {g : Nat} {t : TypeId} {e : Ent} (h : Blk w g t (ecs e)) :
    w.cell? ⟨g, 0, none⟩ = some (.int .i64 e.fr) ∧ w.cell? ⟨g, 1, none⟩ = some (.int .i64 e.boot) ∧ w.cell? ⟨g, 2, none⟩ = some (.int .i64 e.seq) ∧ w.cell? ⟨g, 3, none⟩ = some (.int .i64 e.ord) ∧
    w.cell? ⟨g, 4, none⟩ = some (.int .i64 e.lev) ∧ w.cell? ⟨g, 5, none⟩ = some (.int .i64 e.stamp) ∧ w.cell? ⟨g, 6, none⟩ = some (.string e.data) :=
  ⟨h.cell (i := 0) rfl, h.cell (i := 1) rfl, h.cell (i := 2) rfl, h.cell (i := 3) rfl, h.cell (i := 4) rfl, h.cell (i := 5) rfl, h.cell (i := 6) rfl⟩
theorem Blk.newEnt (w : World) (t : TypeId) (e : Ent) : Blk (w.alloc (.cells #[.int .i64 e.fr, .int .i64 e.boot, .int .i64 e.seq, .int .i64 e.ord, .int .i64 e.lev, .int .i64 e.stamp, .string e.data] t)) w.heap.size t (ecs e) := Blk.new w _ t
end

/-- What is known of the cell of field j. -/
def FE (j : Nat) (u : Value) : Prop := (j < 6 → ∃ x, u = .int .i64 x ∧ (Lit.int .i64 x).wf = true) ∧ (j = 6 → ∃ s : ByteArray, u = .string s ∧ s.size ≤ maxLen)
theorem ent_of7 {a0 a1 a2 a3 a4 a5 a6 : Value} (h0 : FE 0 a0) (h1 : FE 1 a1) (h2 : FE 2 a2) (h3 : FE 3 a3) (h4 : FE 4 a4) (h5 : FE 5 a5) (h6 : FE 6 a6) : ∃ e, [a0, a1, a2, a3, a4, a5, a6] = ecs e ∧ EntOk e := by
  obtain ⟨x0, rfl, w0⟩ := h0.1 (by omega)
  obtain ⟨x1, rfl, w1⟩ := h1.1 (by omega)
  obtain ⟨x2, rfl, w2⟩ := h2.1 (by omega)
  obtain ⟨x3, rfl, w3⟩ := h3.1 (by omega)
  obtain ⟨x4, rfl, w4⟩ := h4.1 (by omega)
  obtain ⟨x5, rfl, w5⟩ := h5.1 (by omega)
  obtain ⟨s, rfl, hs⟩ := h6.2 rfl
  exact ⟨⟨x0, x1, x2, x3, x4, x5, s⟩, rfl, ⟨bounds_i64 w0, bounds_i64 w1, bounds_i64 w2, bounds_i64 w3, bounds_i64 w4, bounds_i64 w5⟩, hs⟩
theorem ents_of : ∀ (n : Nat) (xs : List Value), xs.length = n * 7 → (∀ (i j : Nat) (u : Value), j < 7 → xs[i * 7 + j]? = some u → FE j u) → ∃ l, xs = els l ∧ ∀ e ∈ l, EntOk e
  | 0, xs, h, _ => ⟨[], List.eq_nil_of_length_eq_zero (by omega), by simp⟩
  | n + 1, xs, h, hF => by
    match xs, h with
    | a0 :: a1 :: a2 :: a3 :: a4 :: a5 :: a6 :: r, h =>
      obtain ⟨l, hl, ho⟩ := ents_of n r (by simp only [List.length_cons] at h; omega) (fun i j u hj hu => hF (i + 1) j u hj (by
        rw [show (i + 1) * 7 + j = i * 7 + j + 7 by omega]; exact hu))
      obtain ⟨e, he, hok⟩ := ent_of7 (hF 0 0 a0 (by omega) rfl) (hF 0 1 a1 (by omega) rfl) (hF 0 2 a2 (by omega) rfl) (hF 0 3 a3 (by omega) rfl) (hF 0 4 a4 (by omega) rfl) (hF 0 5 a5 (by omega) rfl) (hF 0 6 a6 (by omega) rfl)
      refine ⟨e :: l, ?_, ?_⟩
      · show _ = ecs e ++ els l
        rw [← he, ← hl]; rfl
      · intro x hx
        rcases List.mem_cons.1 hx with rfl | hx
        · exact hok
        · exact ho x hx
    | [], h => simp at h
    | [_], h => simp only [List.length_cons, List.length_nil] at h; omega
    | [_, _], h => simp only [List.length_cons, List.length_nil] at h; omega
    | [_, _, _], h => simp only [List.length_cons, List.length_nil] at h; omega
    | [_, _, _, _], h => simp only [List.length_cons, List.length_nil] at h; omega
    | [_, _, _, _, _], h => simp only [List.length_cons, List.length_nil] at h; omega
    | [_, _, _, _, _, _], h => simp only [List.length_cons, List.length_nil] at h; omega

section
variable {H : Type} {enc : TypeId × Value → H} {P : Program} {w : World} {base : Nat} {spare : Nat → Bool} {held : Bool}
/-- How an entry's fields lie. -/
def EntT (P : Program) (fs : Array Field) : Prop := fs.size = 7 ∧ ∀ (j : Nat) (f : Field), fs[j]? = some f → P.cellsOf f.type = 1 ∧ f.offset = j ∧ (j < 6 → P.underlying f.type = some (.int .i64)) ∧ (j = 6 → P.underlying f.type = some .string)
theorem EntT.field {fs : Array Field} (hT : EntT P fs) {j : Nat} {f : Field} (hj : fs[j]? = some f) {fuel : Nat} {cs : List Value} {x : DataW H × List MemPlace} (h : DataW.trod enc P w base spare held fuel f.type cs = some x) : ∃ u, cs = [u] ∧ FE j u := by
  obtain ⟨_, _, h2, h3⟩ := hT.2 j f hj
  have hj7 : j < 7 := by have := (Array.getElem?_eq_some_iff.1 hj).1; rw [hT.1] at this; exact this
  by_cases h6 : j = 6
  · obtain ⟨s, hs, _, hm⟩ := DataW.trod_string (h3 h6) h
    exact ⟨_, hs, fun h' => by omega, fun _ => ⟨s, rfl, hm⟩⟩
  · obtain ⟨n, hn, _, hw⟩ := DataW.trod_int (h2 (by omega)) h
    exact ⟨_, hn, fun _ => ⟨n, rfl, hw⟩, fun h' => absurd h' h6⟩
/-- A slice of entries that came in. -/
theorem open_ents {t e : TypeId} {fs : Array Field} {fuel : Nat} {cs : List Value} {x : DataW H × List MemPlace} (ht : P.underlying t = some (.slice e)) (he : P.underlying e = some (.struct fs)) (hC : P.cellsOf e = 7) (hT : EntT P fs)
    (h : DataW.trod enc P w base spare held fuel t cs = some x) : ∃ (A : Option Addr) (n c : Nat) (l : List Ent), cs = [.slice A n c] ∧ Rd w w.heap.size A c 7 n (els l) ∧ ∀ e ∈ l, EntOk e := by
  obtain ⟨A, n, c, xs, e1, e2, e3⟩ := open_flat (F := FE) ht he hC hT.1 (by omega) (fun j f hf => ⟨(hT.2 j f hf).1, (hT.2 j f hf).2.1, fun fuel cs x hx => hT.field hf hx⟩) h
  obtain ⟨l, rfl, hl⟩ := ents_of n xs e2.len e3
  exact ⟨A, n, c, l, e1, e2, hl⟩
end
end Go.Proofs.YtacipjdaiglnjaaGreatDoor

/- The zero entry; an entry's cells in the program. -/
namespace Go.Proofs.YtacipjdaiglnjaaGreatDoor
open Go.RowKit

/-- No entry: all zero. -/
def zeroE : Ent := ⟨0, 0, 0, 0, 0, 0, ⟨#[]⟩⟩
theorem ent_info : (Tryz.prog.info? 93).map (fun i => (i.zero, i.size, i.bytes)) = some (some (ev zeroE), 7, 64) := by kernel_rfl

end Go.Proofs.YtacipjdaiglnjaaGreatDoor

/- A region that draws its order where several writes or calls may come up: each of them is walked. No program is named here. -/
namespace Go.Proofs.YtacipjdaiglnjaaGreatDoor
open Go.RowKit

section
variable {P : Program} {ops : Array Oper} {Q : Exit → Act → World → Prop}

/-- What is asked where number i comes up. -/
def Pk (P : Program) (ops : Array Oper) (Q : Exit → Act → World → Prop) (B n : Nat) (listed : Array Bool) (a : Act) (w : World) (i : Nat) : Prop :=
  wpOp P ops (NoPanic Q) i (fun a' w' => Below B w w' ∧ wpAnyH P .any ops (NoPanic Q) (Below B w) n (listed.setIfInBounds i true) a' w') a w

theorem Hb.two {B n : Nat} {listed : Array Bool} {a : Act} {w : World} (i j : Nat) (h1 : Pk P ops Q B n listed a w i) (h2 : Pk P ops Q B n listed a w j) (hr : Region.ready .any ops listed = [i, j] := by kernel_rfl) : Hb P ops Q B (n + 1) listed a w := by
  refine wpAnyH_all hr (by simp) fun x hx => ?_
  simp only [List.mem_cons, List.not_mem_nil, or_false] at hx
  rcases hx with rfl | rfl
  · exact h1
  · exact h2
theorem Hb.three {B n : Nat} {listed : Array Bool} {a : Act} {w : World} (i j k : Nat) (h1 : Pk P ops Q B n listed a w i) (h2 : Pk P ops Q B n listed a w j) (h3 : Pk P ops Q B n listed a w k) (hr : Region.ready .any ops listed = [i, j, k] := by kernel_rfl) : Hb P ops Q B (n + 1) listed a w := by
  refine wpAnyH_all hr (by simp) fun x hx => ?_
  simp only [List.mem_cons, List.not_mem_nil, or_false] at hx
  rcases hx with rfl | rfl | rfl
  · exact h1
  · exact h2
  · exact h3

theorem Hb.pick {B n : Nat} {listed : Array Bool} {a : Act} {w : World} {o : Oper} (i : Nat) (d : Option Nat) (hi : ops[i]? = some o)
    (h : wpList P ops (Nx Q fun a' w' => Below B w w' ∧ ∃ B', B ≤ B' ∧ Hb P ops Q B' n (listed.setIfInBounds i true) a' w') [{ o with guard := none, dst := d }] a w)
    (hw : Region.wanted o (yielded ops a.tmps) = true := by rfl) (hd : o.dst = d := by rfl) : Pk P ops Q B n listed a w i := by
  subst hd
  unfold Pk wpOp
  simp only [hi, hw, if_true]
  have he : execOp a.eval { o with guard := none } = execOp a.eval o := rfl
  unfold wpList at h
  have hw' : Region.wanted { o with guard := none } (yielded ops a.tmps) = true := rfl
  rw [if_pos hw'] at h
  rcases h with h | ⟨h, q⟩
  · refine .inl ?_
    unfold Oper.wp at *
    rw [he] at h
    generalize (execOp a.eval o).run P w = r at *
    have step : ∀ a' w', wpList P ops (Nx Q fun a' w' => Below B w w' ∧ ∃ B', B ≤ B' ∧ Hb P ops Q B' n (listed.setIfInBounds i true) a' w') [] a' w' → Below B w w' ∧ wpAnyH P .any ops (NoPanic Q) (Below B w) n (listed.setIfInBounds i true) a' w' := by
      rintro a' w' ⟨hb, B', hB, hh⟩
      exact ⟨hb, hh.on hb hB⟩
    cases r with
    | ok n w' =>
      cases n <;> simp only [Oper.upon] at h ⊢ <;>
        first
          | exact step _ _ h
          | exact Calls.mono h (fun e w'' he => by
              cases e
              · exact step _ _ he
              · exact he
              · exact he)
          | exact Rows.mono h (fun _ _ he => step _ _ he)
    | halt x w' => cases x <;> simp only [Oper.upon] at h ⊢ <;> exact h
  · exact .inr ⟨h, q⟩

theorem Hb.pickCall {B n : Nat} {listed : Array Bool} {a : Act} {w : World} {o : Oper} {f : FuncId} {args : Array Value} (i d : Nat) (hi : ops[i]? = some o)
    (h : Calls P f args w fun e w' => ∃ v a', e = .returned v ∧ a.put (some d) v = a' ∧ Below B w w' ∧ ∃ B', B ≤ B' ∧ Hb P ops Q B' n (listed.setIfInBounds i true) a' w')
    (hrun : (execOp a.eval o).run P w = .ok (.enter f args) w)
    (hw : Region.wanted o (yielded ops a.tmps) = true := by rfl) (hd : o.dst = some d := by rfl) : Pk P ops Q B n listed a w i := by
  rw [← hd] at h
  unfold Pk wpOp
  simp only [hi, hw, if_true]
  refine .inl ?_
  unfold Oper.wp
  rw [hrun]
  refine h.mono fun e w' => ?_
  rintro ⟨v, a', rfl, rfl, hb, B', hB, hh⟩
  exact ⟨hb, hh.on hb hB⟩

/-- A new zero variable, said by the caller. -/
theorem wpList_runTo' {rest : List Oper} {o : Oper} {a : Act} {w : World} (hg : o.guard = none) (v : Value) (w' : World) (hrun : (execOp a.eval o).run P w = .ok (.value v) w')
    (h : wpList P ops Q rest (a.put o.dst v) w') : wpList P ops Q (o :: rest) a w := by
  refine wpList_plain hg fun K hK => ?_
  unfold Oper.wp
  rw [hrun, Oper.upon_value]
  exact hK _ _ h
end
end Go.Proofs.YtacipjdaiglnjaaGreatDoor

/- 'Ow': a slice of the call's own, at the head of its block, whatever lies behind its capacity ('l[:i:i]' too); what append leaves of it. No program is named here. -/
namespace Go.Proofs.YtacipjdaiglnjaaGreatDoor
open Go.RowKit

def Ow (w : World) (base : Nat) (e : TypeId) (k : Nat) (A : Option Addr) (n c : Nat) (xs : List Value) : Prop :=
  xs.length = n * k ∧ ((A = none ∧ n = 0 ∧ c = 0) ∨ ∃ g Z, A = some ⟨g, 0, none⟩ ∧ base ≤ g ∧ Blk w g e (xs ++ Z) ∧ n ≤ c ∧ c ≤ maxLen ∧ c * k ≤ (xs ++ Z).length)
/-- The slice's block. -/
def bk (A : Option Addr) : Option Nat := A.map (·.block)

section
variable {w w' : World} {base k n c g i : Nat} {e : TypeId} {A : Option Addr} {xs : List Value} {S : List Nat}
theorem Ow.nil (w : World) (base : Nat) (e : TypeId) (k : Nat) : Ow w base e k none 0 0 [] := ⟨by simp, .inl ⟨rfl, rfl, rfl⟩⟩
theorem Ow.of_own (h : w.ownsRow base e k (.slice A n c) n xs) : Ow w base e k A n c xs := by
  refine ⟨h.1, ?_⟩
  rcases h.2 with ⟨h1, h2⟩ | ⟨g, cap, cur, hv, hb, hh, hn, hc, hs, ht⟩
  · cases h1; exact .inl ⟨rfl, rfl, rfl⟩
  · cases hv
    have e1 : xs ++ cur.toList.drop (n * k) = cur.toList := by rw [← ht, List.take_append_drop]
    refine .inr ⟨g, cur.toList.drop (n * k), rfl, hb, ?_, hn, hc, ?_⟩
    · rw [e1]; simpa [Blk] using hh
    · rw [e1]; simp [hs]
theorem Ow.le (h : Ow w base e k A n c xs) : n ≤ c := by
  rcases h.2 with ⟨_, h1, h2⟩ | ⟨_, _, _, _, _, h1, _⟩
  · omega
  · exact h1
theorem Ow.rd (h : Ow w base e k A n c xs) : Rd w w.heap.size A c k n xs := by
  refine ⟨h.1, h.le, ?_⟩
  rcases h.2 with ⟨h0, h1, h2⟩ | ⟨g, Z, hA, hb, hB, hn, hc, hz⟩
  · exact ⟨by rw [h2]; simp [maxLen], fun _ => h2, fun hp => by rw [h1] at hp; simp at hp⟩
  · refine ⟨hc, (fun h => by rw [hA] at h; cases h), fun _ => ⟨g, 0, hA, hB.lt, fun j u hu => ?_⟩⟩
    rw [Nat.zero_add]
    exact hB.cell (by rw [List.getElem?_append_left (List.getElem?_eq_some_iff.1 hu).1]; exact hu)
theorem Ow.touch (h : Ow w base e k A n c xs) (ht : Touch S w w') (hs : ∀ g ∈ S, bk A ≠ some g) : Ow w' base e k A n c xs := by
  refine ⟨h.1, ?_⟩
  rcases h.2 with h2 | ⟨g, Z, hA, hb, hB, r⟩
  · exact .inl h2
  · exact .inr ⟨g, Z, hA, hb, hB.touch ht (fun hm => hs g hm (by rw [hA]; rfl)), r⟩
theorem Ow.past (h : Ow w base e k A n c xs) (hb : Below w.heap.size w w') : Ow w' base e k A n c xs := h.touch (S := []) (.of_below hb) (by simp)
/-- Blocks of another type are others. -/
theorem Ow.ne {e' : TypeId} {ys : List Value} (h : Ow w base e k A n c xs) (h' : Blk w g e' ys) (he : e ≠ e') : bk A ≠ some g := by
  rcases h.2 with ⟨h0, _⟩ | ⟨g', Z, hA, hb, hB, _⟩
  · rw [h0]; simp [bk]
  · rw [hA]
    intro hg
    have e1 : g' = g := by simpa [bk] using hg
    subst e1
    exact hB.ne h' he rfl
/-- 'l[:m:m]'. -/
theorem Ow.head (h : Ow w base e k A n c xs) {m : Nat} (hm : m ≤ n) : Ow w base e k A m m (xs.take (m * k)) := by
  have hl := h.1
  have hmk : m * k ≤ n * k := Nat.mul_le_mul_right k hm
  refine ⟨by rw [List.length_take]; omega, ?_⟩
  rcases h.2 with ⟨h0, h1, h2⟩ | ⟨g, Z, hA, hb, hB, hn, hc, hz⟩
  · exact .inl ⟨h0, by omega, by omega⟩
  · refine .inr ⟨g, xs.drop (m * k) ++ Z, hA, hb, ?_, Nat.le_refl _, by omega, ?_⟩
    · rw [← List.append_assoc, List.take_append_drop]; exact hB
    · simp only [List.length_append, List.length_take, List.length_drop]; omega
/-- A cell of it. -/
theorem Ow.cell (h : Ow w base e k A n c xs) (hA : A = some ⟨g, 0, none⟩) {u : Value} (hu : xs[i]? = some u) : w.cell? ⟨g, i, none⟩ = some u ∧ w.frozen? ⟨g, i, none⟩ = false := by
  rcases h.2 with ⟨h0, _⟩ | ⟨g', Z, hA', hb, hB, _⟩
  · rw [h0] at hA; cases hA
  · rw [hA] at hA'; cases hA'
    exact ⟨hB.cell (by rw [List.getElem?_append_left (List.getElem?_eq_some_iff.1 hu).1]; exact hu), hB.free i⟩
theorem Ow.set (h : Ow w base e k A n c xs) (hA : A = some ⟨g, 0, none⟩) (hi : i < xs.length) (u : Value) : Ow (w.setCell ⟨g, i, none⟩ u) base e k A n c (xs.set i u) := by
  refine ⟨by rw [List.length_set]; exact h.1, ?_⟩
  rcases h.2 with ⟨h0, _⟩ | ⟨g', Z, hA', hb, hB, hn, hc, hz⟩
  · rw [h0] at hA; cases hA
  · rw [hA] at hA'; cases hA'
    have := hB.set i u
    rw [List.set_append_left _ _ hi] at this
    exact .inr ⟨g, Z, hA, hb, this, hn, hc, by simpa using hz⟩
theorem Ow.some (h : Ow w base e k A n c xs) (hn : 0 < n) : ∃ g, A = .some ⟨g, 0, none⟩ ∧ base ≤ g ∧ g < w.heap.size := by
  rcases h.2 with ⟨_, h1, _⟩ | ⟨g, Z, hA, hb, hB, _⟩
  · omega
  · exact ⟨g, hA, hb, hB.lt⟩
theorem Ow.down {base' : Nat} (h : Ow w base e k A n c xs) (hb : base' ≤ base) : Ow w base' e k A n c xs := by
  refine ⟨h.1, ?_⟩
  rcases h.2 with h2 | ⟨g, Z, hA, hg, r⟩
  · exact .inl h2
  · exact .inr ⟨g, Z, hA, by omega, r⟩
theorem Ow.hi (h : Ow w base e k A n c xs) : ∀ g, bk A = Option.some g → g < w.heap.size := by
  intro g hg
  rcases h.2 with ⟨h0, _⟩ | ⟨g', Z, hA, hb, hB, _⟩
  · rw [h0] at hg; cases hg
  · rw [hA] at hg
    have e1 : g' = g := by simpa [bk] using hg
    subst e1; exact hB.lt
theorem Ow.low (h : Ow w base e k A n c xs) : ∀ g, bk A = Option.some g → base ≤ g := by
  intro g hg
  rcases h.2 with ⟨h0, _⟩ | ⟨g', Z, hA, hb, _⟩
  · rw [h0] at hg; cases hg
  · rw [hA] at hg; simp [bk] at hg; omega
end

/-- The slice's block, as a list. -/
def bl (A : Option Addr) : List Nat := match bk A with | some g => [g] | none => []
theorem mem_bl {A : Option Addr} {g : Nat} : g ∈ bl A ↔ bk A = some g := by
  unfold bl
  cases bk A <;> simp [eq_comm]
theorem Touch.of_bk {w w' : World} {A : Option Addr} (h : w.grownBy w' (bk A)) : Touch (bl A) w w' := Touch.of_grown_none h (fun _ hk => mem_bl.2 hk)

section
variable {P : Program}
/-- 'append' onto a slice of the call's own, whatever the source. -/
theorem run_app (w : World) (t ty e : TypeId) (i : TypeInfo) (z : Value) (k bytes : Nat) (ht : P.underlying t = some (.slice e)) (hi : P.info? e = some i) (hz : i.zero = some z) (hk : i.size = k) (hby : i.bytes = bytes) (hzs : z.cells.size = k) (hk0 : 0 < k)
    {base n c : Nat} {A : Option Addr} {xs : List Value} (h : Ow w base e k A n c xs) {B cx m : Nat} {X : Option Addr} {news : List Value} (hr : Rd w B X cx k m news) (h1 : ∀ u ∈ news, u.oneCell' = true)
    (h63 : n + m ≤ maxLen) (hbytes : (n + m) * bytes ≤ 140737488355328) (hbase : base ≤ w.heap.size) :
    ∃ A' c' w', (Builtin.append_ #[t, t] ty #[.slice A n c, .slice X m cx]).run P w = .ok (.slice A' (n + m) c') w' ∧ Ow w' base e k A' (n + m) c' (xs ++ news) ∧ w.grownBy w' (bk A) ∧ (∀ g, bk A' = Option.some g → bk A = Option.some g ∨ w.heap.size ≤ g) ∧ (c < n + m → w.grownBy w' none ∧ Ow w' w.heap.size e k A' (n + m) c' (xs ++ news)) ∧ (c = n → w.grownBy w' none) := by
  rcases Nat.eq_zero_or_pos m with rfl | hm
  · have hn : news = [] := List.eq_nil_of_length_eq_zero (by simpa using hr.1)
    subst hn
    have hle := h.le
    refine ⟨A, c, w, ?_, by simpa using h, World.grownBy.refl _ _, fun g hg => .inl hg, fun h' => absurd h' (by omega), fun _ => World.grownBy.refl _ _⟩
    cases A <;> cases X <;> simp [Builtin.append_, run_underlying ht, sizeOf, typeInfo, hi, Builtin.lenOf, hle, Builtin.firstCells, loadCells, loadCellsFrom, storeCells]
  · obtain ⟨bx, ox, rfl, _, hc⟩ := hr.2.2.2.2 (Nat.mul_pos hm hk0)
    have hnews : ∀ j u, news[j]? = Option.some u → w.cell? ((⟨bx, ox, none⟩ : Addr).add j) = Option.some u := fun j u hu => by rw [add_zero_spot]; exact hc j u hu
    have hown := h
    rcases h.2 with ⟨rfl, rfl, rfl⟩ | ⟨g, Z, rfl, hb, hB, hn, hcm, hfit⟩
    · have hx : xs = [] := List.eq_nil_of_length_eq_zero (by simpa using h.1)
      subst hx
      obtain ⟨v', w', hrun, ho, hg, _⟩ := run_append_own (P := P) w w.heap.size t ty e i z k bytes ht hi hz hk hby hzs hk0 (.slice none 0 0) 0 [] (World.ownsRow_nil w w.heap.size e k) ⟨bx, ox, none⟩ m cx news hr.1 hnews h1 h63 hbytes (Nat.le_refl _)
      obtain ⟨A', c', rfl⟩ := own_slice ho
      exact ⟨A', c', w', hrun, Ow.of_own (own_base ho hbase), hg, fun g hg => .inr ((Ow.of_own ho).low g hg), fun _ => ⟨hg, Ow.of_own ho⟩, fun _ => hg⟩
    · by_cases hroom : n + m ≤ c
      · have hl : xs.length = n * k := hown.1
        have hnl := hr.1
        have hfit2 : n * k + news.length ≤ (xs ++ Z).length := by
          rw [hnl, ← Nat.add_mul]; exact Nat.le_trans (Nat.mul_le_mul_right k hroom) hfit
        have hrun := run_append_room (P := P) w t ty e i ht hi g n c (xs ++ Z).toArray hB ⟨bx, ox, none⟩ m cx news (by rw [hk]; exact hr.1) hnews h1 hroom (by rw [hk]; simpa using hfit2)
        refine ⟨_, _, _, hrun, ⟨by rw [List.length_append, hl, hnl, Nat.add_mul], .inr ⟨g, Z.drop news.length, rfl, hb, ?_, hroom, hcm, ?_⟩⟩, grown_row _ _ _, fun g hg => .inl hg, fun h' => absurd h' (by omega), fun h' => absurd h' (by omega)⟩
        · have e1 : (xs ++ Z).take (n * k) = xs := by rw [← hl]; exact List.take_left
          have e2 : (xs ++ Z).drop (n * k + news.length) = Z.drop news.length := by
            rw [← hl, List.drop_append, List.drop_of_length_le (by omega), List.nil_append]
            congr 1; omega
          have := hB.row (xs ++ news ++ Z.drop news.length).toArray
          rw [hk]
          simp only [e1, e2]
          exact this
        · simp only [List.length_append, List.length_drop] at hfit hfit2 ⊢; omega
      · obtain ⟨v', w', hrun, ho, hg⟩ := run_append_arg_grows (P := P) w t ty e i z k bytes ht hi hz hk hby hzs hk0 ⟨g, 0, none⟩ n c xs hown.1 (fun j u hu => by rw [add_zero_spot, Nat.zero_add]; exact (hown.cell rfl hu).1) ⟨bx, ox, none⟩ m cx news hr.1 hnews (by omega) h63 hbytes
        obtain ⟨A', c', rfl⟩ := own_slice ho
        exact ⟨A', c', w', hrun, Ow.of_own (own_base ho hbase), ⟨hg.os, hg.tape, hg.output, hg.size, fun k hk _ => hg.block k hk (by simp)⟩, fun g hg => .inr ((Ow.of_own ho).low g hg), fun _ => ⟨hg, Ow.of_own ho⟩, fun _ => hg⟩

theorem wpList_app2 {w : World} {ops : Array Oper} {rest : List Oper} {o : Oper} {a : Act} {Q : Exit → Act → World → Prop} (hgd : o.guard = none) (s x : Operand) (t : TypeId)
    (ho : o.op = .call { callee := .builtin .append, args := #[s, x], argTypes := #[t, t] })
    (base : Nat) (e : TypeId) (z : Value) (k bytes : Nat) (ht : P.underlying t = some (.slice e)) (hi : (P.info? e).map (fun i => (i.zero, i.size, i.bytes)) = some (some z, k, bytes)) (hzs : z.cells.size = k) (hk0 : 0 < k)
    (A : Option Addr) (n c : Nat) (xs : List Value) (hs : a.eval s = .slice A n c) (hown : Ow w base e k A n c xs)
    (B : Nat) (X : Option Addr) (cx m : Nat) (news : List Value) (hx : a.eval x = .slice X m cx) (hr : Rd w B X cx k m news) (h1 : ∀ u ∈ news, u.oneCell' = true)
    (h63 : n + m ≤ maxLen) (hbytes : (n + m) * bytes ≤ 140737488355328) (hbase : base ≤ w.heap.size)
    (h : ∀ A' c' w', Ow w' base e k A' (n + m) c' (xs ++ news) → w.grownBy w' (bk A) → (∀ g, bk A' = Option.some g → bk A = Option.some g ∨ w.heap.size ≤ g) → wpList P ops Q rest (a.put o.dst (.slice A' (n + m) c')) w') : wpList P ops Q (o :: rest) a w := by
  refine wpList_plain hgd fun K hK => ?_
  obtain ⟨i, hi0, hz, hk, hby⟩ := info_parts hi
  obtain ⟨A', c', w', hrun, h2, h3, h4, _⟩ := run_app (P := P) w t o.type e i z k bytes ht hi0 hz hk hby hzs hk0 hown hr h1 h63 hbytes hbase
  unfold Oper.wp execOp
  simp only [ho, resolve, invoke, builtin, Sem.run_bind, Sem.run_pure, Result.andThen_ok, List.map_toArray, List.map_cons, List.map_nil, hs, hx, hrun]
  exact hK _ _ (h A' c' w' h2 h3 h4)

end
section
variable {w w' : World} {base k n c g : Nat} {e : TypeId} {A : Option Addr} {xs : List Value} {S : List Nat}
theorem Ow.blk (h : Ow w base e k A n c xs) (hg : bk A = Option.some g) : ∃ ys, Blk w g e ys := by
  rcases h.2 with ⟨h0, _⟩ | ⟨g', Z, hA, _, hB, _⟩
  · rw [h0] at hg; cases hg
  · rw [hA] at hg
    have e1 : g' = g := by simpa [bk] using hg
    subst e1; exact ⟨_, hB⟩
/-- Behind a call that wrote blocks of other types. -/
theorem Ow.other (h : Ow w base e k A n c xs) (ht : Touch S w w') (hs : ∀ s ∈ S, ∃ t ys, Blk w s t ys ∧ t ≠ e) : Ow w' base e k A n c xs :=
  h.touch ht (fun s hm hk => by
    obtain ⟨t, ys, hB, hne⟩ := hs s hm
    obtain ⟨zs, hZ⟩ := h.blk hk
    exact hB.ne hZ hne rfl)
end

end Go.Proofs.YtacipjdaiglnjaaGreatDoor

/- An entry loaded in a region that draws. -/
namespace Go.Proofs.YtacipjdaiglnjaaGreatDoor
open Go.RowKit

theorem rangeAt_below {w w' : World} {B b o : Nat} {xs : List Value} (h : w.rangeAt b o xs) (hb : Below B w w') (hlt : b < B) : w'.rangeAt b o xs := fun j v hv => (hb.cell (p := ⟨b, o + j, none⟩) hlt).trans (h j v hv)
theorem Blk.range {w : World} {g : Nat} {t : TypeId} {xs : List Value} (h : Blk w g t xs) : w.rangeAt g 0 xs := fun j v hv => by rw [Nat.zero_add]; exact h.cell hv
/-- An entry is loaded, in a region that draws. -/
theorem run_loadE {w : World} {dst : Option Tmp} {x : Operand} {ty : TypeId} {pos : String} {after : Array Edge} {guard : Option (Nat × Bool)} {ρ : Operand → Value} {b o : Nat} {e : Ent}
    (hr : w.rangeAt b o (ecs e)) (hx : ρ x = .pointer (some ⟨b, o, none⟩)) :
    (execOp ρ { dst, op := .load 93 x, type := ty, pos, after, guard }).run Tryz.prog w = .ok (.value (ev e)) w := by
  have := run_loadAt_mid (P := Tryz.prog) w b o 93 (ecs e) _ hr Tryz.underlying93 rfl (by kernel_rfl)
  unfold execOp
  simp only [hx, Sem.run_bind, this, Result.andThen_ok, Sem.run_pure]
  rfl

end Go.Proofs.YtacipjdaiglnjaaGreatDoor

/- An entry loaded, built in a region that draws; small facts of lists. -/
namespace Go.Proofs.YtacipjdaiglnjaaGreatDoor
open Go.RowKit

theorem any_take {l : List Ent} {p : Ent → Bool} {i : Nat} {e : Ent} (he : l[i]? = some e) (h : (l.take i).any p = false) (hp : p e = false) : (l.take (i + 1)).any p = false := by
  obtain ⟨hi, rfl⟩ := List.getElem?_eq_some_iff.1 he
  rw [← List.take_append_getElem hi, List.any_append, h]
  simp [hp]
theorem any_at {l : List Ent} {p : Ent → Bool} {i : Nat} {e : Ent} (he : l[i]? = some e) (hp : p e = true) : l.any p = true := by
  rw [List.any_eq_true]
  exact ⟨e, List.mem_of_getElem? he, hp⟩
theorem results_rowB {P : Program} {fn : Func} {p u : Tmp} {ty : TypeId} (h : fn.results = #[.cell p ty, .tmp u]) (tmps : Array Value) (w : World) (g : Nat) (t : TypeId) (cs : Array Value) (fr : Nat × Nat) (d : TypeDesc)
    {v : Value} (hp : tmps.getD p undef = .pointer (some ⟨g, 0, none⟩)) (hv : tmps.getD u undef = v) (hg : w.heap[g]? = some (.cells cs t fr))
    (hu : P.underlying ty = some d) (hd : (match d with | .struct _ | .array _ _ => true | _ => false) = true) (hi : (P.info? ty).map (·.size) = some cs.size) :
    (results fn tmps).run P w = .ok (.tuple #[.agg cs, v]) w := by
  rw [results_cell_tmp h, hp, hv]
  simp [asAddr, run_loadVar_row w g t ty cs fr d hg hu hd hi, Result.andThen]

theorem ecs_one (e : Ent) : ∀ u ∈ ecs e, u.oneCell' = true := by
  have := els_one [e]
  simpa [els] using this
theorem grown0 {w w' : World} {row : Option Nat} (h : w.grownBy w' row) : Below 0 w w' := ⟨h.os, h.tape, h.output, h.size, fun k hk => absurd hk (Nat.not_lt_zero k)⟩
/-- A slice is loaded out of its cell. -/
theorem run_load1 {w : World} {dst : Option Tmp} {x : Operand} {ty : TypeId} {pos : String} {after : Array Edge} {guard : Option (Nat × Bool)} {ρ : Operand → Value} {p : Addr} {A : Option Addr} {n c : Nat}
    (h : w.cell? p = some (.slice A n c)) (hx : ρ x = .pointer (some p)) : (execOp ρ { dst, op := .load 29 x, type := ty, pos, after, guard }).run Tryz.prog w = .ok (.value (.slice A n c)) w := by
  go_simp
/-- '[]api.Entry{e}' in a region that draws. -/
theorem wpList_buildE {w : World} {ops : Array Oper} {rest : List Oper} {o : Oper} {a : Act} {Q : Exit → Act → World → Prop} (hgd : o.guard = none) (x : Operand) (ho : o.op = .buildSlice 29 1 #[(0, x)]) (e : Ent) (hx : a.eval x = ev e)
    (h : wpList Tryz.prog ops Q rest (a.put o.dst (.slice (some ⟨w.heap.size, 0, none⟩) 1 1)) (w.alloc (.cells (ecs e).toArray 93))) : wpList Tryz.prog ops Q (o :: rest) a w := by
  obtain ⟨i, hi0, hz, hk, -⟩ := info_parts ent_info
  refine wpList_buildSlice hgd 29 93 1 _ ho (ecs e).toArray i (ev zeroE) Tryz.underlying29 hi0 hz (by rw [hk]; omega) (by rw [hk]; omega) ?_ h
  rw [hk]
  have hb : (Array.range (1 * 7)).map (fun x => (ev zeroE).cells[x % (ev zeroE).cells.size]!) = (ecs zeroE).toArray := by kernel_rfl
  rw [hb]
  simp [Instr.fill, ev, ecs, Value.cells, hx]

theorem take_step {es : List Ent} {i : Nat} {e : Ent} (he : es[i]? = some e) : es.take (i + 1) = es.take i ++ [e] := by
  obtain ⟨hi, rfl⟩ := List.getElem?_eq_some_iff.1 he
  exact (List.take_append_getElem hi).symm
theorem run_loadI {w : World} {dst : Option Tmp} {x : Operand} {ty : TypeId} {pos : String} {after : Array Edge} {guard : Option (Nat × Bool)} {ρ : Operand → Value} {p : Addr} {k : Int}
    (h : w.cell? p = some (.int .i64 k)) (hx : ρ x = .pointer (some p)) : (execOp ρ { dst, op := .load 2 x, type := ty, pos, after, guard }).run Tryz.prog w = .ok (.value (.int .i64 k)) w := by
  go_simp
section
variable {w w' : World} {S : List Nat}
theorem run_short {P : Program} {w : World} (t e : TypeId) {z : Option Value} {k bytes : Nat} (ht : P.underlying t = some (.slice e)) (hi : (P.info? e).map (fun i => (i.zero, i.size, i.bytes)) = some (z, k, bytes))
    (A : Option Addr) (n c m : Nat) (hm : m ≤ c) : (Instr.sliceAt t (.slice A n c) none (some (.int .i64 m)) none).run P w = .ok (.slice A m c) w := by
  rw [run_cut t e ht hi A n c none (some (.int .i64 m)) .i64 .i64 0 m (Or.inl ⟨rfl, rfl⟩) (Or.inr rfl) (Nat.zero_le _) hm]
  have h0 : (if c = 0 then A else A.map (·.add (0 * k))) = A := by
    split
    · rfl
    · cases A <;> simp [Addr.add]
  rw [h0]; rfl
/-- A slice that reads, behind a call that wrote other blocks. -/
theorem Rd.touch {B c k n : Nat} {A : Option Addr} {xs : List Value} (h : Rd w B A c k n xs) (ht : Touch S w w') (hs : 0 < n * k → ∀ s ∈ S, bk A ≠ some s) : Rd w' B A c k n xs :=
  ⟨h.1, h.2.1, h.2.2.1, h.2.2.2.1, fun hn => by
    obtain ⟨b, o, e, hB, hc⟩ := h.2.2.2.2 hn
    refine ⟨b, o, e, hB, fun j u hu => ?_⟩
    have hlt : b < w.heap.size := World.block_lt_of_cell? w _ (hc j u hu)
    have hb := ht.block b hlt (fun hm => hs hn b hm (by rw [e]; rfl))
    have := hc j u hu
    unfold World.cell? at this ⊢
    simp only [hb]
    exact this⟩
/-- What lies below B is apart from blocks that do not. -/
theorem Rd.apart {B c k n : Nat} {A : Option Addr} {xs : List Value} (h : Rd w B A c k n xs) (hS : ∀ s ∈ S, B ≤ s) : 0 < n * k → ∀ s ∈ S, bk A ≠ some s := by
  intro hn s hs e
  obtain ⟨b, o, hA, hb, _⟩ := h.2.2.2.2 hn
  rw [hA] at e
  have : b = s := by simpa [bk] using e
  have := hS s hs
  omega
end
end Go.Proofs.YtacipjdaiglnjaaGreatDoor

/- Contracts of the document's Same and Eq. -/
namespace Go.Proofs.YtacipjdaiglnjaaGreatDoor
open Go.RowKit

set_option maxRecDepth 100000 in
theorem rSame_c (w : World) (a b : Ent) : Calls Tryz.prog 81 #[ev a, ev b] w fun x w' => x = .returned (.bool (PEnt.same a b)) ∧ Below w.heap.size w w' := by
  obtain ⟨fr0, boot0, seq0, ord0, lev0, stamp0, data0⟩ := a
  obtain ⟨fr1, boot1, seq1, ord1, lev1, stamp1, data1⟩ := b
  have HS := Lib.hid (show PEnt.same ⟨fr0, boot0, seq0, ord0, lev0, stamp0, data0⟩ ⟨fr1, boot1, seq1, ord1, lev1, stamp1, data1⟩ = (fr0 == fr1 && boot0 == boot1 && seq0 == seq1) from rfl)
  cases q0 : (fr0 == fr1)
  · show Calls _ _ #[.agg #[.int .i64 fr0, .int .i64 boot0, .int .i64 seq0, .int .i64 ord0, .int .i64 lev0, .int .i64 stamp0, .string data0], .agg #[.int .i64 fr1, .int .i64 boot1, .int .i64 seq1, .int .i64 ord1, .int .i64 lev1, .int .i64 stamp1, .string data1]] _ _
    go_enter Tryz.func81, Tryz.ntmps81
    go_wp2_with fail
    go_ret
    exact ⟨by rw [HS.out]; simp [q0], ((Below.refl _ _).alloc (Nat.le_refl _) _).alloc (by simp) _⟩
  cases q1 : (boot0 == boot1)
  · show Calls _ _ #[.agg #[.int .i64 fr0, .int .i64 boot0, .int .i64 seq0, .int .i64 ord0, .int .i64 lev0, .int .i64 stamp0, .string data0], .agg #[.int .i64 fr1, .int .i64 boot1, .int .i64 seq1, .int .i64 ord1, .int .i64 lev1, .int .i64 stamp1, .string data1]] _ _
    go_enter Tryz.func81, Tryz.ntmps81
    go_wp2_with fail
    go_ret
    exact ⟨by rw [HS.out]; simp [q0, q1], ((Below.refl _ _).alloc (Nat.le_refl _) _).alloc (by simp) _⟩
  cases q2 : (seq0 == seq1)
  · show Calls _ _ #[.agg #[.int .i64 fr0, .int .i64 boot0, .int .i64 seq0, .int .i64 ord0, .int .i64 lev0, .int .i64 stamp0, .string data0], .agg #[.int .i64 fr1, .int .i64 boot1, .int .i64 seq1, .int .i64 ord1, .int .i64 lev1, .int .i64 stamp1, .string data1]] _ _
    go_enter Tryz.func81, Tryz.ntmps81
    go_wp2_with fail
    go_ret
    exact ⟨by rw [HS.out]; simp [q0, q1, q2], ((Below.refl _ _).alloc (Nat.le_refl _) _).alloc (by simp) _⟩
  show Calls _ _ #[.agg #[.int .i64 fr0, .int .i64 boot0, .int .i64 seq0, .int .i64 ord0, .int .i64 lev0, .int .i64 stamp0, .string data0], .agg #[.int .i64 fr1, .int .i64 boot1, .int .i64 seq1, .int .i64 ord1, .int .i64 lev1, .int .i64 stamp1, .string data1]] _ _
  go_enter Tryz.func81, Tryz.ntmps81
  go_wp2_with fail
  go_ret
  exact ⟨by rw [HS.out]; simp [q0, q1, q2], ((Below.refl _ _).alloc (Nat.le_refl _) _).alloc (by simp) _⟩

set_option maxRecDepth 100000 in
theorem rEq_c (w : World) (a b : Ent) : Calls Tryz.prog 43 #[ev a, ev b] w fun x w' => x = .returned (.bool (PEnt.eqE a b)) ∧ Below w.heap.size w w' := by
  have KS := Lib.hid (fun w => rSame_c w a b)
  obtain ⟨fr0, boot0, seq0, ord0, lev0, stamp0, data0⟩ := a
  obtain ⟨fr1, boot1, seq1, ord1, lev1, stamp1, data1⟩ := b
  have HS := Lib.hid (show PEnt.eqE ⟨fr0, boot0, seq0, ord0, lev0, stamp0, data0⟩ ⟨fr1, boot1, seq1, ord1, lev1, stamp1, data1⟩ = (fr0 == fr1 && boot0 == boot1 && seq0 == seq1 && ord0 == ord1 && lev0 == lev1 && stamp0 == stamp1 && data0.toList == data1.toList) from rfl)
  have HP := Lib.hid (show PEnt.same ⟨fr0, boot0, seq0, ord0, lev0, stamp0, data0⟩ ⟨fr1, boot1, seq1, ord1, lev1, stamp1, data1⟩ = (fr0 == fr1 && boot0 == boot1 && seq0 == seq1) from rfl)
  cases q0 : (fr0 == fr1 && boot0 == boot1 && seq0 == seq1)
  · rw [q0] at HS HP
    show Calls _ _ #[.agg #[.int .i64 fr0, .int .i64 boot0, .int .i64 seq0, .int .i64 ord0, .int .i64 lev0, .int .i64 stamp0, .string data0], .agg #[.int .i64 fr1, .int .i64 boot1, .int .i64 seq1, .int .i64 ord1, .int .i64 lev1, .int .i64 stamp1, .string data1]] _ _
    go_enter Tryz.func43, Tryz.ntmps43
    go_wp2_with fail
    have b0 := ((Below.refl w.heap.size w).alloc (Nat.le_refl _) (.cells #[.int .i64 fr0, .int .i64 boot0, .int .i64 seq0, .int .i64 ord0, .int .i64 lev0, .int .i64 stamp0, .string data0] 93)).alloc (by simp) (.cells #[.int .i64 fr1, .int .i64 boot1, .int .i64 seq1, .int .i64 ord1, .int .i64 lev1, .int .i64 stamp1, .string data1] 93)
    refine (KS.out _).mono ?_
    rw [HP.out]
    rintro e w1 ⟨rfl, b1⟩
    have k0 := (Blk.newEnt w 93 ⟨fr0, boot0, seq0, ord0, lev0, stamp0, data0⟩).alloc (.cells #[.int .i64 fr1, .int .i64 boot1, .int .i64 seq1, .int .i64 ord1, .int .i64 lev1, .int .i64 stamp1, .string data1] 93)
    have k1 := Blk.newEnt (w.alloc (.cells #[.int .i64 fr0, .int .i64 boot0, .int .i64 seq0, .int .i64 ord0, .int .i64 lev0, .int .i64 stamp0, .string data0] 93)) 93 ⟨fr1, boot1, seq1, ord1, lev1, stamp1, data1⟩
    rw [show (w.alloc (.cells #[.int .i64 fr0, .int .i64 boot0, .int .i64 seq0, .int .i64 ord0, .int .i64 lev0, .int .i64 stamp0, .string data0] 93)).heap.size = w.heap.size + 1 by simp] at k1
    obtain ⟨-, -, -, c03, c04, c05, c06⟩ := (k0.past b1).ent
    obtain ⟨-, -, -, c13, c14, c15, c16⟩ := (k1.past b1).ent
    have b2 := b0.trans (b1.mono b0.size)
    clear k0 k1 b0 b1
    go_wp2_with fail
    go_ret
    exact ⟨by rw [HS.out]; simp [], b2⟩
  rw [q0] at HS HP
  cases q1 : (ord0 == ord1)
  · show Calls _ _ #[.agg #[.int .i64 fr0, .int .i64 boot0, .int .i64 seq0, .int .i64 ord0, .int .i64 lev0, .int .i64 stamp0, .string data0], .agg #[.int .i64 fr1, .int .i64 boot1, .int .i64 seq1, .int .i64 ord1, .int .i64 lev1, .int .i64 stamp1, .string data1]] _ _
    go_enter Tryz.func43, Tryz.ntmps43
    go_wp2_with fail
    have b0 := ((Below.refl w.heap.size w).alloc (Nat.le_refl _) (.cells #[.int .i64 fr0, .int .i64 boot0, .int .i64 seq0, .int .i64 ord0, .int .i64 lev0, .int .i64 stamp0, .string data0] 93)).alloc (by simp) (.cells #[.int .i64 fr1, .int .i64 boot1, .int .i64 seq1, .int .i64 ord1, .int .i64 lev1, .int .i64 stamp1, .string data1] 93)
    refine (KS.out _).mono ?_
    rw [HP.out]
    rintro e w1 ⟨rfl, b1⟩
    have k0 := (Blk.newEnt w 93 ⟨fr0, boot0, seq0, ord0, lev0, stamp0, data0⟩).alloc (.cells #[.int .i64 fr1, .int .i64 boot1, .int .i64 seq1, .int .i64 ord1, .int .i64 lev1, .int .i64 stamp1, .string data1] 93)
    have k1 := Blk.newEnt (w.alloc (.cells #[.int .i64 fr0, .int .i64 boot0, .int .i64 seq0, .int .i64 ord0, .int .i64 lev0, .int .i64 stamp0, .string data0] 93)) 93 ⟨fr1, boot1, seq1, ord1, lev1, stamp1, data1⟩
    rw [show (w.alloc (.cells #[.int .i64 fr0, .int .i64 boot0, .int .i64 seq0, .int .i64 ord0, .int .i64 lev0, .int .i64 stamp0, .string data0] 93)).heap.size = w.heap.size + 1 by simp] at k1
    obtain ⟨-, -, -, c03, c04, c05, c06⟩ := (k0.past b1).ent
    obtain ⟨-, -, -, c13, c14, c15, c16⟩ := (k1.past b1).ent
    have b2 := b0.trans (b1.mono b0.size)
    clear k0 k1 b0 b1
    go_wp2_with fail
    go_ret
    exact ⟨by rw [HS.out]; simp [q1], b2⟩
  cases q2 : (lev0 == lev1)
  · show Calls _ _ #[.agg #[.int .i64 fr0, .int .i64 boot0, .int .i64 seq0, .int .i64 ord0, .int .i64 lev0, .int .i64 stamp0, .string data0], .agg #[.int .i64 fr1, .int .i64 boot1, .int .i64 seq1, .int .i64 ord1, .int .i64 lev1, .int .i64 stamp1, .string data1]] _ _
    go_enter Tryz.func43, Tryz.ntmps43
    go_wp2_with fail
    have b0 := ((Below.refl w.heap.size w).alloc (Nat.le_refl _) (.cells #[.int .i64 fr0, .int .i64 boot0, .int .i64 seq0, .int .i64 ord0, .int .i64 lev0, .int .i64 stamp0, .string data0] 93)).alloc (by simp) (.cells #[.int .i64 fr1, .int .i64 boot1, .int .i64 seq1, .int .i64 ord1, .int .i64 lev1, .int .i64 stamp1, .string data1] 93)
    refine (KS.out _).mono ?_
    rw [HP.out]
    rintro e w1 ⟨rfl, b1⟩
    have k0 := (Blk.newEnt w 93 ⟨fr0, boot0, seq0, ord0, lev0, stamp0, data0⟩).alloc (.cells #[.int .i64 fr1, .int .i64 boot1, .int .i64 seq1, .int .i64 ord1, .int .i64 lev1, .int .i64 stamp1, .string data1] 93)
    have k1 := Blk.newEnt (w.alloc (.cells #[.int .i64 fr0, .int .i64 boot0, .int .i64 seq0, .int .i64 ord0, .int .i64 lev0, .int .i64 stamp0, .string data0] 93)) 93 ⟨fr1, boot1, seq1, ord1, lev1, stamp1, data1⟩
    rw [show (w.alloc (.cells #[.int .i64 fr0, .int .i64 boot0, .int .i64 seq0, .int .i64 ord0, .int .i64 lev0, .int .i64 stamp0, .string data0] 93)).heap.size = w.heap.size + 1 by simp] at k1
    obtain ⟨-, -, -, c03, c04, c05, c06⟩ := (k0.past b1).ent
    obtain ⟨-, -, -, c13, c14, c15, c16⟩ := (k1.past b1).ent
    have b2 := b0.trans (b1.mono b0.size)
    clear k0 k1 b0 b1
    go_wp2_with fail
    go_ret
    exact ⟨by rw [HS.out]; simp [q1, q2], b2⟩
  cases q3 : (stamp0 == stamp1)
  · show Calls _ _ #[.agg #[.int .i64 fr0, .int .i64 boot0, .int .i64 seq0, .int .i64 ord0, .int .i64 lev0, .int .i64 stamp0, .string data0], .agg #[.int .i64 fr1, .int .i64 boot1, .int .i64 seq1, .int .i64 ord1, .int .i64 lev1, .int .i64 stamp1, .string data1]] _ _
    go_enter Tryz.func43, Tryz.ntmps43
    go_wp2_with fail
    have b0 := ((Below.refl w.heap.size w).alloc (Nat.le_refl _) (.cells #[.int .i64 fr0, .int .i64 boot0, .int .i64 seq0, .int .i64 ord0, .int .i64 lev0, .int .i64 stamp0, .string data0] 93)).alloc (by simp) (.cells #[.int .i64 fr1, .int .i64 boot1, .int .i64 seq1, .int .i64 ord1, .int .i64 lev1, .int .i64 stamp1, .string data1] 93)
    refine (KS.out _).mono ?_
    rw [HP.out]
    rintro e w1 ⟨rfl, b1⟩
    have k0 := (Blk.newEnt w 93 ⟨fr0, boot0, seq0, ord0, lev0, stamp0, data0⟩).alloc (.cells #[.int .i64 fr1, .int .i64 boot1, .int .i64 seq1, .int .i64 ord1, .int .i64 lev1, .int .i64 stamp1, .string data1] 93)
    have k1 := Blk.newEnt (w.alloc (.cells #[.int .i64 fr0, .int .i64 boot0, .int .i64 seq0, .int .i64 ord0, .int .i64 lev0, .int .i64 stamp0, .string data0] 93)) 93 ⟨fr1, boot1, seq1, ord1, lev1, stamp1, data1⟩
    rw [show (w.alloc (.cells #[.int .i64 fr0, .int .i64 boot0, .int .i64 seq0, .int .i64 ord0, .int .i64 lev0, .int .i64 stamp0, .string data0] 93)).heap.size = w.heap.size + 1 by simp] at k1
    obtain ⟨-, -, -, c03, c04, c05, c06⟩ := (k0.past b1).ent
    obtain ⟨-, -, -, c13, c14, c15, c16⟩ := (k1.past b1).ent
    have b2 := b0.trans (b1.mono b0.size)
    clear k0 k1 b0 b1
    go_wp2_with fail
    go_ret
    exact ⟨by rw [HS.out]; simp [q1, q2, q3], b2⟩
  cases q4 : (data0.toList == data1.toList)
  · show Calls _ _ #[.agg #[.int .i64 fr0, .int .i64 boot0, .int .i64 seq0, .int .i64 ord0, .int .i64 lev0, .int .i64 stamp0, .string data0], .agg #[.int .i64 fr1, .int .i64 boot1, .int .i64 seq1, .int .i64 ord1, .int .i64 lev1, .int .i64 stamp1, .string data1]] _ _
    go_enter Tryz.func43, Tryz.ntmps43
    go_wp2_with fail
    have b0 := ((Below.refl w.heap.size w).alloc (Nat.le_refl _) (.cells #[.int .i64 fr0, .int .i64 boot0, .int .i64 seq0, .int .i64 ord0, .int .i64 lev0, .int .i64 stamp0, .string data0] 93)).alloc (by simp) (.cells #[.int .i64 fr1, .int .i64 boot1, .int .i64 seq1, .int .i64 ord1, .int .i64 lev1, .int .i64 stamp1, .string data1] 93)
    refine (KS.out _).mono ?_
    rw [HP.out]
    rintro e w1 ⟨rfl, b1⟩
    have k0 := (Blk.newEnt w 93 ⟨fr0, boot0, seq0, ord0, lev0, stamp0, data0⟩).alloc (.cells #[.int .i64 fr1, .int .i64 boot1, .int .i64 seq1, .int .i64 ord1, .int .i64 lev1, .int .i64 stamp1, .string data1] 93)
    have k1 := Blk.newEnt (w.alloc (.cells #[.int .i64 fr0, .int .i64 boot0, .int .i64 seq0, .int .i64 ord0, .int .i64 lev0, .int .i64 stamp0, .string data0] 93)) 93 ⟨fr1, boot1, seq1, ord1, lev1, stamp1, data1⟩
    rw [show (w.alloc (.cells #[.int .i64 fr0, .int .i64 boot0, .int .i64 seq0, .int .i64 ord0, .int .i64 lev0, .int .i64 stamp0, .string data0] 93)).heap.size = w.heap.size + 1 by simp] at k1
    obtain ⟨-, -, -, c03, c04, c05, c06⟩ := (k0.past b1).ent
    obtain ⟨-, -, -, c13, c14, c15, c16⟩ := (k1.past b1).ent
    have b2 := b0.trans (b1.mono b0.size)
    clear k0 k1 b0 b1
    go_wp2_with fail
    go_ret
    exact ⟨by rw [HS.out]; simp [q1, q2, q3, q4], b2⟩
  show Calls _ _ #[.agg #[.int .i64 fr0, .int .i64 boot0, .int .i64 seq0, .int .i64 ord0, .int .i64 lev0, .int .i64 stamp0, .string data0], .agg #[.int .i64 fr1, .int .i64 boot1, .int .i64 seq1, .int .i64 ord1, .int .i64 lev1, .int .i64 stamp1, .string data1]] _ _
  go_enter Tryz.func43, Tryz.ntmps43
  go_wp2_with fail
  have b0 := ((Below.refl w.heap.size w).alloc (Nat.le_refl _) (.cells #[.int .i64 fr0, .int .i64 boot0, .int .i64 seq0, .int .i64 ord0, .int .i64 lev0, .int .i64 stamp0, .string data0] 93)).alloc (by simp) (.cells #[.int .i64 fr1, .int .i64 boot1, .int .i64 seq1, .int .i64 ord1, .int .i64 lev1, .int .i64 stamp1, .string data1] 93)
  refine (KS.out _).mono ?_
  rw [HP.out]
  rintro e w1 ⟨rfl, b1⟩
  have k0 := (Blk.newEnt w 93 ⟨fr0, boot0, seq0, ord0, lev0, stamp0, data0⟩).alloc (.cells #[.int .i64 fr1, .int .i64 boot1, .int .i64 seq1, .int .i64 ord1, .int .i64 lev1, .int .i64 stamp1, .string data1] 93)
  have k1 := Blk.newEnt (w.alloc (.cells #[.int .i64 fr0, .int .i64 boot0, .int .i64 seq0, .int .i64 ord0, .int .i64 lev0, .int .i64 stamp0, .string data0] 93)) 93 ⟨fr1, boot1, seq1, ord1, lev1, stamp1, data1⟩
  rw [show (w.alloc (.cells #[.int .i64 fr0, .int .i64 boot0, .int .i64 seq0, .int .i64 ord0, .int .i64 lev0, .int .i64 stamp0, .string data0] 93)).heap.size = w.heap.size + 1 by simp] at k1
  obtain ⟨-, -, -, c03, c04, c05, c06⟩ := (k0.past b1).ent
  obtain ⟨-, -, -, c13, c14, c15, c16⟩ := (k1.past b1).ent
  have b2 := b0.trans (b1.mono b0.size)
  clear k0 k1 b0 b1
  go_wp2_with fail
  go_ret
  exact ⟨by rw [HS.out]; simp [q1, q2, q3, q4], b2⟩

end Go.Proofs.YtacipjdaiglnjaaGreatDoor

/- Contracts of Same and Eq, of the program and of the document. -/
namespace Go.Proofs.YtacipjdaiglnjaaGreatDoor
open Go.RowKit

set_option maxRecDepth 100000 in
theorem Same_c (w : World) (a b : Ent) : Calls Tryz.prog 171 #[ev a, ev b] w fun x w' => x = .returned (.bool (PEnt.same a b)) ∧ Below w.heap.size w w' := by
  obtain ⟨fr0, boot0, seq0, ord0, lev0, stamp0, data0⟩ := a
  obtain ⟨fr1, boot1, seq1, ord1, lev1, stamp1, data1⟩ := b
  have HS := Lib.hid (show PEnt.same ⟨fr0, boot0, seq0, ord0, lev0, stamp0, data0⟩ ⟨fr1, boot1, seq1, ord1, lev1, stamp1, data1⟩ = (fr0 == fr1 && boot0 == boot1 && seq0 == seq1) from rfl)
  cases q0 : (fr0 == fr1)
  · show Calls _ _ #[.agg #[.int .i64 fr0, .int .i64 boot0, .int .i64 seq0, .int .i64 ord0, .int .i64 lev0, .int .i64 stamp0, .string data0], .agg #[.int .i64 fr1, .int .i64 boot1, .int .i64 seq1, .int .i64 ord1, .int .i64 lev1, .int .i64 stamp1, .string data1]] _ _
    go_enter Tryz.func171, Tryz.ntmps171
    go_wp2_with fail
    go_ret
    exact ⟨by rw [HS.out]; simp [q0], ((Below.refl _ _).alloc (Nat.le_refl _) _).alloc (by simp) _⟩
  cases q1 : (boot0 == boot1)
  · show Calls _ _ #[.agg #[.int .i64 fr0, .int .i64 boot0, .int .i64 seq0, .int .i64 ord0, .int .i64 lev0, .int .i64 stamp0, .string data0], .agg #[.int .i64 fr1, .int .i64 boot1, .int .i64 seq1, .int .i64 ord1, .int .i64 lev1, .int .i64 stamp1, .string data1]] _ _
    go_enter Tryz.func171, Tryz.ntmps171
    go_wp2_with fail
    go_ret
    exact ⟨by rw [HS.out]; simp [q0, q1], ((Below.refl _ _).alloc (Nat.le_refl _) _).alloc (by simp) _⟩
  cases q2 : (seq0 == seq1)
  · show Calls _ _ #[.agg #[.int .i64 fr0, .int .i64 boot0, .int .i64 seq0, .int .i64 ord0, .int .i64 lev0, .int .i64 stamp0, .string data0], .agg #[.int .i64 fr1, .int .i64 boot1, .int .i64 seq1, .int .i64 ord1, .int .i64 lev1, .int .i64 stamp1, .string data1]] _ _
    go_enter Tryz.func171, Tryz.ntmps171
    go_wp2_with fail
    go_ret
    exact ⟨by rw [HS.out]; simp [q0, q1, q2], ((Below.refl _ _).alloc (Nat.le_refl _) _).alloc (by simp) _⟩
  show Calls _ _ #[.agg #[.int .i64 fr0, .int .i64 boot0, .int .i64 seq0, .int .i64 ord0, .int .i64 lev0, .int .i64 stamp0, .string data0], .agg #[.int .i64 fr1, .int .i64 boot1, .int .i64 seq1, .int .i64 ord1, .int .i64 lev1, .int .i64 stamp1, .string data1]] _ _
  go_enter Tryz.func171, Tryz.ntmps171
  go_wp2_with fail
  go_ret
  exact ⟨by rw [HS.out]; simp [q0, q1, q2], ((Below.refl _ _).alloc (Nat.le_refl _) _).alloc (by simp) _⟩

end Go.Proofs.YtacipjdaiglnjaaGreatDoor

