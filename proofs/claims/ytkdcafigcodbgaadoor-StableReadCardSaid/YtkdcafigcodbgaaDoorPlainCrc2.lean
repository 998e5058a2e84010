/- Plain mathematics of CRC-32, more: bytes that were changed. No program is named here. -/
import Derived.Test.YtkdcafigcodbgaaDoorPlainCrc
namespace Go.Proofs.YtkdcafigcodbgaaDoor.PCrc

theorem mix_set {α : Type} (D Z : List α) (h : D.length = Z.length) (i : Nat) (v : α) (hv : D[i]? = some v) : (D.take i ++ Z.drop i).set i v = D.take (i + 1) ++ Z.drop (i + 1) := by
  have hi : i < D.length := (List.getElem?_eq_some_iff.1 hv).1
  have hl : (D.take i).length = i := by rw [List.length_take]; omega
  rw [List.set_append_right _ _ (by omega), hl, Nat.sub_self, List.drop_eq_getElem_cons (by omega : i < Z.length), List.set_cons_zero]
  have : D.take (i + 1) = D.take i ++ [v] := by
    rw [List.take_succ_eq_append_getElem hi]
    have := List.getElem?_eq_getElem hi
    rw [hv] at this
    rw [Option.some.inj this]
  rw [this, List.append_assoc]; rfl

theorem xors_append : ∀ a b c d : List Int, a.length = c.length → xors (a ++ b) (c ++ d) = xors a c ++ xors b d
  | [], b, [], d, _ => rfl
  | x :: a, b, y :: c, d, h => by simp [xors, xors_append a b c d (by simpa using h)]
  | [], b, y :: c, d, h => by simp at h
  | x :: a, b, [], d, h => by simp at h
theorem xors_zeros : ∀ a : List Int, (∀ x ∈ a, 0 ≤ x ∧ x < 256) → xors a (List.replicate a.length 0) = a
  | [], _ => rfl
  | x :: a, h => by
    have hx := h x (by simp)
    have hr := xors_zeros a (fun y hy => h y (by simp [hy]))
    simp only [List.length_cons, List.replicate_succ, xors, hr]
    simp; omega
theorem xors_get : ∀ (a b : List Int) (i : Nat) (x y : Int), a[i]? = some x → b[i]? = some y → (xors a b)[i]? = some ((x.toNat ^^^ y.toNat : Nat) : Int)
  | u :: a, v :: b, 0, x, y, h1, h2 => by simp at h1 h2; subst h1 h2; simp [xors]
  | u :: a, v :: b, i + 1, x, y, h1, h2 => by simp at h1 h2; simpa [xors] using xors_get a b i x y h1 h2
  | [], _, _, _, _, h, _ => by simp at h
  | _ :: _, [], _, _, _, _, h => by simp at h
theorem xors_byte {a b : List Int} (ha : ∀ x ∈ a, 0 ≤ x ∧ x < 256) (hb : ∀ x ∈ b, 0 ≤ x ∧ x < 256) : ∀ x ∈ xors a b, 0 ≤ x ∧ x < 256 := by
  induction a generalizing b with
  | nil => intro x hx; simp [xors] at hx
  | cons u a ih =>
    cases b with
    | nil => intro x hx; simp [xors] at hx
    | cons v b =>
      intro x hx
      rcases List.mem_cons.1 hx with rfl | hx
      · have h1 := ha u (by simp); have h2 := hb v (by simp)
        have := Nat.xor_lt_two_pow (n := 8) (x := u.toNat) (y := v.toNat) (by omega) (by omega)
        omega
      · exact ih (fun y hy => ha y (by simp [hy])) (fun y hy => hb y (by simp [hy])) x hx
theorem xors_take (a b : List Int) (i : Nat) : (xors a b).take i = xors (a.take i) (b.take i) := by
  induction a generalizing b i with
  | nil => simp [xors]
  | cons u a ih =>
    cases b with
    | nil => cases i <;> simp [xors]
    | cons v b => cases i with
      | zero => simp [xors]
      | succ i => simp [xors, ih]

/-- Some bytes amid others, laid over. -/
def lay (l x : List Int) (i : Nat) : List Int := l.take i ++ (xors ((l.drop i).take x.length) x ++ l.drop (i + x.length))
theorem lay_length (l x : List Int) (i : Nat) (h : i + x.length ≤ l.length) : (lay l x i).length = l.length := by
  unfold lay
  rw [List.length_append, List.length_append, xors_length _ _ (by rw [List.length_take, List.length_drop]; omega), List.length_take, List.length_take, List.length_drop, List.length_drop]; omega
theorem lay_append (l m x : List Int) (i : Nat) (h : i + x.length ≤ l.length) : lay (l ++ m) x i = lay l x i ++ m := by
  unfold lay
  rw [List.take_append_of_le_length (by omega), List.drop_append_of_le_length (by omega), List.take_append_of_le_length (by rw [List.length_drop]; omega), List.drop_append_of_le_length (by omega)]
  simp
theorem lay_xors (l x : List Int) (i : Nat) (h : i + x.length ≤ l.length) (hb : ∀ y ∈ l, 0 ≤ y ∧ y < 256) : lay l x i = xors l (List.replicate i 0 ++ (x ++ List.replicate (l.length - i - x.length) 0)) := by
  have e1 : l = l.take i ++ ((l.drop i).take x.length ++ l.drop (i + x.length)) := by
    have : l.drop (i + x.length) = (l.drop i).drop x.length := by rw [List.drop_drop]
    rw [this, List.take_append_drop, List.take_append_drop]
  have l1 : (l.take i).length = i := by rw [List.length_take]; omega
  have l2 : ((l.drop i).take x.length).length = x.length := by rw [List.length_take, List.length_drop]; omega
  have l3 : (l.drop (i + x.length)).length = l.length - i - x.length := by rw [List.length_drop]; omega
  have b1 : ∀ y ∈ l.take i, 0 ≤ y ∧ y < 256 := fun y hy => hb y (List.mem_of_mem_take hy)
  have b3 : ∀ y ∈ l.drop (i + x.length), 0 ≤ y ∧ y < 256 := fun y hy => hb y (List.mem_of_mem_drop hy)
  conv => rhs; rw [e1]
  rw [xors_append _ _ _ _ (by rw [l1, List.length_replicate]), xors_append _ _ _ _ l2]
  unfold lay
  have z1 := xors_zeros _ b1
  have z3 := xors_zeros _ b3
  rw [l1] at z1
  rw [l3] at z3
  rw [z1]
  congr 2
  rw [show (List.take i l ++ (List.take x.length (List.drop i l) ++ List.drop (i + x.length) l)).length - i - x.length = l.length - i - x.length from by rw [← e1]]
  exact z3.symm
theorem lay_take (l x : List Int) (i : Nat) (h : i + x.length ≤ l.length) : (lay l x i).take i = l.take i := by
  unfold lay
  rw [List.take_append_of_le_length (by rw [List.length_take]; omega), List.take_take, Nat.min_self]
theorem lay_drop (l x : List Int) (i : Nat) (h : i + x.length ≤ l.length) : (lay l x i).drop (i + x.length) = l.drop (i + x.length) := by
  unfold lay
  have l1 : (l.take i).length = i := by rw [List.length_take]; omega
  have l2 : (xors ((l.drop i).take x.length) x).length = x.length := by
    have : ((l.drop i).take x.length).length = x.length := by rw [List.length_take, List.length_drop]; omega
    rw [xors_length _ _ this, this]
  rw [← List.append_assoc, List.drop_append, List.length_append, l1, l2, Nat.sub_self, List.drop_zero, List.drop_of_length_le (by rw [List.length_append, l1, l2]; omega), List.nil_append]
theorem lay_get (l x : List Int) (i j : Nat) (h : i + x.length ≤ l.length) (u v : Int) (hu : l[i + j]? = some u) (hv : x[j]? = some v) : (lay l x i)[i + j]? = some ((u.toNat ^^^ v.toNat : Nat) : Int) := by
  have hj : j < x.length := (List.getElem?_eq_some_iff.1 hv).1
  have l1 : (l.take i).length = i := by rw [List.length_take]; omega
  have l2 : (xors ((l.drop i).take x.length) x).length = x.length := by
    have : ((l.drop i).take x.length).length = x.length := by rw [List.length_take, List.length_drop]; omega
    rw [xors_length _ _ this, this]
  unfold lay
  rw [List.getElem?_append_right (by omega), l1, Nat.add_sub_cancel_left, List.getElem?_append_left (by omega)]
  refine xors_get _ _ j u v ?_ hv
  rw [List.getElem?_take, if_pos hj, List.getElem?_drop, hu]
theorem lay_one (l : List Int) (j : Nat) (u : Int) (x : Nat) (hu : l[j]? = some u) : l.set j ((u.toNat ^^^ x : Nat) : Int) = lay l [(x : Int)] j := by
  have hj : j < l.length := (List.getElem?_eq_some_iff.1 hu).1
  have e : (l.drop j).take 1 = [u] := by
    rw [List.drop_eq_getElem_cons hj, List.take_succ_cons, List.take_zero]
    rw [List.getElem?_eq_getElem hj] at hu; rw [Option.some.inj hu]
  unfold lay
  rw [List.length_singleton, e, List.set_eq_take_append_cons_drop, if_pos hj]
  simp [xors]
theorem lay_byte {l x : List Int} (i : Nat) (hl : ∀ y ∈ l, 0 ≤ y ∧ y < 256) (hx : ∀ y ∈ x, 0 ≤ y ∧ y < 256) : ∀ y ∈ lay l x i, 0 ≤ y ∧ y < 256 := by
  intro y hy
  unfold lay at hy
  rcases List.mem_append.1 hy with hy | hy
  · exact hl y (List.mem_of_mem_take hy)
  rcases List.mem_append.1 hy with hy | hy
  · exact xors_byte (fun z hz => hl z (List.mem_of_mem_drop (List.mem_of_mem_take hz))) hx y hy
  · exact hl y (List.mem_of_mem_drop hy)

/-- The data of sealed bytes, changed in up to four places behind one another: another sum. -/
theorem lay_sum (l x : List Int) (i : Nat) (h : i + x.length ≤ l.length) (hb : ∀ y ∈ l, 0 ≤ y ∧ y < 256) (hx : ∀ y ∈ x, 0 ≤ y ∧ y < 256) (h4 : x.length ≤ 4) (h0 : ∃ y ∈ x, y ≠ 0) : sum (lay l x i) ≠ sum l := by
  rw [lay_xors l x i h hb]
  refine sum_other l _ ?_ (burst i _ x hx h4 h0)
  rw [List.length_append, List.length_append, List.length_replicate, List.length_replicate]; omega

theorem lay_ne (l : List Int) (i : Nat) (x : Int) (hi : i < l.length) (hl : ∀ y ∈ l, 0 ≤ y ∧ y < 256) (hx : 0 ≤ x ∧ x < 256) (h0 : x ≠ 0) : lay l [x] i ≠ l := by
  intro e
  have hg := lay_get l [x] i 0 (by simp; omega) l[i] x (by simp [hi]) rfl
  rw [e, Nat.add_zero, List.getElem?_eq_getElem hi] at hg
  have h1 := hl l[i] (List.getElem_mem hi)
  have h2 : (l[i].toNat ^^^ x.toNat) = l[i].toNat := by have := Option.some.inj hg; omega
  have h3 : l[i].toNat ^^^ (l[i].toNat ^^^ x.toNat) = l[i].toNat ^^^ l[i].toNat := by rw [h2]
  rw [← Nat.xor_assoc, Nat.xor_self, Nat.zero_xor] at h3
  omega

end Go.Proofs.YtkdcafigcodbgaaDoor.PCrc
