/- Plain mathematics of numbers as bytes: what Put writes, what Get reads. No program is named here. -/
namespace Go.Proofs.Ytkpgijmpaklfgaa.PNum

/-- 2 n, or -2 n - 1 of n below 0. -/
def zig (n : Int) : Nat := if n < 0 then (-2 * n - 1).toNat else (2 * n).toNat
def unzig (u : Nat) : Int := if u % 2 = 0 then ((u / 2 : Nat) : Int) else -((u / 2 : Nat) : Int) - 1

theorem unzig_zig (n : Int) : unzig (zig n) = n := by
  unfold unzig zig; split <;> split <;> omega
theorem zig_lt (n : Int) (h : -9223372036854775808 ≤ n) (h' : n ≤ 9223372036854775807) : zig n < 18446744073709551616 := by
  unfold zig; split <;> omega

/-- Seven bits a byte, the lowest first, as few as go. -/
def sev (u : Nat) : List Int := if u < 128 then [(u : Int)] else ((u % 128 + 128 : Nat) : Int) :: sev (u / 128)
termination_by u
decreasing_by omega

theorem sev_lo {u : Nat} (h : u < 128) : sev u = [(u : Int)] := by rw [sev, if_pos h]
theorem sev_hi {u : Nat} (h : 128 ≤ u) : sev u = ((u % 128 + 128 : Nat) : Int) :: sev (u / 128) := by rw [sev, if_neg (by omega)]
theorem sev_pos (u : Nat) : 0 < (sev u).length := by
  rcases Nat.lt_or_ge u 128 with h | h
  · rw [sev_lo h]; simp
  · rw [sev_hi h]; simp
theorem sev_length (k : Nat) : ∀ u, u < 128 ^ (k + 1) → (sev u).length ≤ k + 1 := by
  induction k with
  | zero => intro u h; rw [sev_lo (by omega)]; simp
  | succ k ih =>
    intro u h
    rcases Nat.lt_or_ge u 128 with h' | h'
    · rw [sev_lo h']; simp
    · rw [sev_hi h']
      have : u / 128 < 128 ^ (k + 1) := by
        rw [Nat.div_lt_iff_lt_mul (by omega)]; rw [Nat.pow_succ] at h; exact h
      have := ih _ this
      simp; omega
theorem sev_ten (u : Nat) (h : u < 18446744073709551616) : (sev u).length ≤ 10 := sev_length 9 u (by omega)
theorem sev_byte (u : Nat) : ∀ c ∈ sev u, 0 ≤ c ∧ c < 256 := by
  induction u using Nat.strongRecOn with
  | ind u ih =>
    intro c hc
    rcases Nat.lt_or_ge u 128 with h | h
    · rw [sev_lo h] at hc; simp at hc; omega
    · rw [sev_hi h] at hc
      rcases List.mem_cons.1 hc with rfl | hc
      · omega
      · exact ih _ (by omega) c hc

/-- What stands at the beginning of bytes, the i-th byte on, u gathered so far: the number, the bytes that it takes, 0; or 1, of no number's form; or 2, more is needed. -/
def getB : Nat → Nat → List Int → Int × Int × Int
  | _, _, [] => (0, 0, 2)
  | i, u, c :: r =>
    if i = 9 ∧ 1 < c then (0, 0, 1)
    else if c < 128 then
      if c = 0 ∧ 0 < i then (0, 0, 1) else (unzig (u + c.toNat * 128 ^ i), (i : Int) + 1, 0)
    else getB (i + 1) (u + (c.toNat - 128) * 128 ^ i) r

theorem getB_ok : ∀ (l : List Int) (i u : Nat) (x k : Int), (∀ c ∈ l, 0 ≤ c ∧ c < 256) → i ≤ 9 → u < 128 ^ i → getB i u l = (x, k, 0) →
    -9223372036854775808 ≤ x ∧ x ≤ 9223372036854775807 ∧ (i : Int) < k ∧ k ≤ i + l.length := by
  intro l
  induction l with
  | nil => intro i u x k _ _ _ h; simp [getB] at h
  | cons c r ih =>
    intro i u x k hb hi hu h
    have hc := hb c (List.mem_cons_self ..)
    unfold getB at h
    by_cases h9 : i = 9 ∧ 1 < c
    · rw [if_pos h9] at h; simp at h
    · rw [if_neg h9] at h
      by_cases h1 : c < 128
      · rw [if_pos h1] at h
        by_cases h0 : c = 0 ∧ 0 < i
        · rw [if_pos h0] at h; simp at h
        · rw [if_neg h0] at h
          simp only [Prod.mk.injEq] at h
          obtain ⟨rfl, rfl, _⟩ := h
          have hU : u + c.toNat * 128 ^ i < 18446744073709551616 := by
            by_cases e : i = 9
            · subst e
              have : c.toNat ≤ 1 := by omega
              have := Nat.mul_le_mul_right (128 ^ 9) this
              omega
            · have hm := Nat.mul_le_mul_right (128 ^ i) (show c.toNat ≤ 127 by omega)
              have h8 : (128 : Nat) ^ i ≤ 128 ^ 8 := Nat.pow_le_pow_right (by decide) (by omega)
              omega
          simp only [List.length_cons]
          refine ⟨?_, ?_, by omega, by omega⟩ <;> (unfold unzig; split <;> omega)
      · rw [if_neg h1] at h
        have hi' : i + 1 ≤ 9 := by omega
        have hm := Nat.mul_le_mul_right (128 ^ i) (show c.toNat - 128 ≤ 127 by omega)
        have := ih (i + 1) _ x k (fun d hd => hb d (List.mem_cons_of_mem _ hd)) hi' (by rw [Nat.pow_succ]; omega) h
        simp only [List.length_cons]
        omega

theorem getB_err : ∀ (l : List Int) (i u : Nat), (getB i u l).2.2 = 0 ∨ ((getB i u l).2.2 = 1 ∨ (getB i u l).2.2 = 2) ∧ (getB i u l).1 = 0 ∧ (getB i u l).2.1 = 0 := by
  intro l
  induction l with
  | nil => intro i u; exact .inr ⟨.inr rfl, rfl, rfl⟩
  | cons c r ih =>
    intro i u
    unfold getB
    split
    · exact .inr ⟨.inl rfl, rfl, rfl⟩
    · split
      · split
        · exact .inr ⟨.inl rfl, rfl, rfl⟩
        · exact .inl rfl
      · exact ih _ _

/-- The text at the beginning of bytes: its bytes, how many bytes in all, an error. -/
def getT (l : List Int) : List Int × Int × Int :=
  if (getB 0 0 l).2.2 = 0 then
    if (getB 0 0 l).1 < 0 ∨ 65536 < (getB 0 0 l).1 then ([], 0, 1)
    else if (l.length : Int) < (getB 0 0 l).2.1 + (getB 0 0 l).1 then ([], 0, 2)
    else ((l.drop (getB 0 0 l).2.1.toNat).take (getB 0 0 l).1.toNat, (getB 0 0 l).2.1 + (getB 0 0 l).1, 0)
  else ([], 0, (getB 0 0 l).2.2)

/-- What was written is read, whatever stands behind it. -/
theorem getB_sev : ∀ (f u i a : Nat) (r : List Int), u < 128 ^ f → i + f ≤ 10 → (i + f = 10 → 0 < f → u < 2 * 128 ^ (f - 1)) → (i = 0 ∨ 0 < u) → 0 < f →
    getB i a (sev u ++ r) = (unzig (a + u * 128 ^ i), ((i + (sev u).length : Nat) : Int), 0) := by
  intro f
  induction f with
  | zero => intro u i a r _ _ _ _ h; omega
  | succ f ih =>
    intro u i a r hu hi hT hz _
    rcases Nat.lt_or_ge u 128 with h | h
    · rw [sev_lo h]
      simp only [List.cons_append, List.nil_append, getB]
      have h9 : ¬ (i = 9 ∧ 1 < (u : Int)) := by
        rintro ⟨rfl, h1⟩
        have hf : f = 0 := by omega
        subst hf
        have := hT (by omega) (by omega)
        simp at this; omega
      rw [if_neg h9, if_pos (by omega), if_neg (by omega)]
      simp
    · rw [sev_hi h]
      simp only [List.cons_append, getB]
      have hf : 0 < f := by
        rcases Nat.eq_zero_or_pos f with rfl | hf
        · simp at hu; omega
        · exact hf
      rw [if_neg (by omega), if_neg (by omega)]
      have e : (((u % 128 + 128 : Nat) : Int).toNat - 128) = u % 128 := by omega
      rw [e, ih (u / 128) (i + 1) _ r ?_ (by omega) ?_ (.inr (by omega)) hf]
      · have e2 : a + u % 128 * 128 ^ i + u / 128 * 128 ^ (i + 1) = a + u * 128 ^ i := by
          rw [Nat.pow_succ]
          have : u / 128 * (128 ^ i * 128) = (u / 128 * 128) * 128 ^ i := by rw [Nat.mul_comm (128 ^ i), Nat.mul_assoc]
          rw [this, Nat.add_assoc, ← Nat.add_mul]
          have e3 : u % 128 + u / 128 * 128 = u := by omega
          rw [e3]
        rw [e2]
        simp only [List.length_cons, Prod.mk.injEq, true_and, and_true]
        omega
      · rw [Nat.div_lt_iff_lt_mul (by omega)]; rw [Nat.pow_succ] at hu; exact hu
      · intro h1 h2
        have h3 := hT (by omega) (by omega)
        obtain ⟨g, rfl⟩ : ∃ g, f = g + 1 := ⟨f - 1, by omega⟩
        simp only [Nat.add_sub_cancel] at h3 ⊢
        rw [Nat.div_lt_iff_lt_mul (by omega)]
        rw [Nat.pow_succ] at h3
        have : 2 * 128 ^ g * 128 = 2 * (128 ^ g * 128) := by rw [Nat.mul_assoc]
        omega

theorem getB_put (x : Int) (r : List Int) (h1 : -9223372036854775808 ≤ x) (h2 : x ≤ 9223372036854775807) :
    getB 0 0 (sev (zig x) ++ r) = (x, ((sev (zig x)).length : Int), 0) := by
  have h := getB_sev 10 (zig x) 0 0 r (by have := zig_lt x h1 h2; omega) (by omega) (fun _ _ => by have := zig_lt x h1 h2; omega) (.inl rfl) (by omega)
  rw [h]
  simp [unzig_zig]

end Go.Proofs.Ytkpgijmpaklfgaa.PNum
