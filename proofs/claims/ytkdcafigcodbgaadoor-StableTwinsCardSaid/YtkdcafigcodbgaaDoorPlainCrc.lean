/- Plain mathematics of CRC-32: a bit at a time, half a byte at a time; it goes by exclusive or; what it tells of changed bytes. No program is named here. -/
namespace Go.Proofs.YtkdcafigcodbgaaDoor.PCrc

theorem xor_mod2 (a b : Nat) : (a ^^^ b) % 2 = (a + b) % 2 := by
  have h := @Nat.xor_mod_two_eq_one a b
  omega
theorem xor_zero_eq {a b : Nat} (h : a ^^^ b = 0) : a = b := by
  have h1 : (a ^^^ b) ^^^ b = 0 ^^^ b := by rw [h]
  rwa [Nat.xor_assoc, Nat.xor_self, Nat.xor_zero, Nat.zero_xor] at h1

theorem xor_low (k : Nat) : ∀ q r : Nat, r < 2 ^ k → (2 ^ k * q) ^^^ r = 2 ^ k * q + r := by
  induction k with
  | zero => intro q r h; have : r = 0 := by simpa using h
            subst this; simp
  | succ k ih =>
    intro q r h
    have h2 : r / 2 < 2 ^ k := by rw [Nat.pow_succ] at h; omega
    have e1 : ((2 ^ (k + 1) * q) ^^^ r) / 2 = (2 ^ (k + 1) * q + r) / 2 := by
      rw [Nat.xor_div_two, show 2 ^ (k + 1) * q / 2 = 2 ^ k * q from by rw [Nat.pow_succ, Nat.mul_right_comm]; omega, ih q _ h2, Nat.pow_succ, Nat.mul_right_comm]; omega
    have e2 : ((2 ^ (k + 1) * q) ^^^ r) % 2 = (2 ^ (k + 1) * q + r) % 2 := xor_mod2 _ _
    omega

/-- A bit. -/
def st (c : Nat) : Nat := if c % 2 = 1 then c / 2 ^^^ 3988292384 else c / 2
theorem st_xor (a b : Nat) : st (a ^^^ b) = st a ^^^ st b := by
  have hm : (a ^^^ b) % 2 = (a + b) % 2 := xor_mod2 _ _
  have hd : (a ^^^ b) / 2 = a / 2 ^^^ b / 2 := Nat.xor_div_two
  unfold st
  rw [hd]
  rcases Nat.mod_two_eq_zero_or_one a with ha | ha <;> rcases Nat.mod_two_eq_zero_or_one b with hb | hb
  · rw [if_neg (by omega), if_neg (by omega), if_neg (by omega)]
  · rw [if_pos (by omega), if_neg (by omega), if_pos (by omega), Nat.xor_assoc]
  · rw [if_pos (by omega), if_pos (by omega), if_neg (by omega)]; ac_rfl
  · rw [if_neg (by omega), if_pos (by omega), if_pos (by omega)]
    have e : (a / 2 ^^^ 3988292384) ^^^ (b / 2 ^^^ 3988292384) = (a / 2 ^^^ b / 2) ^^^ (3988292384 ^^^ 3988292384) := by ac_rfl
    rw [e, Nat.xor_self, Nat.xor_zero]
theorem st_two (y : Nat) : st (2 * y) = y := by unfold st; rw [if_neg (by omega)]; omega
theorem st_lt {c : Nat} (h : c < 4294967296) : st c < 4294967296 := by
  unfold st; split
  · exact Nat.xor_lt_two_pow (n := 32) (by omega) (by omega)
  · omega
theorem st_zero {c : Nat} (h : c < 4294967296) (h0 : st c = 0) : c = 0 := by
  unfold st at h0; split at h0
  · have := xor_zero_eq h0; omega
  · omega

/-- So many bits. -/
def sts : Nat → Nat → Nat
  | 0, c => c
  | k + 1, c => sts k (st c)
theorem sts_xor (k : Nat) : ∀ a b, sts k (a ^^^ b) = sts k a ^^^ sts k b := by
  induction k with
  | zero => intro a b; rfl
  | succ k ih => intro a b; rw [sts, sts, sts, st_xor, ih]
theorem sts_lt (k : Nat) : ∀ {c}, c < 4294967296 → sts k c < 4294967296 := by
  induction k with
  | zero => intro c h; exact h
  | succ k ih => intro c h; exact ih (st_lt h)
theorem sts_zero (k : Nat) : ∀ {c}, c < 4294967296 → sts k c = 0 → c = 0 := by
  induction k with
  | zero => intro c _ h; exact h
  | succ k ih => intro c h h0; exact st_zero h (ih (st_lt h) h0)
theorem sts_of_zero (k : Nat) : sts k 0 = 0 := by
  induction k with
  | zero => rfl
  | succ k ih => rw [sts]; exact ih
theorem sts_up (k : Nat) : ∀ y, sts k (2 ^ k * y) = y := by
  induction k with
  | zero => intro y; simp [sts]
  | succ k ih => intro y; rw [sts, Nat.pow_succ, Nat.mul_right_comm, Nat.mul_comm _ 2, st_two, ih]
theorem sts_add (j k : Nat) : ∀ c, sts (j + k) c = sts k (sts j c) := by
  induction j with
  | zero => intro c; simp [sts]
  | succ j ih => intro c; rw [show j + 1 + k = (j + k) + 1 from by omega, sts, ih]; rfl
theorem st_sts (k : Nat) (c : Nat) : sts (k + 1) c = st (sts k c) := by rw [sts_add]; rfl

/-- Half a byte at a time: the table. -/
def tab : List Nat := [0, 498536548, 997073096, 651767980, 1994146192, 1802195444, 1303535960, 1342533948, 3988292384, 4027552580, 3604390888, 3412177804, 2607071920, 2262029012, 2685067896, 3183342108]
theorem tab_sts : ∀ r, r < 16 → sts 4 r = tab.getD r 0 := by decide
theorem tab_lt : ∀ r, r < 16 → tab.getD r 0 < 4294967296 := by decide
theorem half (c : Nat) : (c / 16) ^^^ tab.getD (c % 16) 0 = sts 4 c := by
  have h := xor_low 4 (c / 16) (c % 16) (Nat.mod_lt _ (by decide))
  have e : 2 ^ 4 * (c / 16) + c % 16 = c := Nat.div_add_mod c 16
  rw [e] at h
  conv => rhs; rw [← h]
  rw [sts_xor, sts_up, tab_sts _ (Nat.mod_lt _ (by decide))]

/-- The state behind some bytes. -/
def run (s : Nat) (l : List Int) : Nat := l.foldl (fun s x => sts 8 (s ^^^ x.toNat)) s
theorem run_nil (s : Nat) : run s [] = s := rfl
theorem run_cons (s : Nat) (x : Int) (l : List Int) : run s (x :: l) = run (sts 8 (s ^^^ x.toNat)) l := rfl
theorem run_append (s : Nat) (a b : List Int) : run s (a ++ b) = run (run s a) b := by
  unfold run; rw [List.foldl_append]
theorem run_lt {l : List Int} (hb : ∀ x ∈ l, 0 ≤ x ∧ x < 256) : ∀ {s}, s < 4294967296 → run s l < 4294967296 := by
  induction l with
  | nil => intro s h; rw [run_nil]; exact h
  | cons x l ih =>
    intro s h
    have h1 := hb x (by simp)
    rw [run_cons]
    refine ih (fun y hy => hb y (by simp [hy])) ?_
    refine sts_lt 8 ?_
    exact Nat.xor_lt_two_pow (n := 32) h (by omega)

/-- All bytes as one number, the first the lowest. -/
def word : List Int → Nat
  | [] => 0
  | x :: l => x.toNat ^^^ (2 ^ 8 * word l)
theorem run_word (l : List Int) : ∀ s, run s l = sts (8 * l.length) (s ^^^ word l) := by
  induction l with
  | nil => intro s; simp [run_nil, word, sts]
  | cons x l ih =>
    intro s
    rw [run_cons, ih, word, List.length_cons, show 8 * (l.length + 1) = 8 + 8 * l.length from by omega, sts_add 8]
    congr 1
    have e : s ^^^ (x.toNat ^^^ 2 ^ 8 * word l) = (s ^^^ x.toNat) ^^^ 2 ^ 8 * word l := by ac_rfl
    rw [e, sts_xor 8 (s ^^^ x.toNat), sts_up 8]

/-- The sum. -/
def sum (l : List Int) : Nat := 4294967295 ^^^ run 4294967295 l
theorem sum_lt {l : List Int} (hb : ∀ x ∈ l, 0 ≤ x ∧ x < 256) : sum l < 4294967296 :=
  Nat.xor_lt_two_pow (n := 32) (by decide) (run_lt hb (by decide))

/-- Byte by byte. -/
def xors : List Int → List Int → List Int
  | x :: l, y :: m => ((x.toNat ^^^ y.toNat : Nat) : Int) :: xors l m
  | _, _ => []
theorem xors_length : ∀ l m : List Int, l.length = m.length → (xors l m).length = l.length
  | [], [], _ => rfl
  | x :: l, y :: m, h => by simp [xors, xors_length l m (by simpa using h)]
  | [], y :: m, h => by simp at h
  | x :: l, [], h => by simp at h
theorem word_xors : ∀ l m : List Int, l.length = m.length → word (xors l m) = word l ^^^ word m
  | [], [], _ => rfl
  | x :: l, y :: m, h => by
    have e : ∀ u v : Nat, 2 ^ 8 * (u ^^^ v) = (2 ^ 8 * u) ^^^ (2 ^ 8 * v) := fun u v => by
      have := @Nat.shiftLeft_xor_distrib 8 u v
      rwa [Nat.shiftLeft_eq, Nat.shiftLeft_eq, Nat.shiftLeft_eq, Nat.mul_comm, Nat.mul_comm u, Nat.mul_comm v] at this
    simp only [xors, word, word_xors l m (by simpa using h), Int.toNat_natCast, e]
    ac_rfl
  | [], y :: m, h => by simp at h
  | x :: l, [], h => by simp at h

theorem run_xors (l m : List Int) (h : l.length = m.length) (s t : Nat) : run (s ^^^ t) (xors l m) = run s l ^^^ run t m := by
  rw [run_word, run_word, run_word, word_xors l m h, xors_length l m h, ← h, ← sts_xor]
  congr 1; ac_rfl

/-- Of three texts. -/
theorem sum_three (a b c : List Int) (h1 : a.length = b.length) (h2 : a.length = c.length) : sum (xors (xors a b) c) = sum a ^^^ sum b ^^^ sum c := by
  have h3 : (xors a b).length = c.length := by rw [xors_length a b h1]; exact h2
  have e := run_xors (xors a b) c h3 (4294967295 ^^^ 4294967295) 4294967295
  rw [run_xors a b h1] at e
  have e0 : 4294967295 ^^^ 4294967295 ^^^ 4294967295 = 4294967295 := by decide
  rw [e0] at e
  unfold sum
  rw [e]
  generalize run 4294967295 a = x
  generalize run 4294967295 b = y
  generalize run 4294967295 c = z
  have : 4294967295 ^^^ x ^^^ (4294967295 ^^^ y) ^^^ (4294967295 ^^^ z) = (4294967295 ^^^ 4294967295) ^^^ (4294967295 ^^^ (x ^^^ y ^^^ z)) := by ac_rfl
  rw [this, Nat.xor_self, Nat.zero_xor]

theorem word_lt : ∀ l : List Int, (∀ x ∈ l, 0 ≤ x ∧ x < 256) → word l < 2 ^ (8 * l.length)
  | [], _ => by simp [word]
  | x :: l, h => by
    have h1 := word_lt l (fun y hy => h y (by simp [hy]))
    have hx := h x (by simp)
    have e : 2 ^ (8 * (x :: l).length) = 2 ^ 8 * 2 ^ (8 * l.length) := by rw [List.length_cons, ← Nat.pow_add]; congr 1; omega
    have h2 : 2 ^ 8 * word l < 2 ^ (8 * (x :: l).length) := by rw [e]; exact Nat.mul_lt_mul_of_pos_left h1 (by decide)
    have h3 : x.toNat < 2 ^ (8 * (x :: l).length) := by
      rw [e]
      have : 1 ≤ 2 ^ (8 * l.length) := Nat.one_le_two_pow
      omega
    exact Nat.xor_lt_two_pow h3 h2
theorem word_zero : ∀ l : List Int, (∀ x ∈ l, 0 ≤ x ∧ x < 256) → word l = 0 → ∀ x ∈ l, x = 0
  | [], _, _ => by simp
  | x :: l, h, h0 => by
    have hx := h x (by simp)
    have e := xor_low 8 (word l) x.toNat (by omega)
    rw [Nat.xor_comm] at e
    rw [word, e] at h0
    have h1 := word_zero l (fun y hy => h y (by simp [hy])) (by omega)
    intro y hy
    rcases List.mem_cons.1 hy with rfl | hy
    · omega
    · exact h1 y hy

/-- What is laid over: nothing ahead, a few bytes, nothing behind. -/
theorem run_zeros (k : Nat) : ∀ s, run s (List.replicate k 0) = sts (8 * k) s := by
  intro s
  have : ∀ k, word (List.replicate k 0) = 0 := by
    intro k; induction k with
    | zero => rfl
    | succ k ih => simp [List.replicate_succ, word, ih]
  rw [run_word, this, Nat.xor_zero, List.length_replicate]

/-- Up to four bytes that were changed behind one another are told. -/
theorem burst (i j : Nat) (x : List Int) (hx : ∀ y ∈ x, 0 ≤ y ∧ y < 256) (h4 : x.length ≤ 4) (h0 : ∃ y ∈ x, y ≠ 0) : run 0 (List.replicate i 0 ++ (x ++ List.replicate j 0)) ≠ 0 := by
  intro h
  rw [run_append, run_zeros, sts_of_zero, run_append, run_zeros] at h
  have hw : word x < 4294967296 := by
    have h1 := word_lt x hx
    have h2 : 2 ^ (8 * x.length) ≤ 2 ^ 32 := Nat.pow_le_pow_right (by decide) (by omega)
    omega
  have h1 := sts_zero _ (run_lt hx (by decide)) h
  rw [run_word, Nat.zero_xor] at h1
  have h2 := sts_zero _ hw h1
  obtain ⟨y, hy, hy0⟩ := h0
  exact hy0 (word_zero x hx h2 y hy)

theorem sum_other (b e : List Int) (hl : b.length = e.length) (h : run 0 e ≠ 0) : sum (xors b e) ≠ sum b := by
  intro hs
  have e1 := run_xors b e hl 4294967295 0
  rw [Nat.xor_zero] at e1
  unfold sum at hs
  rw [e1, ← Nat.xor_assoc] at hs
  generalize 4294967295 ^^^ run 4294967295 b = z at hs
  have h1 : (z ^^^ run 0 e) ^^^ z = 0 := by rw [hs, Nat.xor_self]
  rw [Nat.xor_comm, ← Nat.xor_assoc, Nat.xor_self, Nat.zero_xor] at h1
  exact h h1

/-- Four bytes, the highest first. -/
def four (u : Nat) : List Int := [((u / 16777216 % 256 : Nat) : Int), ((u / 65536 % 256 : Nat) : Int), ((u / 256 % 256 : Nat) : Int), ((u % 256 : Nat) : Int)]
def sealed (l : List Int) : List Int := l ++ four (sum l)
/-- The sum that four bytes tell. -/
def told : List Int → Nat
  | [a, b, c, d] => ((a.toNat * 256 + b.toNat) * 256 + c.toNat) * 256 + d.toNat
  | _ => 0
theorem told_four {u : Nat} (h : u < 4294967296) : told (four u) = u := by
  simp only [told, four, Int.toNat_natCast]; omega
theorem four_told {l : List Int} (hb : ∀ x ∈ l, 0 ≤ x ∧ x < 256) (h : l.length = 4) : four (told l) = l := by
  match l, h with
  | [a, b, c, d], _ =>
    have h1 := hb a (by simp); have h2 := hb b (by simp); have h3 := hb c (by simp); have h4 := hb d (by simp)
    simp only [told, four, List.cons.injEq, and_true]
    omega

end Go.Proofs.YtkdcafigcodbgaaDoor.PCrc
