/- Proofs that one is up to date, as plain data: the last question, how far none is answered any more, when the last 64 were asked, the one that counts; the document's list beside it. No program is named here. -/
namespace Go.Proofs.Ytfppngeldlpjiaa.PProof

structure Ok (last cl : Int) (A : List Int) (ck : Int) : Prop where
  len : A.length = 64
  c0 : 0 ≤ cl
  cl : cl ≤ last
  l1 : last ≤ 2199023255552
  a : ∀ i, i < 64 → 0 ≤ A.getD i 0 ∧ A.getD i 0 ≤ 2199023255552
  k : 0 ≤ ck ∧ ck ≤ 2199023255552
def pl (n : Int) : Nat := n.toNat % 64
theorem pl_lt (n : Int) : pl n < 64 := Nat.mod_lt _ (by omega)
def opn (last cl n : Int) : Bool := decide (cl < n ∧ n ≤ last ∧ last - n < 64)
def askA (A : List Int) (last x : Int) : List Int := A.set (pl (last + 1)) x
def tm (A : List Int) (n : Int) : Int := A.getD (pl n) 0
def left (p : Bool) (ck cm t c : Int) : Int := if p = true ∧ ck ≤ t ∧ cm ≤ c ∧ t - ck < 12 then 12 - (t - ck) else 0

theorem getD_set (A : List Int) (i j : Nat) (x : Int) (h : i < A.length) : (A.set i x).getD j 0 = if i = j then x else A.getD j 0 := by
  rw [List.getD_eq_getElem?_getD, List.getD_eq_getElem?_getD, List.getElem?_set]
  split
  · next e => rfl
  · rfl
theorem ask_at {A : List Int} (hl : A.length = 64) (last x n : Int) : tm (askA A last x) n = if pl (last + 1) = pl n then x else tm A n := by
  unfold tm askA
  rw [getD_set _ _ _ _ (by rw [hl]; exact pl_lt _)]
theorem Ok.new {b : Int} (h0 : 0 ≤ b) (h1 : b ≤ 2199023255552) : Ok b b (List.replicate 64 0) 0 :=
  ⟨by rfl, h0, Int.le_refl _, h1, fun i hi => by
    have : (List.replicate 64 (0 : Int)).getD i 0 = 0 := by
      rw [List.getD_eq_getElem?_getD, List.getElem?_replicate]; split <;> rfl
    rw [this]; omega, by omega⟩
theorem Ok.ask {last cl ck : Int} {A : List Int} (h : Ok last cl A ck) {x : Int} (hx : 0 ≤ x ∧ x ≤ 2199023255552) (hl : last < 2199023255552) : Ok (last + 1) cl (askA A last x) ck :=
  ⟨by unfold askA; rw [List.length_set]; exact h.len, h.c0, by have := h.cl; omega, by omega, fun i hi => by
    unfold askA
    rw [getD_set _ _ _ _ (by rw [h.len]; exact pl_lt _)]
    split
    · exact hx
    · exact h.a i hi, h.k⟩
theorem Ok.get {last cl ck : Int} {A : List Int} (h : Ok last cl A ck) {n : Int} (ho : opn last cl n = true) : Ok last n A (tm A n) := by
  have ho := of_decide_eq_true ho
  exact ⟨h.len, by have := h.c0; omega, by omega, h.l1, h.a, h.a _ (pl_lt _)⟩
theorem Ok.drop {last cl ck : Int} {A : List Int} (h : Ok last cl A ck) : Ok last last A ck := ⟨h.len, by have := h.c0; have := h.cl; omega, Int.le_refl _, h.l1, h.a, h.k⟩
theorem tm_in {last cl ck : Int} {A : List Int} (h : Ok last cl A ck) (n : Int) : 0 ≤ tm A n ∧ tm A n ≤ 2199023255552 := h.a _ (pl_lt _)

theorem left_no {p : Bool} {ck cm t c : Int} (h : ¬ (p = true ∧ ck ≤ t ∧ cm ≤ c ∧ t - ck < 12)) : left p ck cm t c = 0 := if_neg h
theorem left_yes {p : Bool} {ck cm t c : Int} (h : p = true ∧ ck ≤ t ∧ cm ≤ c ∧ t - ck < 12) : left p ck cm t c = 12 - (t - ck) := if_pos h

/-- The document's list: the last m questions. -/
def Lk (last : Int) (m : Nat) (A : List Int) : List (Int × Int) := (List.range m).map fun i => (last - m + 1 + (i : Nat), tm A (last - m + 1 + (i : Nat)))
theorem Lk_len (last : Int) (m : Nat) (A : List Int) : (Lk last m A).length = m := by unfold Lk; simp
theorem Lk_at (last : Int) {m : Nat} (A : List Int) {i : Nat} (h : i < m) : (Lk last m A)[i]? = some (last - m + 1 + (i : Nat), tm A (last - m + 1 + (i : Nat))) := by
  unfold Lk
  rw [List.getElem?_map, List.getElem?_range h]; rfl
theorem pl_ne {a b : Int} (h0 : 0 ≤ a) (h1 : a < b) (h2 : b - a < 64) : pl b ≠ pl a := by
  unfold pl; omega
/-- One more is asked. -/
theorem Lk_ask {last x : Int} {m : Nat} {A : List Int} (hl : A.length = 64) (hm : (m : Int) ≤ last) (hm6 : m < 64) : Lk last m A ++ [(last + 1, x)] = Lk (last + 1) (m + 1) (askA A last x) := by
  refine List.ext_getElem? fun i => ?_
  rcases Nat.lt_trichotomy i m with h | h | h
  · rw [List.getElem?_append_left (by rw [Lk_len]; exact h), Lk_at _ _ h, Lk_at _ _ (by omega)]
    have e : last + 1 - ((m + 1 : Nat) : Int) + 1 + (i : Int) = last - (m : Int) + 1 + (i : Int) := by omega
    rw [e, ask_at hl, if_neg (pl_ne (by omega) (by omega) (by omega))]
  · subst h
    rw [List.getElem?_append_right (by rw [Lk_len]; exact Nat.le_refl _), Lk_at _ _ (by omega), Lk_len]
    have e : last + 1 - ((i + 1 : Nat) : Int) + 1 + (i : Int) = last + 1 := by omega
    rw [e, ask_at hl, if_pos rfl]; simp
  · rw [List.getElem?_eq_none (by rw [List.length_append, Lk_len]; simp; omega), List.getElem?_eq_none (by rw [Lk_len]; omega)]
theorem Lk_full {last x : Int} {A : List Int} (hl : A.length = 64) (hm : 64 ≤ last) : (Lk last 64 A ++ [(last + 1, x)]).drop 1 = Lk (last + 1) 64 (askA A last x) := by
  refine List.ext_getElem? fun i => ?_
  rw [List.getElem?_drop]
  rcases Nat.lt_trichotomy i 63 with h | h | h
  · rw [List.getElem?_append_left (by rw [Lk_len]; omega), Lk_at _ _ (by omega), Lk_at _ _ (by omega)]
    have e : last + 1 - ((64 : Nat) : Int) + 1 + (i : Int) = last - ((64 : Nat) : Int) + 1 + ((1 + i : Nat) : Int) := by omega
    rw [e, ask_at hl, if_neg (pl_ne (by omega) (by omega) (by omega))]
  · subst h
    rw [List.getElem?_append_right (by rw [Lk_len]; omega), Lk_at _ _ (by omega), Lk_len]
    have e : last + 1 - ((64 : Nat) : Int) + 1 + ((63 : Nat) : Int) = last + 1 := by omega
    rw [e, ask_at hl, if_pos rfl]; simp
  · rw [List.getElem?_eq_none (by rw [List.length_append, Lk_len]; simp; omega), List.getElem?_eq_none (by rw [Lk_len]; omega)]

/-- How long its list is behind one question more. -/
def nx (m : Nat) : Nat := if m = 64 then 64 else m + 1
/-- The document's state (its list m long; num, rk, rc what counts) beside the program's. -/
structure Rel (last cl : Int) (p : Bool) (ck cm : Int) (m : Nat) (num rk rc : Int) : Prop where
  h : ∃ D : Int, 0 ≤ D ∧ D ≤ last ∧ (m : Int) = min 64 (last - D) ∧ cl = max D num
  n0 : 0 ≤ num
  n1 : num ≤ last
  no : p = false → num = 0
  yes : p = true → 0 < num ∧ rk = ck ∧ rc = cm
def rop (last : Int) (m : Nat) (num x : Int) : Bool := decide (last - m < x ∧ x ≤ last ∧ num < x)
theorem Rel.op {last cl ck cm num rk rc : Int} {p : Bool} {m : Nat} (h : Rel last cl p ck cm m num rk rc) (x : Int) : rop last m num x = opn last cl x := by
  obtain ⟨D, d1, d2, d3, d4⟩ := h.h
  unfold rop opn
  exact decide_eq_decide.2 (by omega)
theorem Rel.left {last cl ck cm num rk rc : Int} {p : Bool} {m : Nat} (h : Rel last cl p ck cm m num rk rc) (t c : Int) : left (decide (num ≠ 0)) rk rc t c = left p ck cm t c := by
  cases p
  · have := h.no rfl
    subst this
    rw [left_no (by simp), left_no (by simp)]
  · obtain ⟨a, b, c⟩ := h.yes rfl
    subst b c
    rw [show decide (num ≠ 0) = true from decide_eq_true (by omega)]
theorem Rel.new {b : Int} (h : 0 ≤ b) : Rel b b false 0 0 0 0 0 0 := ⟨⟨b, by omega, by omega, by omega, by omega⟩, by omega, by omega, fun _ => rfl, fun h => by cases h⟩
theorem Rel.ask {last cl ck cm num rk rc : Int} {p : Bool} {m : Nat} (h : Rel last cl p ck cm m num rk rc) : Rel (last + 1) cl p ck cm (nx m) num rk rc := by
  unfold nx
  obtain ⟨D, d1, d2, d3, d4⟩ := h.h
  refine ⟨⟨D, d1, by omega, ?_, d4⟩, h.n0, by have := h.n1; omega, h.no, h.yes⟩
  split <;> omega
theorem Rel.get {last cl ck cm num rk rc : Int} {p : Bool} {m : Nat} (h : Rel last cl p ck cm m num rk rc) (A : List Int) (x c : Int) (ho : opn last cl x = true) (h0 : 0 ≤ cl) : Rel last x true (tm A x) c m x (tm A x) c := by
  have ho := of_decide_eq_true ho
  obtain ⟨D, d1, d2, d3, d4⟩ := h.h
  exact ⟨⟨D, d1, d2, d3, by omega⟩, by omega, by omega, (fun h => by cases h), fun _ => ⟨by omega, rfl, rfl⟩⟩
theorem Rel.drop {last cl ck cm num rk rc : Int} {p : Bool} {m : Nat} (h : Rel last cl p ck cm m num rk rc) (rk' rc' : Int) : Rel last last false ck cm 0 0 rk' rc' := by
  have := h.n0; have := h.n1
  exact ⟨⟨last, by omega, by omega, by omega, by omega⟩, by omega, by omega, fun _ => rfl, fun h => by cases h⟩
theorem Rel.m6 {last cl ck cm num rk rc : Int} {p : Bool} {m : Nat} (h : Rel last cl p ck cm m num rk rc) : m ≤ 64 ∧ (m : Int) ≤ last := by
  obtain ⟨D, d1, d2, d3, d4⟩ := h.h
  omega
end Go.Proofs.Ytfppngeldlpjiaa.PProof
