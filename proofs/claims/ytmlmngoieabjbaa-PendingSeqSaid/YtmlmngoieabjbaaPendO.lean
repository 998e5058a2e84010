/- Slices of the call's own that are cut from the head: the first ones, the rest (one that holds a single element too). No program is named here. -/
import Derived.Test.YtmlmngoieabjbaaOg
import Derived.Test.YtmlmngoieabjbaaEntN
namespace Go.Proofs.Ytmlmngoieabjbaa
open Go.RowKit

section
variable {w w' : World} {B base k n m c g i : Nat} {e : TypeId} {A : Option Addr} {xs : List Value} {S : List Nat}
/-- The first m of a slice. -/
theorem Rd.few (h : Rd w B A c k n xs) (hm : m ≤ n) : Rd w B A c k m (xs.take (m * k)) := by
  have hl := h.len
  have h2 := Nat.mul_le_mul_right k hm
  refine ⟨by rw [List.length_take, hl, Nat.min_eq_left h2], Nat.le_trans hm h.le, h.cap, h.2.2.2.1, fun h0 => ?_⟩
  obtain ⟨b, o, hA, hb, hc⟩ := h.2.2.2.2 (by omega)
  refine ⟨b, o, hA, hb, fun j u hu => hc j u ?_⟩
  have hj := (List.getElem?_eq_some_iff.1 hu).1
  rw [List.length_take] at hj
  rw [List.getElem?_take_of_lt (by omega)] at hu
  exact hu
theorem Og.rest (h : Og w base e k A n c xs) (hn : 0 < n) : Og w base e k (if c = 1 then A else A.map (·.add k)) (n - 1) (c - 1) (xs.drop k) := by
  have hl := h.1
  rcases h.2 with ⟨_, h0, _⟩ | ⟨g, Y, Z, rfl, hb, hB, hnc, hcm, hfit⟩
  · omega
  · have hkx : k ≤ xs.length := by rw [hl]; have := Nat.mul_le_mul_right k hn; omega
    refine ⟨by rw [List.length_drop, hl, Nat.sub_mul, Nat.one_mul], .inr ?_⟩
    have hmul : (c - 1) * k = c * k - k := by rw [Nat.sub_mul, Nat.one_mul]
    have hck : k ≤ c * k := by have := Nat.mul_le_mul_right k (show 1 ≤ c by omega); omega
    by_cases h1 : c = 1
    · rw [if_pos h1]
      refine ⟨g, Y, xs ++ Z, rfl, hb, ?_, by omega, by omega, ?_⟩
      · have : xs.drop k = [] := List.drop_eq_nil_of_le (by rw [hl]; have : n = 1 := by omega
                                                            rw [this]; omega)
        rw [this]; exact hB
      · subst h1; simp
    · rw [if_neg h1]
      refine ⟨g, Y ++ xs.take k, Z, by simp [List.length_take, Nat.min_eq_left hkx, Addr.add], hb, ?_, by omega, by omega, ?_⟩
      · rw [List.append_assoc, ← List.append_assoc (xs.take k), List.take_append_drop]; exact hB
      · simp only [List.length_append, List.length_drop] at hfit ⊢
        omega
end
/-- 'l[1:]'. -/
theorem wpList_rest {P : Program} {w : World} {ops : Array Oper} {rest : List Oper} {o : Oper} {a : Act} {Q : Exit → Act → World → Prop} (hgd : o.guard = none) (t : TypeId) (x lo : Operand) (ho : o.op = .slice t x (some lo) none none)
    (e : TypeId) (z : Option Value) (k bytes : Nat) (ht : P.underlying t = some (.slice e)) (hi : (P.info? e).map (fun i => (i.zero, i.size, i.bytes)) = some (z, k, bytes))
    {base : Nat} (A : Option Addr) (n c : Nat) (xs : List Value) (hx : a.eval x = .slice A n c) (hr : Og w base e k A n c xs) (hn : 0 < n) (hlo : a.eval lo = .int .i64 1) (n' : Nat) (hn' : n - 1 = n')
    (h : ∀ A' c', Hid (Og w base e k A' n' c' (xs.drop k)) → wpList P ops Q rest (a.put o.dst (.slice A' n' c')) w) : wpList P ops Q (o :: rest) a w := by
  subst hn'
  refine wpList_plain hgd fun K hK => ?_
  have hle := hr.rd.le
  have hrun := run_cut (P := P) (w := w) t e ht hi A n c (some (.int .i64 1)) none .i64 .i64 1 n (.inr rfl) (.inl ⟨rfl, rfl⟩) (by omega) (by omega)
  rw [Nat.one_mul] at hrun
  unfold Oper.wp execOp
  simp only [ho, hx, hlo, Option.map_some, Option.map_none, Sem.run_bind, hrun, Result.andThen_ok, Sem.run_pure]
  exact hK _ _ (h _ _ (Lib.hid (hr.rest hn)))
end Go.Proofs.Ytmlmngoieabjbaa
