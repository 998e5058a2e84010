/- 'Og': a slice of the call's own that may begin behind its block's head ('l = l[1:]'); its append. No program is named here. -/
import Derived.Test.YtnpobagipgephaaOw
import Derived.ArgAppend
namespace Go.Proofs.Ytnpobagipgephaa
open Go.RowKit

/-- A slice of the call's own, wherever in its block it begins ('l = l[1:]' too). -/
def Og (w : World) (base : Nat) (e : TypeId) (k : Nat) (A : Option Addr) (n c : Nat) (xs : List Value) : Prop :=
  xs.length = n * k ∧ ((A = none ∧ n = 0 ∧ c = 0) ∨ ∃ g Y Z, A = some ⟨g, Y.length, none⟩ ∧ base ≤ g ∧ Blk w g e (Y ++ (xs ++ Z)) ∧ n ≤ c ∧ c ≤ maxLen ∧ c * k ≤ (xs ++ Z).length)
section
variable {w w' : World} {base k n c g i : Nat} {e : TypeId} {A : Option Addr} {xs : List Value} {S : List Nat}
theorem Og.nil (w : World) (base : Nat) (e : TypeId) (k : Nat) : Og w base e k none 0 0 [] := ⟨by simp, .inl ⟨rfl, rfl, rfl⟩⟩
theorem Og.of_ow (h : Ow w base e k A n c xs) : Og w base e k A n c xs := by
  refine ⟨h.1, ?_⟩
  rcases h.2 with h2 | ⟨g, Z, h1, h2, h3, h4⟩
  · exact .inl h2
  · exact .inr ⟨g, [], Z, h1, h2, by simpa using h3, h4⟩
theorem Og.rd (h : Og w base e k A n c xs) : Rd w w.heap.size A c k n xs := by
  refine ⟨h.1, ?_⟩
  rcases h.2 with ⟨h0, h1, h2⟩ | ⟨g, Y, Z, hA, hb, hB, hn, hc, hz⟩
  · exact ⟨by omega, by rw [h2]; simp [maxLen], fun _ => h2, fun hp => by rw [h1] at hp; simp at hp⟩
  · refine ⟨hn, hc, (fun h => by rw [hA] at h; cases h), fun _ => ⟨g, Y.length, hA, hB.lt, fun j u hu => ?_⟩⟩
    refine hB.cell ?_
    rw [List.getElem?_append_right (by omega), show Y.length + j - Y.length = j by omega, List.getElem?_append_left (List.getElem?_eq_some_iff.1 hu).1]
    exact hu
theorem Og.touch (h : Og w base e k A n c xs) (ht : Touch S w w') (hs : ∀ g ∈ S, bk A ≠ some g) : Og w' base e k A n c xs := by
  refine ⟨h.1, ?_⟩
  rcases h.2 with h2 | ⟨g, Y, Z, hA, hb, hB, r⟩
  · exact .inl h2
  · exact .inr ⟨g, Y, Z, hA, hb, hB.touch ht (fun hm => hs g hm (by rw [hA]; rfl)), r⟩
theorem Og.past (h : Og w base e k A n c xs) (hb : Below w.heap.size w w') : Og w' base e k A n c xs := h.touch (S := []) (.of_below hb) (by simp)
theorem Og.blk (h : Og w base e k A n c xs) (hg : bk A = some g) : base ≤ g ∧ ∃ ys, Blk w g e ys := by
  rcases h.2 with ⟨h0, _⟩ | ⟨g', Y, Z, hA, hb, hB, _⟩
  · rw [h0] at hg; cases hg
  · rw [hA] at hg
    have e1 : g' = g := by simpa [bk] using hg
    subst e1; exact ⟨hb, _, hB⟩
/-- Blocks of another type are others. -/
theorem Og.ne {e' : TypeId} {ys : List Value} (h : Og w base e k A n c xs) (h' : Blk w g e' ys) (he : e ≠ e') : bk A ≠ some g := fun hg => by
  obtain ⟨_, zs, hB⟩ := h.blk hg
  exact hB.ne h' he rfl
theorem Og.down {base' : Nat} (h : Og w base e k A n c xs) (hb : base' ≤ base) : Og w base' e k A n c xs := by
  refine ⟨h.1, ?_⟩
  rcases h.2 with h2 | ⟨g, Y, Z, hA, hg, r⟩
  · exact .inl h2
  · exact .inr ⟨g, Y, Z, hA, by omega, r⟩
/-- 'l[1:]'. -/
theorem Og.tail (h : Og w base e k A n c xs) (hn : 1 < n) : Og w base e k (A.map (·.add k)) (n - 1) (c - 1) (xs.drop k) := by
  have hl := h.1
  have hk : k ≤ n * k := Nat.le_mul_of_pos_left k (by omega)
  refine ⟨by rw [List.length_drop, hl, Nat.sub_mul, Nat.one_mul], ?_⟩
  rcases h.2 with ⟨h0, h1, h2⟩ | ⟨g, Y, Z, hA, hb, hB, hnc, hc, hz⟩
  · omega
  · refine .inr ⟨g, Y ++ xs.take k, Z, ?_, hb, ?_, by omega, by omega, ?_⟩
    · rw [hA, List.length_append, List.length_take, Nat.min_eq_left (by omega), Option.map_some, add_zero_spot]
    · rw [List.append_assoc, ← List.append_assoc (xs.take k), List.take_append_drop]; exact hB
    · rw [List.length_append] at hz ⊢
      rw [List.length_drop, Nat.sub_mul, Nat.one_mul]
      omega
theorem Blk.cells {Y R Q : List Value} (h : Blk w g e (Y ++ (R ++ Q))) : ∀ us : List Value, us.length = R.length → Blk (w.setCells g Y.length us) g e (Y ++ (us ++ Q)) := by
  intro us
  induction us generalizing w Y R with
  | nil => intro hl; have : R = [] := List.eq_nil_of_length_eq_zero (by simpa using hl.symm); subst this; exact h
  | cons u us ih =>
    intro hl
    rcases R with _ | ⟨r, R⟩
    · simp at hl
    · have h1 := h.set Y.length u
      rw [List.set_append_right _ _ (Nat.le_refl _), Nat.sub_self, List.cons_append, List.set_cons_zero] at h1
      have h2 : Blk (w.setCell ⟨g, Y.length, none⟩ u) g e ((Y ++ [u]) ++ (R ++ Q)) := by simpa using h1
      have h3 := ih h2 (by simpa using hl)
      rw [World.setCells]
      simpa using h3
theorem grown_cells (w : World) (g : Nat) : ∀ (us : List Value) (o : Nat), Touch [g] w (w.setCells g o us) := by
  intro us
  induction us generalizing w with
  | nil => intro o; exact Touch.refl _ _
  | cons u us ih => intro o; rw [World.setCells]; exact ((Touch.refl [g] w).cell (List.mem_singleton.2 rfl) _ _).trans (ih _ _)
end
section
variable {P : Program}
/-- 'append' onto it, whatever the source (at least one element). -/
theorem wpList_appO {w : World} {ops : Array Oper} {rest : List Oper} {o : Oper} {a : Act} {Q : Exit → Act → World → Prop} (hgd : o.guard = none) (s x : Operand) (t : TypeId)
    (ho : o.op = .call { callee := .builtin .append, args := #[s, x], argTypes := #[t, t] })
    (base : Nat) (e : TypeId) (z : Value) (k bytes : Nat) (ht : P.underlying t = some (.slice e)) (hi : (P.info? e).map (fun i => (i.zero, i.size, i.bytes)) = some (some z, k, bytes)) (hzs : z.cells.size = k) (hk0 : 0 < k)
    (A : Option Addr) (n c : Nat) (xs : List Value) (hs : a.eval s = .slice A n c) (hown : Og w base e k A n c xs)
    (B : Nat) (X : Option Addr) (cx m : Nat) (news : List Value) (hx : a.eval x = .slice X m cx) (hr : Rd w B X cx k m news) (hm : 0 < m) (h1 : ∀ u ∈ news, u.oneCell' = true)
    (h63 : n + m ≤ maxLen) (hbytes : (n + m) * bytes ≤ 140737488355328) (hbase : base ≤ w.heap.size)
    (h : ∀ A' c' w', Og w' base e k A' (n + m) c' (xs ++ news) → Touch (bl A) w w' → wpList P ops Q rest (a.put o.dst (.slice A' (n + m) c')) w') : wpList P ops Q (o :: rest) a w := by
  obtain ⟨i, hi0, hz, hk, hby⟩ := info_parts hi
  obtain ⟨bx, ox, rfl, _, hc⟩ := hr.2.2.2.2 (Nat.mul_pos hm hk0)
  have hnews : ∀ j u, news[j]? = Option.some u → w.cell? ((⟨bx, ox, none⟩ : Addr).add j) = Option.some u := fun j u hu => by rw [add_zero_spot]; exact hc j u hu
  have hl := hown.1
  have hnl := hr.1
  rcases hown.2 with ⟨rfl, rfl, rfl⟩ | ⟨g, Y, Z, rfl, hb, hB, hn, hcm, hfit⟩
  · have hx0 : xs = [] := List.eq_nil_of_length_eq_zero (by simpa using hl)
    subst hx0
    refine wpList_append_grows w hgd s x t ho e i z k bytes ht hi0 hz hk hby hzs hk0 none 0 0 [] hs (fun _ => ⟨rfl, rfl⟩) (by simp) (fun _ h => by cases h) ⟨bx, ox, none⟩ m cx news hx hnl hnews h1 (by omega) h63 hbytes ?_
    intro v' w' h2 h3
    obtain ⟨A', c', rfl⟩ := own_slice h2
    exact h A' c' w' ((Og.of_ow (Ow.of_own h2)).down hbase) ⟨h3.os, h3.tape, h3.output, h3.size, fun k hk _ => h3.block k hk (by simp)⟩
  · have hcell : ∀ j u, (xs ++ Z)[j]? = Option.some u → w.cell? ⟨g, Y.length + j, none⟩ = Option.some u := fun j u hj => hB.cell (by
      rw [List.getElem?_append_right (by omega), show Y.length + j - Y.length = j by omega]; exact hj)
    refine wpList_append_arg w hgd s x t ho e i z k bytes ht hi0 hz hk hby hzs hk0 g Y.length n c xs hs hl (fun j u hj => hcell j u (by rw [List.getElem?_append_left (List.getElem?_eq_some_iff.1 hj).1]; exact hj)) ⟨bx, ox, none⟩ m cx news hx hnl hnews h1 ?_ h63 hbytes ?_ ?_
    · intro hroom j hj
      have hfit2 : n * k + news.length ≤ (xs ++ Z).length := by
        rw [hnl, ← Nat.add_mul]; exact Nat.le_trans (Nat.mul_le_mul_right k hroom) hfit
      rw [Nat.add_assoc]
      refine ⟨?_, hB.free _⟩
      rw [hcell (n * k + j) _ (List.getElem?_eq_getElem (show n * k + j < (xs ++ Z).length by omega))]; rfl
    · intro hroom
      have hfit2 : n * k + news.length ≤ (xs ++ Z).length := by
        rw [hnl, ← Nat.add_mul]; exact Nat.le_trans (Nat.mul_le_mul_right k hroom) hfit
      have hz1 : news.length ≤ Z.length := by rw [List.length_append, hl] at hfit2; omega
      have hB1 : Blk w g e ((Y ++ xs) ++ (Z.take news.length ++ Z.drop news.length)) := by rw [List.take_append_drop, List.append_assoc]; exact hB
      have hB2 := hB1.cells news (by rw [List.length_take, Nat.min_eq_left hz1])
      have hlen : (Y ++ xs).length = Y.length + n * k := by rw [List.length_append, hl]
      rw [hlen] at hB2
      refine h _ _ _ ⟨by rw [List.length_append, hl, hnl, Nat.add_mul], .inr ⟨g, Y, Z.drop news.length, rfl, hb, by simpa using hB2, hroom, hcm, ?_⟩⟩ ((grown_cells w g news _).wide (by simp [bl, bk]))
      simp only [List.length_append, List.length_drop] at hfit ⊢
      omega
    · intro hgr v' w' h2 h3
      obtain ⟨A', c', rfl⟩ := own_slice h2
      exact h A' c' w' ((Og.of_ow (Ow.of_own h2)).down hbase) ⟨h3.os, h3.tape, h3.output, h3.size, fun k hk _ => h3.block k hk (by simp)⟩
end
theorem Blk.there {w : World} {g : Nat} {e : TypeId} {xs : List Value} (h : Blk w g e xs) {o n : Nat} (hn : o + n ≤ xs.length) : w.there g o n := fun j hj =>
  ⟨by rw [h.cell (List.getElem?_eq_getElem (show o + j < xs.length by omega))]; rfl, h.free _⟩

end Go.Proofs.Ytnpobagipgephaa
