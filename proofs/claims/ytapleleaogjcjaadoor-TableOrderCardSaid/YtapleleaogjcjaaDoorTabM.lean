/- The program's table: a map of names; what it holds, as plain data. -/
import Derived.Test.YtapleleaogjcjaaDoorPlainTab
import Derived.Test.YtapleleaogjcjaaDoorRows
import Derived.Test.YtapleleaogjcjaaDoorOw
import Derived.Test.YtapleleaogjcjaaDoorTouch
import Derived.Maps.OwnSet
import Derived.Maps.Range
import Derived.Sort.KeysCollected
import Derived.StringKeys
import Derived.WalkSpells
namespace Go.Proofs.YtapleleaogjcjaaDoor
open Go.RowKit PTab
open Go.Maps (Keyed)

/-- How a word in the map reads. -/
def wordElem : Value → Option (DataW Unit × List MemPlace)
  | .agg cs => match cs.toList with
    | [.string s] => some (.agg [.lit (.string s.data.toList)], [])
    | _ => none
  | _ => none
theorem wordElem_mk (s : ByteArray) : wordElem (.agg #[.string s]) = some (.agg [.lit (.string s.data.toList)], []) := rfl
theorem wordElem_inv {v : Value} {s : ByteArray} {ps : List MemPlace} (h : wordElem v = some (.agg [.lit (.string s.data.toList)], ps)) : v = .agg #[.string s] := by
  unfold wordElem at h
  split at h
  · next cs =>
    split at h
    · next t he =>
      simp at h
      obtain rfl : t = s := data_inj (by simpa using h.1)
      rw [show cs = cs.toList.toArray by simp, he]
    · cases h
  · cases h
theorem lawK : Keyed Tryd.prog 9 := Maps.string_keyed Tryd.underlying9
theorem zeroW (w : World) : (zeroValue 54).run Tryd.prog w = .ok (.agg #[.string ⟨#[]⟩]) w := by kernel_rfl
/-- A name as a key. -/
def nk (k : ByteArray) : Lit := .string k.data.toList
theorem nk_inj {a b : ByteArray} (h : nk a = nk b) : a = b := data_inj (by simpa [nk] using h)
theorem keyOf_n {k : ByteArray} (h : k.size ≤ maxLen) : keyOf Tryd.prog 9 (.string k) = some (nk k) := WideMaps.keyOf_string_mk Tryd.underlying9 h
theorem key_n (k : ByteArray) (h : k.size ≤ maxLen) : WideAt.IsKeyLit (nk k) := lawK.key (keyOf_n h)

/-- The map in block b holds L; it was written c times at most. -/
def Mt (w : World) (b c : Nat) (L : List Pr) : Prop :=
  ∃ D, w.ownsMap Tryd.prog 9 wordElem b c D ∧ ∀ k : ByteArray, Maps.has D (nk k) = (get L k).isSome ∧ ∀ v, get L k = some v → ∀ z, D.atKey (nk k) z = .agg [.lit (.string v.data.toList)]
def Mq (w : World) (M : Value) (c : Nat) (L : List Pr) : Prop := (M = .map none ∧ L = []) ∨ ∃ b, M = .map (some b) ∧ Mt w b c L
def ml : Value → List Nat
  | .map (some b) => [b]
  | _ => []

section
variable {w w' : World} {b c g : Nat} {M : Value} {L : List Pr} {F S : List Nat}
theorem Mt.lt (h : Mt w b c L) : b < w.heap.size := by obtain ⟨D, h, _⟩ := h; exact h.lt
theorem Mt.touch (h : Mt w b c L) (ht : Touch S w w') (hs : b ∉ S) : Mt w' b c L := by
  obtain ⟨D, h1, h2⟩ := h
  refine ⟨D, ?_, h2⟩
  have hlt := h1.lt
  obtain ⟨es, clock, hb, r⟩ := h1
  exact ⟨es, clock, (ht.block b hlt hs).trans hb, r⟩
theorem Mt.made (w : World) : Mt (w.alloc (.map #[] 0)) w.heap.size 0 [] := ⟨_, World.ownsMap_made _ _ _ _, fun _ => ⟨rfl, fun v h => by cases h⟩⟩
/-- A block of cells is no map. -/
theorem Mt.ne {e : TypeId} {xs : List Value} (h : Mt w b c L) (h' : Blk w g e xs) : b ≠ g := by
  rintro rfl
  obtain ⟨D, ⟨es, clock, hb, _⟩, _⟩ := h
  rw [h'] at hb
  cases hb
theorem Mt.mono {c' : Nat} (h : Mt w b c L) (hc : c ≤ c') : Mt w b c' L := by obtain ⟨D, h1, h2⟩ := h; exact ⟨D, h1.mono hc, h2⟩
theorem Mq.touch (h : Mq w M c L) (ht : Touch S w w') (hs : ∀ k ∈ S, k ∉ ml M) : Mq w' M c L := by
  rcases h with h | ⟨b, rfl, h⟩
  · exact .inl h
  · exact .inr ⟨b, rfl, h.touch ht (fun hm => hs b hm (List.mem_singleton.2 rfl))⟩
theorem Mq.hi (h : Mq w M c L) : ∀ k ∈ ml M, k < w.heap.size := by
  rcases h with ⟨rfl, _⟩ | ⟨b, rfl, h⟩
  · intro k hk; cases hk
  · intro k hk
    rw [List.mem_singleton.1 hk]
    exact h.lt
theorem Mq.mono {c' : Nat} (h : Mq w M c L) (hc : c ≤ c') : Mq w M c' L := by
  rcases h with h | ⟨b, rfl, h⟩
  · exact .inl h
  · exact .inr ⟨b, rfl, h.mono hc⟩
theorem Mq.ne {e : TypeId} {xs : List Value} (h : Mq w M c L) (h' : Blk w g e xs) : g ∉ ml M := by
  rcases h with ⟨rfl, _⟩ | ⟨b, rfl, h⟩
  · intro hk; cases hk
  · intro hk
    exact h.ne h' (List.mem_singleton.1 hk).symm
/-- 'm[k]' with 'ok'. -/
theorem Mq.look (h : Mq w M c L) {k : ByteArray} (hk : k.size ≤ maxLen) : (Instr.lookup 48 M (.string k) true).run Tryd.prog w = .ok (.tuple #[.agg #[.string ((get L k).getD ⟨#[]⟩)], .bool (get L k).isSome]) w := by
  rcases h with ⟨rfl, rfl⟩ | ⟨b, rfl, D, h1, h2⟩
  · rw [Maps.look_nil true lawK Tryd.underlying48 (zeroW w) (keyOf_n hk)]
    rfl
  · obtain ⟨v, ps, hr, hv⟩ := h1.look_ok lawK Tryd.underlying48 (zeroW w) (wordElem_mk ⟨#[]⟩) (keyOf_n hk)
    obtain ⟨h3, h4⟩ := h2 k
    rw [hr, h3]
    cases hg : get L k with
    | none =>
      rw [hg] at h3
      rw [Maps.atKey_of_not_has h3] at hv
      rw [wordElem_inv hv]
      rfl
    | some u =>
      rw [h4 u hg] at hv
      rw [wordElem_inv hv]
      rfl
/-- 'm[k]'. -/
theorem Mq.look1 (h : Mq w M c L) {k : ByteArray} (hk : k.size ≤ maxLen) : (Instr.lookup 48 M (.string k) false).run Tryd.prog w = .ok (.agg #[.string ((get L k).getD ⟨#[]⟩)]) w := by
  rcases h with ⟨rfl, rfl⟩ | ⟨b, rfl, D, h1, h2⟩
  · rw [Maps.look_nil false lawK Tryd.underlying48 (zeroW w) (keyOf_n hk)]
    rfl
  · obtain ⟨v, ps, hr, hv⟩ := h1.lookup lawK Tryd.underlying48 (zeroW w) (wordElem_mk ⟨#[]⟩) (keyOf_n hk)
    obtain ⟨h3, h4⟩ := h2 k
    rw [hr]
    cases hg : get L k with
    | none =>
      rw [hg] at h3
      rw [Maps.atKey_of_not_has h3] at hv
      rw [wordElem_inv hv]
      rfl
    | some u =>
      rw [h4 u hg] at hv
      rw [wordElem_inv hv]
      rfl
/-- 'm[k] = word{v}'. -/
theorem Mt.put (h : Mt w b c L) (hs : Srt L) (a v : ByteArray) (ha : a.size ≤ maxLen) (hc : c < maxLen) : ∃ w', (Instr.mapUpdate 48 (.map (some b)) (.string a) (.agg #[.string v])).run Tryd.prog w = .ok () w' ∧ Mt w' b (c + 1) (ins a v L false) ∧ w.grownBy w' (some b) := by
  obtain ⟨D, h1, h2⟩ := h
  have hk := keyOf_n ha
  obtain ⟨w', hr, ho, hg⟩ := h1.update lawK Tryd.underlying48 hc hk (wordElem_mk v)
  refine ⟨w', hr, ⟨_, ho, fun k => ?_⟩, hg⟩
  rw [get_ins a v k hs]
  by_cases he : eqb a k = true
  · obtain rfl := eqb_iff.1 he
    simp only [he, if_true, Bool.false_eq_true, if_false]
    exact ⟨Maps.has_put_same h1.isMap (key_n a ha) _, fun u hu z => by cases hu; exact Maps.atKey_put_same h1.isMap (key_n a ha) _ z⟩
  · have hne : nk k ≠ nk a := fun hq => he (eqb_iff.2 (nk_inj hq).symm)
    simp only [he, Bool.false_eq_true, if_false]
    exact ⟨by rw [Maps.has_put_other hne]; exact (h2 k).1, fun u hu z => by rw [Maps.atKey_put_other hne]; exact (h2 k).2 u hu z⟩
/-- 'delete(m, k)'. -/
theorem Mt.drop (h : Mt w b c L) (hs : Srt L) (a v : ByteArray) (ha : a.size ≤ maxLen) (ty : TypeId) : ∃ w', (Builtin.delete_ #[48, 9] ty #[.map (some b), .string a]).run Tryd.prog w = .ok (.tuple #[]) w' ∧ Mt w' b c (ins a v L true) ∧ w.grownBy w' (some b) := by
  obtain ⟨D, h1, h2⟩ := h
  have hk := keyOf_n ha
  obtain ⟨w', hr, ho, hg⟩ := h1.drop lawK Tryd.underlying48 hk ty
  refine ⟨w', hr, ⟨_, ho, fun k => ?_⟩, hg.grown⟩
  · rw [get_ins a v k hs]
    by_cases he : eqb a k = true
    · obtain rfl := eqb_iff.1 he
      simp only [he, if_true]
      exact ⟨by rw [Maps.has_del_same]; rfl, fun u hu => by cases hu⟩
    · have hne : nk k ≠ nk a := fun hq => he (eqb_iff.2 (nk_inj hq).symm)
      simp only [he, Bool.false_eq_true, if_false]
      exact ⟨by rw [Maps.has_del_other hne]; exact (h2 k).1, fun u hu z => by rw [Maps.atKey_del_other hne]; exact (h2 k).2 u hu z⟩

/-- The names, as the library sorts them. -/
theorem Mt.names (hs : Srt L) {ss : List (List UInt8)} {D : DataW Unit} (hD : w.ownsMap Tryd.prog 9 wordElem b c D) (hh : ∀ k : ByteArray, Maps.has D (nk k) = (get L k).isSome) (hp : ss.Perm (strKeys D)) :
    ss.mergeSort leB = L.map (fun p => p.1.data.toList) ∧ ss.length = L.length := by
  have e2 : (L.map (fun p => p.1.data.toList)).Perm (strKeys D) := by
    obtain ⟨es, hDe, hpw, _⟩ := hD.entries lawK
    obtain ⟨es', hDe', hko⟩ := hD.keysOf
    obtain rfl : es = es' := by rw [hDe] at hDe'; simpa using hDe'
    subst hDe
    refine perm_strKeys hpw (fun p hp => by obtain ⟨v, hv⟩ := hko p hp; obtain ⟨x, _, hx, _⟩ := Maps.keyOf_str Tryd.underlying9 hv; exact ⟨x, hx⟩) ?_ (fun x => ?_)
    · refine List.pairwise_map.2 (hs.imp fun {p q} hl he => ?_)
      rw [data_inj he, lt_irrefl] at hl; cases hl
    · have := hh ⟨x.toArray⟩
      simp only [nk] at this
      rw [this, isSome_iff hs, List.mem_map, List.mem_map]
      constructor
      · rintro ⟨p, hp, rfl⟩
        exact ⟨p, hp, data_inj (by simp)⟩
      · rintro ⟨p, hp, he⟩
        exact ⟨p, hp, by rw [he]⟩
  have e3 := hp.trans e2.symm
  refine ⟨?_, by simpa using e3.length_eq⟩
  rw [mergeSort_of_perm e3]
  refine List.mergeSort_of_pairwise (List.pairwise_map.2 (hs.imp fun {p q} hl => ?_))
  have := lt_iff.1 hl
  simp only [leB, decide_eq_true_eq]
  exact List.le_of_lt this
end
end Go.Proofs.YtapleleaogjcjaaDoor
