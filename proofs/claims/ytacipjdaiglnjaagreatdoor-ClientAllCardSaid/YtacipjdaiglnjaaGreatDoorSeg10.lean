/- The table as plain data: names with what they stand for, rising; a word; what is done; the bytes that are summed. -/
import Derived.Test.YtacipjdaiglnjaaGreatDoorSeg1
import Derived.Maps.OwnSet
import Derived.Sort.KeysCollected
import Derived.Sort.Walk0
import Derived.Test.YtacipjdaiglnjaaGreatDoorRows
import Derived.Test.YtacipjdaiglnjaaGreatDoorSeg2
import Derived.Maps.Range
import Derived.StringKeys
import Derived.WalkSpells
import Derived.Lib.Bytealg
import Derived.Deep.DeepMust
import Derived.BigRegion
import Derived.Test.YtacipjdaiglnjaaGreatDoorSeg3
import Derived.Test.YtacipjdaiglnjaaGreatDoorSeg4
import Derived.Deep.MidRow
namespace Go.Proofs.YtacipjdaiglnjaaGreatDoor.PTab
open Go.RowKit PNum

abbrev Pr := ByteArray × ByteArray
/-- Go's '<' on strings. -/
def lt (a b : ByteArray) : Bool := Op.bytesLess a.toList b.toList
def eqb (a b : ByteArray) : Bool := a.toList == b.toList
theorem eqb_iff {a b : ByteArray} : eqb a b = true ↔ a = b := by
  unfold eqb
  rw [beq_iff_eq]
  exact ⟨PEnt.bytes_ext, fun h => h ▸ rfl⟩
theorem eqb_self (a : ByteArray) : eqb a a = true := eqb_iff.2 rfl
theorem eqb_ne {a b : ByteArray} (h : a ≠ b) : eqb a b = false := by
  cases hq : eqb a b
  · rfl
  · exact absurd (eqb_iff.1 hq) h
theorem lt_iff {a b : ByteArray} : lt a b = true ↔ a.data.toList < b.data.toList := by
  unfold lt
  rw [bytesLess_eq, Lib.toList_data, Lib.toList_data, decide_eq_true_eq]
theorem data_inj {a b : ByteArray} (h : a.data.toList = b.data.toList) : a = b := PEnt.bytes_ext (by rw [Lib.toList_data, Lib.toList_data, h])
theorem lt_irrefl (a : ByteArray) : lt a a = false := by
  cases h : lt a a
  · rfl
  · exact absurd (lt_iff.1 h) (List.lt_irrefl _)
theorem lt_trans {a b c : ByteArray} (h : lt a b = true) (h' : lt b c = true) : lt a c = true := lt_iff.2 (List.lt_trans (lt_iff.1 h) (lt_iff.1 h'))
theorem lt_ne {a b : ByteArray} (h : lt a b = true) : eqb a b = false := eqb_ne (by rintro rfl; rw [lt_irrefl] at h; cases h)
theorem lt_of_not {a b : ByteArray} (h : lt a b = false) (hn : eqb a b = false) : lt b a = true := by
  have h1 : ¬ a.data.toList < b.data.toList := fun q => by rw [lt_iff.2 q] at h; cases h
  have h2 : a ≠ b := fun q => by rw [eqb_iff.2 q] at hn; cases hn
  refine lt_iff.2 ?_
  apply Classical.byContradiction
  intro h3
  exact h2 (data_inj (List.le_antisymm (List.not_lt.1 h3) (List.not_lt.1 h1)))

/-- The names rise. -/
def Srt (L : List Pr) : Prop := L.Pairwise (fun p q => lt p.1 q.1 = true)
/-- What a name stands for. -/
def get : List Pr → ByteArray → Option ByteArray
  | [], _ => none
  | p :: r, k => if eqb p.1 k = true then some p.2 else get r k
/-- A name comes to stand for something, or (d) is taken away. -/
def ins (a b : ByteArray) : List Pr → Bool → List Pr
  | [], d => if d = true then [] else [(a, b)]
  | p :: r, d => (if (!d && !lt p.1 a) = true then [(a, b)] else []) ++ ((if eqb p.1 a = true then [] else [p]) ++ ins a b r (d || !lt p.1 a))
theorem ins_true (a b : ByteArray) (L : List Pr) : ins a b L true = L.filter (fun p => !eqb p.1 a) := by
  induction L with
  | nil => rfl
  | cons p r ih =>
    simp only [ins, Bool.not_true, Bool.false_and, Bool.true_or, ih, List.filter_cons]
    cases eqb p.1 a <;> simp
theorem ins_mem {a b : ByteArray} : ∀ {L : List Pr} {d : Bool} {p : Pr}, p ∈ ins a b L d → (p = (a, b) ∧ d = false) ∨ p ∈ L
  | [], d, p, h => by cases d <;> simp [ins] at h; exact .inl ⟨h, rfl⟩
  | q :: r, d, p, h => by
    simp only [ins, List.mem_append] at h
    rcases h with h | h | h
    · split at h
      · next hc => simp at hc; exact .inl ⟨by simpa using h, hc.1⟩
      · cases h
    · split at h
      · cases h
      · exact .inr (by simp at h; simp [h])
    · rcases ins_mem h with ⟨h1, h2⟩ | h1
      · simp at h2; exact .inl ⟨h1, h2.1⟩
      · exact .inr (List.mem_cons_of_mem _ h1)
theorem srt_filter {L : List Pr} (h : Srt L) (f : Pr → Bool) : Srt (L.filter f) := List.Pairwise.filter f h
theorem srt_cons {p : Pr} {L : List Pr} (h1 : ∀ q ∈ L, lt p.1 q.1 = true) (h : Srt L) : Srt (p :: L) := List.pairwise_cons.2 ⟨h1, h⟩
theorem srt_ins (a b : ByteArray) : ∀ {L : List Pr}, Srt L → ∀ d, Srt (ins a b L d)
  | [], _, d => by cases d <;> simp [ins, Srt]
  | p :: r, h, d => by
    have hp := List.pairwise_cons.1 h
    cases d
    · cases hl : lt p.1 a
      · have e : ins a b (p :: r) false = (a, b) :: ((if eqb p.1 a = true then [] else [p]) ++ r.filter (fun p => !eqb p.1 a)) := by simp [ins, hl, ins_true]
        rw [e]
        cases hq : eqb p.1 a
        · have ha := lt_of_not hl hq
          refine srt_cons (fun q hm => ?_) (srt_cons (fun q hm => hp.1 q (List.mem_filter.1 hm).1) (srt_filter hp.2 _))
          rcases List.mem_cons.1 hm with rfl | hm
          · exact ha
          · exact lt_trans ha (hp.1 q (List.mem_filter.1 hm).1)
        · have hq := eqb_iff.1 hq
          exact srt_cons (fun q hm => hq ▸ hp.1 q (List.mem_filter.1 hm).1) (srt_filter hp.2 _)
      · have e : ins a b (p :: r) false = p :: ins a b r false := by simp [ins, hl, lt_ne hl]
        rw [e]
        refine srt_cons (fun q hm => ?_) (srt_ins a b hp.2 false)
        rcases ins_mem hm with ⟨rfl, -⟩ | hm
        · exact hl
        · exact hp.1 q hm
    · rw [ins_true]; exact srt_filter h _
theorem get_filter (a k : ByteArray) (L : List Pr) : get (L.filter (fun p => !eqb p.1 a)) k = if eqb a k = true then none else get L k := by
  induction L with
  | nil => simp [get]
  | cons p r ih =>
    rw [List.filter_cons]
    by_cases hp : eqb p.1 a = true
    · simp only [hp, Bool.not_true, Bool.false_eq_true, if_false, ih]
      cases hk : eqb a k
      · have : eqb p.1 k = false := by rw [eqb_iff.1 hp]; exact hk
        simp [get, this]
      · rfl
    · have hp' : eqb p.1 a = false := by simpa using hp
      simp only [hp', Bool.not_false, if_true, get, ih]
      cases hk : eqb a k
      · simp
      · have : eqb p.1 k = false := by rw [← eqb_iff.1 hk]; exact hp'
        simp [this]
theorem get_ins (a b k : ByteArray) : ∀ {L : List Pr}, Srt L → ∀ d, get (ins a b L d) k = if eqb a k = true then (if d = true then none else some b) else get L k
  | [], _, d => by cases d <;> simp [ins, get]
  | p :: r, h, d => by
    have hp := List.pairwise_cons.1 h
    cases d
    · cases hl : lt p.1 a
      · have e : ins a b (p :: r) false = (a, b) :: (p :: r).filter (fun p => !eqb p.1 a) := by
          rw [List.filter_cons]
          cases hq : eqb p.1 a <;> simp [ins, hl, hq, ins_true]
        rw [e]
        simp only [get, get_filter]
        cases hk : eqb a k <;> simp
      · have e : ins a b (p :: r) false = p :: ins a b r false := by simp [ins, hl, lt_ne hl]
        rw [e]
        simp only [get, get_ins a b k hp.2 false]
        cases hk : eqb a k
        · simp
        · have : eqb p.1 k = false := by rw [← eqb_iff.1 hk]; exact lt_ne hl
          simp [this]
    · rw [ins_true, get_filter]; simp
theorem get_mem {L : List Pr} {k b : ByteArray} (h : get L k = some b) : (k, b) ∈ L := by
  induction L with
  | nil => cases h
  | cons p r ih =>
    simp only [get] at h
    split at h
    · next hq => cases h; have := eqb_iff.1 hq; subst this; exact List.mem_cons_self ..
    · exact List.mem_cons_of_mem _ (ih h)
theorem get_of_mem {L : List Pr} (hs : Srt L) {p : Pr} (h : p ∈ L) : get L p.1 = some p.2 := by
  induction L with
  | nil => cases h
  | cons q r ih =>
    have hq := List.pairwise_cons.1 hs
    rcases List.mem_cons.1 h with rfl | h
    · simp [get, eqb_self]
    · simp [get, lt_ne (hq.1 p h), ih hq.2 h]
theorem isSome_iff {L : List Pr} (hs : Srt L) {k : ByteArray} : (get L k).isSome = true ↔ k ∈ L.map (·.1) := by
  rw [List.mem_map]
  constructor
  · intro h
    obtain ⟨b, hb⟩ := Option.isSome_iff_exists.1 h
    exact ⟨(k, b), get_mem hb, rfl⟩
  · rintro ⟨p, hp, rfl⟩
    rw [get_of_mem hs hp]; rfl

/-- The place of the first '=', in bytes. -/
def eqAt : List UInt8 → Option Nat
  | [] => none
  | c :: r => if (c == 61) = true then some 0 else (eqAt r).map (· + 1)
/-- A word. -/
def word (s : ByteArray) : Option Pr :=
  match eqAt s.data.toList with
  | some (i + 1) => some (s.extract 0 (i + 1), s.extract (i + 2) s.size)
  | _ => none
def wordV (s : ByteArray) : Value :=
  match word s with
  | some p => .tuple #[.string p.1, .string p.2, .bool true]
  | none => .tuple #[.string ⟨#[]⟩, .string ⟨#[]⟩, .bool false]
/-- Done with an entry: the table, and whether it was. -/
def doo (L : List Pr) (e : Ent) : List Pr :=
  match word e.data with
  | some p => if PEnt.may e = true then ins p.1 p.2 L (decide (p.2.size = 0)) else L
  | none => L
def did (e : Ent) : Bool := (word e.data).isSome && PEnt.may e
/-- A table: rising; each has something to stand for; a name and a word are sixteen bytes at most. -/
structure Ok (L : List Pr) : Prop where
  srt : Srt L
  sz : ∀ p ∈ L, p.1.size + p.2.size ≤ 16
  val : ∀ p ∈ L, p.2.size ≠ 0
theorem Ok.nil : Ok [] := ⟨List.Pairwise.nil, by simp, by simp⟩
/-- Bytes. -/
def encW (s : ByteArray) : List Int := sev (zig s.size) ++ sb s
def encP (p : Pr) : List Int := encW p.1 ++ encW p.2
def enc : List Pr → List Int
  | [] => []
  | p :: r => encP p ++ enc r
theorem enc_append (a b : List Pr) : enc (a ++ b) = enc a ++ enc b := by
  induction a with
  | nil => rfl
  | cons p r ih => simp [enc, ih]
theorem encW_byte (s : ByteArray) : isB (encW s) := isB.append (sev_byte _) (sb_isB _)
theorem encP_byte (p : Pr) : isB (encP p) := (encW_byte _).append (encW_byte _)
theorem enc_byte : ∀ L : List Pr, isB (enc L)
  | [] => by intro x hx; cases hx
  | p :: r => (encP_byte p).append (enc_byte r)
def sum (L : List Pr) : Nat := PCrc.sum (enc L)
theorem encW_len (s : ByteArray) (h : s.size ≤ 1000000) : (encW s).length ≤ 10 + s.size := by
  have := sev_ten (zig s.size) (zig_lt _ (by omega) (by omega))
  simp only [encW, List.length_append, sb_length]
  omega
theorem encP_len {p : Pr} (h : p.1.size + p.2.size ≤ 16) : (encP p).length ≤ 36 := by
  have h1 := encW_len p.1 (by omega)
  have h2 := encW_len p.2 (by omega)
  simp only [encP, List.length_append]
  omega
theorem enc_len : ∀ {L : List Pr}, (∀ p ∈ L, p.1.size + p.2.size ≤ 16) → (enc L).length ≤ 36 * L.length
  | [], _ => by simp [enc]
  | p :: r, h => by
    have h1 := encP_len (h p (List.mem_cons_self ..))
    have h2 := enc_len (L := r) (fun q hq => h q (List.mem_cons_of_mem _ hq))
    simp only [enc, List.length_append, List.length_cons]
    omega
end Go.Proofs.YtacipjdaiglnjaaGreatDoor.PTab

/- The program's table: a map of names; what it holds, as plain data. -/
namespace Go.Proofs.YtacipjdaiglnjaaGreatDoor
open Go.RowKit PTab
open Go.Maps (Keyed)

/-- How a word in the map reads. -/
def wordElem : Value → Option (DataW Unit × List MemPlace)
  | .agg cs => match cs.toList with
    | [.string s] => some (.agg [.lit (.string s.data.toList)], [])
    | _ => none
  | _ => none
theorem wordElem_mk (s : ByteArray) : wordElem (.agg #[.string s]) = some (.agg [.lit (.string s.data.toList)], []) := rfl
theorem wordElem_inv {v : Value} {s : ByteArray} {ps : List MemPlace} (h : wordElem v = some (.agg [.lit (.string s.data.toList)], ps)) : v = .agg #[.string s] := by
  unfold wordElem at h
  split at h
  · next cs =>
    split at h
    · next t he =>
      simp at h
      obtain rfl : t = s := data_inj (by simpa using h.1)
      rw [show cs = cs.toList.toArray by simp, he]
    · cases h
  · cases h
theorem lawK : Keyed Tryz.prog 9 := Maps.string_keyed Tryz.underlying9
theorem zeroW (w : World) : (zeroValue 100).run Tryz.prog w = .ok (.agg #[.string ⟨#[]⟩]) w := by kernel_rfl
/-- A name as a key. -/
def nk (k : ByteArray) : Lit := .string k.data.toList
theorem nk_inj {a b : ByteArray} (h : nk a = nk b) : a = b := data_inj (by simpa [nk] using h)
theorem keyOf_n {k : ByteArray} (h : k.size ≤ maxLen) : keyOf Tryz.prog 9 (.string k) = some (nk k) := WideMaps.keyOf_string_mk Tryz.underlying9 h
theorem key_n (k : ByteArray) (h : k.size ≤ maxLen) : WideAt.IsKeyLit (nk k) := lawK.key (keyOf_n h)

/-- The map in block b holds L; it was written c times at most. -/
def Mt (w : World) (b c : Nat) (L : List Pr) : Prop :=
  ∃ D, w.ownsMap Tryz.prog 9 wordElem b c D ∧ ∀ k : ByteArray, Maps.has D (nk k) = (get L k).isSome ∧ ∀ v, get L k = some v → ∀ z, D.atKey (nk k) z = .agg [.lit (.string v.data.toList)]
def Tq (w : World) (M : Value) (c : Nat) (L : List Pr) : Prop := (M = .map none ∧ L = []) ∨ ∃ b, M = .map (some b) ∧ Mt w b c L
def tml : Value → List Nat
  | .map (some b) => [b]
  | _ => []

section
variable {w w' : World} {b c g : Nat} {M : Value} {L : List Pr} {F S : List Nat}
theorem Mt.lt (h : Mt w b c L) : b < w.heap.size := by obtain ⟨D, h, _⟩ := h; exact h.lt
theorem Mt.touch (h : Mt w b c L) (ht : Touch S w w') (hs : b ∉ S) : Mt w' b c L := by
  obtain ⟨D, h1, h2⟩ := h
  refine ⟨D, ?_, h2⟩
  have hlt := h1.lt
  obtain ⟨es, clock, hb, r⟩ := h1
  exact ⟨es, clock, (ht.block b hlt hs).trans hb, r⟩
theorem Mt.made (w : World) : Mt (w.alloc (.map #[] 0)) w.heap.size 0 [] := ⟨_, World.ownsMap_made _ _ _ _, fun _ => ⟨rfl, fun v h => by cases h⟩⟩
/-- A block of cells is no map. -/
theorem Mt.ne {e : TypeId} {xs : List Value} (h : Mt w b c L) (h' : Blk w g e xs) : b ≠ g := by
  rintro rfl
  obtain ⟨D, ⟨es, clock, hb, _⟩, _⟩ := h
  rw [h'] at hb
  cases hb
theorem Mt.mono {c' : Nat} (h : Mt w b c L) (hc : c ≤ c') : Mt w b c' L := by obtain ⟨D, h1, h2⟩ := h; exact ⟨D, h1.mono hc, h2⟩
theorem Tq.touch (h : Tq w M c L) (ht : Touch S w w') (hs : ∀ k ∈ S, k ∉ tml M) : Tq w' M c L := by
  rcases h with h | ⟨b, rfl, h⟩
  · exact .inl h
  · exact .inr ⟨b, rfl, h.touch ht (fun hm => hs b hm (List.mem_singleton.2 rfl))⟩
theorem Tq.hi (h : Tq w M c L) : ∀ k ∈ tml M, k < w.heap.size := by
  rcases h with ⟨rfl, _⟩ | ⟨b, rfl, h⟩
  · intro k hk; cases hk
  · intro k hk
    rw [List.mem_singleton.1 hk]
    exact h.lt
theorem Tq.mono {c' : Nat} (h : Tq w M c L) (hc : c ≤ c') : Tq w M c' L := by
  rcases h with h | ⟨b, rfl, h⟩
  · exact .inl h
  · exact .inr ⟨b, rfl, h.mono hc⟩
theorem Tq.ne {e : TypeId} {xs : List Value} (h : Tq w M c L) (h' : Blk w g e xs) : g ∉ tml M := by
  rcases h with ⟨rfl, _⟩ | ⟨b, rfl, h⟩
  · intro hk; cases hk
  · intro hk
    exact h.ne h' (List.mem_singleton.1 hk).symm
/-- 'm[k]' with 'ok'. -/
theorem Tq.look (h : Tq w M c L) {k : ByteArray} (hk : k.size ≤ maxLen) : (Instr.lookup 102 M (.string k) true).run Tryz.prog w = .ok (.tuple #[.agg #[.string ((get L k).getD ⟨#[]⟩)], .bool (get L k).isSome]) w := by
  rcases h with ⟨rfl, rfl⟩ | ⟨b, rfl, D, h1, h2⟩
  · rw [Maps.look_nil true lawK Tryz.underlying102 (zeroW w) (keyOf_n hk)]
    rfl
  · obtain ⟨v, ps, hr, hv⟩ := h1.look_ok lawK Tryz.underlying102 (zeroW w) (wordElem_mk ⟨#[]⟩) (keyOf_n hk)
    obtain ⟨h3, h4⟩ := h2 k
    rw [hr, h3]
    cases hg : get L k with
    | none =>
      rw [hg] at h3
      rw [Maps.atKey_of_not_has h3] at hv
      rw [wordElem_inv hv]
      rfl
    | some u =>
      rw [h4 u hg] at hv
      rw [wordElem_inv hv]
      rfl
/-- 'm[k] = word{v}'. -/
theorem Mt.put (h : Mt w b c L) (hs : Srt L) (a v : ByteArray) (ha : a.size ≤ maxLen) (hc : c < maxLen) : ∃ w', (Instr.mapUpdate 102 (.map (some b)) (.string a) (.agg #[.string v])).run Tryz.prog w = .ok () w' ∧ Mt w' b (c + 1) (ins a v L false) ∧ w.grownBy w' (some b) := by
  obtain ⟨D, h1, h2⟩ := h
  have hk := keyOf_n ha
  obtain ⟨w', hr, ho, hg⟩ := h1.update lawK Tryz.underlying102 hc hk (wordElem_mk v)
  refine ⟨w', hr, ⟨_, ho, fun k => ?_⟩, hg⟩
  rw [get_ins a v k hs]
  by_cases he : eqb a k = true
  · obtain rfl := eqb_iff.1 he
    simp only [he, if_true, Bool.false_eq_true, if_false]
    exact ⟨Maps.has_put_same h1.isMap (key_n a ha) _, fun u hu z => by cases hu; exact Maps.atKey_put_same h1.isMap (key_n a ha) _ z⟩
  · have hne : nk k ≠ nk a := fun hq => he (eqb_iff.2 (nk_inj hq).symm)
    simp only [he, Bool.false_eq_true, if_false]
    exact ⟨by rw [Maps.has_put_other hne]; exact (h2 k).1, fun u hu z => by rw [Maps.atKey_put_other hne]; exact (h2 k).2 u hu z⟩
/-- 'delete(m, k)'. -/
theorem Mt.drop (h : Mt w b c L) (hs : Srt L) (a v : ByteArray) (ha : a.size ≤ maxLen) (ty : TypeId) : ∃ w', (Builtin.delete_ #[102, 9] ty #[.map (some b), .string a]).run Tryz.prog w = .ok (.tuple #[]) w' ∧ Mt w' b c (ins a v L true) ∧ w.grownBy w' (some b) := by
  obtain ⟨D, h1, h2⟩ := h
  have hk := keyOf_n ha
  obtain ⟨w', hr, ho, hg⟩ := h1.drop lawK Tryz.underlying102 hk ty
  refine ⟨w', hr, ⟨_, ho, fun k => ?_⟩, hg.grown⟩
  · rw [get_ins a v k hs]
    by_cases he : eqb a k = true
    · obtain rfl := eqb_iff.1 he
      simp only [he, if_true]
      exact ⟨by rw [Maps.has_del_same]; rfl, fun u hu => by cases hu⟩
    · have hne : nk k ≠ nk a := fun hq => he (eqb_iff.2 (nk_inj hq).symm)
      simp only [he, Bool.false_eq_true, if_false]
      exact ⟨by rw [Maps.has_del_other hne]; exact (h2 k).1, fun u hu z => by rw [Maps.atKey_del_other hne]; exact (h2 k).2 u hu z⟩

/-- The names, as the library sorts them. -/
theorem Mt.names (hs : Srt L) {ss : List (List UInt8)} {D : DataW Unit} (hD : w.ownsMap Tryz.prog 9 wordElem b c D) (hh : ∀ k : ByteArray, Maps.has D (nk k) = (get L k).isSome) (hp : ss.Perm (strKeys D)) :
    ss.mergeSort leB = L.map (fun p => p.1.data.toList) ∧ ss.length = L.length := by
  have e2 : (L.map (fun p => p.1.data.toList)).Perm (strKeys D) := by
    obtain ⟨es, hDe, hpw, _⟩ := hD.entries lawK
    obtain ⟨es', hDe', hko⟩ := hD.keysOf
    obtain rfl : es = es' := by rw [hDe] at hDe'; simpa using hDe'
    subst hDe
    refine perm_strKeys hpw (fun p hp => by obtain ⟨v, hv⟩ := hko p hp; obtain ⟨x, _, hx, _⟩ := Maps.keyOf_str Tryz.underlying9 hv; exact ⟨x, hx⟩) ?_ (fun x => ?_)
    · refine List.pairwise_map.2 (hs.imp fun {p q} hl he => ?_)
      rw [data_inj he, lt_irrefl] at hl; cases hl
    · have := hh ⟨x.toArray⟩
      simp only [nk] at this
      rw [this, isSome_iff hs, List.mem_map, List.mem_map]
      constructor
      · rintro ⟨p, hp, rfl⟩
        exact ⟨p, hp, data_inj (by simp)⟩
      · rintro ⟨p, hp, he⟩
        exact ⟨p, hp, by rw [he]⟩
  have e3 := hp.trans e2.symm
  refine ⟨?_, by simpa using e3.length_eq⟩
  rw [mergeSort_of_perm e3]
  refine List.mergeSort_of_pairwise (List.pairwise_map.2 (hs.imp fun {p q} hl => ?_))
  have := lt_iff.1 hl
  simp only [leB, decide_eq_true_eq]
  exact List.le_of_lt this
end
end Go.Proofs.YtacipjdaiglnjaaGreatDoor

/- Contracts of strings.Cut at "=", of Word, of the document's Word. -/
namespace Go.Proofs.YtacipjdaiglnjaaGreatDoor
open Go.RowKit PTab

/-- Its number; none: -1. -/
def eqI (l : List UInt8) : Int := match eqAt l with | some i => (i : Int) | none => -1
theorem eqI_eq : ∀ l, Lib.indexByte l 61 = eqI l
  | [] => rfl
  | b :: r => by
    have h := eqI_eq r
    unfold eqI at h ⊢
    simp only [Lib.indexByte, eqAt]
    by_cases hb : (b == 61) = true
    · simp [hb]
    · simp only [hb, Bool.false_eq_true, if_false, h]
      cases he : eqAt r
      · simp
      · simp
theorem eqAt_lt : ∀ {l : List UInt8} {i : Nat}, eqAt l = some i → i < l.length
  | [], i, h => by cases h
  | b :: r, i, h => by
    simp only [eqAt] at h
    split at h
    · cases h; simp
    · obtain ⟨j, hj, rfl⟩ := Option.map_eq_some_iff.1 h
      have := eqAt_lt hj
      simp; omega

set_option maxRecDepth 100000 in
theorem IndexByte_c (s : ByteArray) (w : World) :
    Calls Tryz.prog 235 #[.string s, .int .u8 61] w fun e w' => e = .returned (.int .i64 (eqI s.data.toList)) ∧ w = w' := by
  go_enter Tryz.func235, Tryz.ntmps235
  go_wp2
  rw [run_callFunc_extern Tryz.func255 (by kernel_rfl) (by kernel_rfl) (by kernel_rfl) (e := Extern.BytealgIndexByte.indexByte) (by kernel_rfl), Lib.run_indexByteString]
  simp only [Result.andThen]
  rw [Oper.upon_value]
  go_wp2
  go_ret
  exact ⟨by rw [← eqI_eq]; rfl, rfl⟩

def eqS : ByteArray := ⟨#[61]⟩
set_option maxRecDepth 100000 in
theorem Index_c (s : ByteArray) (w : World) :
    Calls Tryz.prog 217 #[.string s, .string eqS] w fun e w' => e = .returned (.int .i64 (eqI s.data.toList)) ∧ w = w' := by
  unfold eqS
  by_cases hs : s = ⟨#[61]⟩
  · subst hs
    go_enter Tryz.func217, Tryz.ntmps217
    go_wp2
    go_ret
    exact ⟨rfl, rfl⟩
  · have h1 : (([61] : List UInt8) == s.toList) = false := by
      have := eqb_ne (a := ⟨#[61]⟩) (fun h => hs h.symm)
      unfold eqb at this
      rwa [Lib.toList_data ⟨#[61]⟩] at this
    go_enter Tryz.func217, Tryz.ntmps217
    go_wp2_with fail
    refine (IndexByte_c s w).mono ?_
    rintro e w1 ⟨rfl, rfl⟩
    go_wp2
    go_ret
    exact ⟨rfl, rfl⟩

theorem cut_facts {s : ByteArray} {i : Nat} (h : eqAt s.data.toList = some i) : i + 1 ≤ s.size := by
  have := eqAt_lt h
  rw [Array.length_toList] at this
  exact this
/-- Ahead of the first '=', behind it, whether there is one. -/
def cutV (s : ByteArray) : Value :=
  match eqAt s.data.toList with
  | some i => .tuple #[.string (s.extract 0 i), .string (s.extract (i + 1) s.size), .bool true]
  | none => .tuple #[.string s, .string ⟨#[]⟩, .bool false]
set_option maxRecDepth 100000 in
theorem sCut_c (s : ByteArray) (w : World) (hs : s.size ≤ 1000000) :
    Calls Tryz.prog 201 #[.string s, .string eqS] w fun e w' => e = .returned (cutV s) ∧ Below w.heap.size w w' := by
  unfold cutV
  cases he : eqAt s.data.toList with
  | none =>
    have hI : eqI s.data.toList = -1 := by unfold eqI; rw [he]
    show Calls _ _ #[.string s, .string ⟨#[61]⟩] _ _
    go_enter Tryz.func201, Tryz.ntmps201
    go_wp2_with fail
    refine (Index_c s w).mono ?_
    rw [hI]
    rintro e w1 ⟨rfl, rfl⟩
    go_wp2
    go_ret3
    exact ⟨rfl, Below.refl _ _⟩
  | some i =>
    have hI : eqI s.data.toList = i := by unfold eqI; rw [he]
    have hi := cut_facts he
    have c1 : (0 : Int) ≤ (i : Int) := by omega
    have c2 : (i : Int) ≤ (s.size : Int) := by omega
    have c3 : (0 : Int) ≤ (i : Int) + 1 := by omega
    have c4 : (i : Int) + 1 ≤ (s.size : Int) := by omega
    show Calls _ _ #[.string s, .string ⟨#[61]⟩] _ _
    go_enter Tryz.func201, Tryz.ntmps201
    go_wp2_with fail
    refine (Index_c s w).mono ?_
    rw [hI]
    rintro e w1 ⟨rfl, rfl⟩
    go_wp2_with fail
    go_region
    go_wp2
    go_ret3
    exact ⟨rfl, (Below.refl _ _).drew⟩
end Go.Proofs.YtacipjdaiglnjaaGreatDoor

/- Contracts of Word, of the document's Word. -/
namespace Go.Proofs.YtacipjdaiglnjaaGreatDoor
open Go.RowKit PTab

theorem wordV_some {s : ByteArray} {a b : ByteArray} (h : word s = some (a, b)) : wordV s = .tuple #[.string a, .string b, .bool true] := by unfold wordV; rw [h]
theorem wordV_none {s : ByteArray} (h : word s = none) : wordV s = .tuple #[.string ⟨#[]⟩, .string ⟨#[]⟩, .bool false] := by unfold wordV; rw [h]
theorem toList_nil_iff (s : ByteArray) : (s.toList == []) = decide (s.size = 0) := by
  rw [Lib.toList_data]
  have : s.size = s.data.toList.length := by rw [Array.length_toList]; rfl
  cases hl : s.data.toList <;> simp [this, hl]

set_option maxRecDepth 100000 in
theorem tCut_c (s : ByteArray) (w : World) (hs : s.size ≤ 1000000) :
    Calls Tryz.prog 177 #[.string s, .string eqS] w fun e w' => e = .returned (cutV s) ∧ Below w.heap.size w w' := by
  obtain ⟨x, y, z, hV⟩ : ∃ x y z, cutV s = .tuple #[.string x, .string y, .bool z] := by
    unfold cutV; split <;> exact ⟨_, _, _, rfl⟩
  have HV := Lib.hid hV
  rw [hV]
  clear hV
  show Calls _ _ #[.string s, .string ⟨#[61]⟩] _ _
  go_enter Tryz.func177, Tryz.ntmps177
  go_wp2_with fail
  refine (sCut_c s w hs).mono ?_
  rw [HV.out]
  rintro e w1 ⟨rfl, hb⟩
  go_wp2_with fail
  go_ret3
  exact ⟨rfl, hb⟩

set_option maxRecDepth 100000 in
theorem Word_c (s : ByteArray) (w : World) (hs : s.size ≤ 1000000) :
    Calls Tryz.prog 128 #[.string s] w fun e w' => e = .returned (wordV s) ∧ Below w.heap.size w w' := by
  cases he : eqAt s.data.toList with
  | none =>
    have HW := Lib.hid (wordV_none (s := s) (by unfold word; rw [he]))
    have HC := Lib.hid (show cutV s = .tuple #[.string s, .string ⟨#[]⟩, .bool false] by unfold cutV; rw [he])
    clear he
    go_enter Tryz.func128, Tryz.ntmps128
    go_wp2_with fail
    refine (tCut_c s w hs).mono ?_
    rw [HC.out]
    rintro e w1 ⟨rfl, hb⟩
    go_wp2_with fail
    go_ret3
    exact ⟨by rw [HW.out]; rfl, hb⟩
  | some i =>
    have hi := cut_facts he
    cases i with
    | zero =>
      have HW := Lib.hid (wordV_none (s := s) (by unfold word; rw [he]))
      have HC := Lib.hid (show cutV s = .tuple #[.string ⟨#[]⟩, .string (s.extract 1 s.size), .bool true] by
        unfold cutV; rw [he]
        show Value.tuple #[.string (s.extract 0 0), .string (s.extract 1 s.size), .bool true] = _
        rw [show s.extract 0 0 = ⟨#[]⟩ from ByteArray.ext (by simp)])
      clear he
      go_enter Tryz.func128, Tryz.ntmps128
      go_wp2_with fail
      refine (tCut_c s w hs).mono ?_
      rw [HC.out]
      rintro e w1 ⟨rfl, hb⟩
      go_wp2_with fail
      go_ret3
      exact ⟨by rw [HW.out]; rfl, hb⟩
    | succ i =>
      have HW := Lib.hid (wordV_some (s := s) (a := s.extract 0 (i + 1)) (b := s.extract (i + 2) s.size) (by unfold word; rw [he]))
      have HC := Lib.hid (show cutV s = .tuple #[.string (s.extract 0 (i + 1)), .string (s.extract (i + 2) s.size), .bool true] by unfold cutV; rw [he])
      have hn : ((s.extract 0 (i + 1)).toList == []) = false := by rw [toList_nil_iff, ByteArray.size_extract]; exact decide_eq_false (by omega)
      clear he
      generalize s.extract 0 (i + 1) = a at *
      generalize s.extract (i + 2) s.size = b at *
      go_enter Tryz.func128, Tryz.ntmps128
      go_wp2_with fail
      refine (tCut_c s w hs).mono ?_
      rw [HC.out]
      rintro e w1 ⟨rfl, hb⟩
      go_wp2_with fail
      go_ret3
      exact ⟨by rw [HW.out]; rfl, hb⟩

end Go.Proofs.YtacipjdaiglnjaaGreatDoor

/- The program's table at a block; what a call that writes it leaves; contracts of New, put, Get. -/
namespace Go.Proofs.YtacipjdaiglnjaaGreatDoor
open Go.RowKit PTab

/-- The table at block g holds L; F are its blocks; it was written c times at most. -/
structure Tb (w : World) (g : Nat) (F : List Nat) (c : Nat) (L : List Pr) : Prop where
  ex : ∃ q, Blk w g 104 [.map q] ∧ Tq w (.map q) c L ∧ F = g :: tml (.map q)
  ok : Ok L
section
variable {w w' : World} {g c : Nat} {F S : List Nat} {L : List Pr}
theorem Tb.hi (h : Tb w g F c L) : ∀ k ∈ F, k < w.heap.size := by
  obtain ⟨q, hB, hM, rfl⟩ := h.ex
  intro k hk
  rcases List.mem_cons.1 hk with rfl | hk
  · exact hB.lt
  · exact hM.hi k hk
theorem Tb.touch (h : Tb w g F c L) (ht : Touch S w w') (hd : ∀ k ∈ S, k ∉ F) : Tb w' g F c L := by
  obtain ⟨q, hB, hM, rfl⟩ := h.ex
  exact ⟨⟨q, hB.touch ht (fun hm => hd g hm (List.mem_cons_self ..)), hM.touch ht (fun s hs e => hd s hs (List.mem_cons_of_mem _ e)), rfl⟩, h.ok⟩
theorem Tb.past (h : Tb w g F c L) (hb : Below w.heap.size w w') : Tb w' g F c L := h.touch (S := []) (.of_below hb) (by simp)
theorem Tb.drew (h : Tb w g F c L) : Tb w.drew g F c L := ⟨h.ex, h.ok⟩
theorem Tb.alloc (h : Tb w g F c L) (o : Obj) : Tb (w.alloc o) g F c L := h.past ((Below.refl _ _).alloc (Nat.le_refl _) _)
theorem Tb.self (h : Tb w g F c L) : g ∈ F := by obtain ⟨q, hB, hM, rfl⟩ := h.ex; exact List.mem_cons_self ..
theorem Tb.mono {c' : Nat} (h : Tb w g F c L) (hc : c ≤ c') : Tb w g F c' L := by obtain ⟨q, hB, hM, hF⟩ := h.ex; exact ⟨⟨q, hB, hM.mono hc, hF⟩, h.ok⟩
theorem Tb.open (h : Tb w g F c L) : ∃ q, w.cell? ⟨g, 0, none⟩ = some (.map q) ∧ Tq w (.map q) c L := by
  obtain ⟨q, hB, hM, rfl⟩ := h.ex
  exact ⟨q, hB.cell (i := 0) rfl, hM⟩
/-- What a call leaves that writes the table at block g, whose blocks were F. -/
structure TW (w w' : World) (g : Nat) (F : List Nat) (c : Nat) (L : List Pr) : Prop where
  ex : ∃ F', Tb w' g F' c L ∧ ∀ k ∈ F', k ∈ F ∨ w.heap.size ≤ k
  touch : Touch F w w'
theorem TW.same (h : Tb w g F c L) (hb : Below w.heap.size w w') : TW w w' g F c L := ⟨⟨F, h.past hb, fun _ hk => .inl hk⟩, .of_below hb⟩
theorem TW.behind {w0 : World} (h : TW w w' g F c L) (hb : Below w0.heap.size w0 w) : TW w0 w' g F c L := by
  obtain ⟨⟨F', h1, h2⟩, h3⟩ := h
  exact ⟨⟨F', h1, fun k hk => (h2 k hk).imp id (fun h => Nat.le_trans hb.size h)⟩, (Touch.of_below hb).trans h3⟩
theorem TW.ahead {w2 : World} (h : TW w w' g F c L) (hb : Below w'.heap.size w' w2) : TW w w2 g F c L := by
  obtain ⟨⟨F', h1, h2⟩, h3⟩ := h
  exact ⟨⟨F', h1.past hb, h2⟩, h3.trans (.of_below hb)⟩
end

theorem tbNew_c (w : World) : Calls Tryz.prog 54 #[] w fun x w' => x = .returned (.pointer (some ⟨w.heap.size, 0, none⟩)) ∧ Tb w' w.heap.size [w.heap.size] 0 [] ∧ Below w.heap.size w w' := by
  have K := Lib.hid (Blk.new w #[.map none] 104)
  have b := Lib.hid ((Below.refl w.heap.size w).alloc (Nat.le_refl _) (.cells #[.map none] 104))
  go_enter Tryz.func54, Tryz.ntmps54
  go_wp2_with fail
  go_ret
  exact ⟨rfl, ⟨⟨none, K.out, .inl ⟨rfl, rfl⟩, rfl⟩, Ok.nil⟩, b.out⟩

set_option maxRecDepth 100000 in
theorem tbGet_c (w : World) (g : Nat) (F : List Nat) (c : Nat) (L : List Pr) (h : Tb w g F c L) (k : ByteArray) (hk : k.size ≤ maxLen) :
    Calls Tryz.prog 24 #[.pointer (some ⟨g, 0, none⟩), .string k] w fun x w' => x = .returned (.tuple #[.string ((get L k).getD ⟨#[]⟩), .bool (get L k).isSome]) ∧ Below w.heap.size w w' := by
  obtain ⟨q, d0, hM⟩ := h.open
  have hl := hM.look hk
  have b := Lib.hid ((Below.refl w.heap.size w).alloc (Nat.le_refl _) (.cells #[.string ((get L k).getD ⟨#[]⟩)] 100))
  clear h hM hk
  generalize (get L k).getD ⟨#[]⟩ = x at *
  generalize (get L k).isSome = y at *
  go_enter Tryz.func24, Tryz.ntmps24
  go_wp2_with fail
  go_ret2
  exact ⟨rfl, b.out⟩
end Go.Proofs.YtacipjdaiglnjaaGreatDoor

/- Plain mathematics of messages: which may be, which are the same. No program is named here. -/
namespace Go.Proofs.YtacipjdaiglnjaaGreatDoor

/-- A message. -/
structure Msg where
  kind : Int
  fr : Int
  dst : Int
  boot : Int
  view : Int
  last : Int
  mem : Int
  pos : Int
  es : List Ent
  com : Int
  num : Int
  clk : Int
  yes : Bool

namespace PMsg

/-- It may be. -/
def May (m : Msg) : Prop := (1 ≤ m.kind ∧ m.kind ≤ 13) ∧ (1 ≤ m.fr ∧ m.fr ≤ 7) ∧ (1 ≤ m.dst ∧ m.dst ≤ 7) ∧ m.fr ≠ m.dst ∧ (1 ≤ m.boot ∧ m.boot ≤ 1099511627776) ∧ (0 ≤ m.view ∧ m.view ≤ 1099511627776) ∧ (0 ≤ m.last ∧ m.last ≤ 1099511627776) ∧
  (0 ≤ m.mem ∧ m.mem ≤ 127) ∧ (0 ≤ m.pos ∧ m.pos ≤ 60) ∧ (0 ≤ m.com ∧ m.com ≤ 60) ∧ (0 ≤ m.num ∧ m.num ≤ 1099511627776) ∧ (0 ≤ m.clk ∧ m.clk ≤ 1099511627776) ∧ m.es.length ≤ 60 ∧ m.es.all PEnt.may = true
instance (m : Msg) : Decidable (May m) := by unfold May; infer_instance
def may (m : Msg) : Bool := decide (May m)
theorem may_iff (m : Msg) : may m = true ↔ May m := by simp [may]
theorem may_no {m : Msg} : may m = false ↔ ¬ May m := by simp [may]

def bit (b : Bool) : Int := if b = true then 1 else 0
/-- Its numbers, in the order in which they are written. -/
def ns (m : Msg) : List Int := [m.kind, m.fr, m.dst, m.boot, m.view, m.last, m.mem, m.pos, m.com, m.num, m.clk, bit m.yes, (m.es.length : Int)]
theorem ns_length (m : Msg) : (ns m).length = 13 := rfl
/-- A message of numbers and entries. -/
def ofN (x : List Int) (es : List Ent) : Msg := ⟨x.getD 0 0, x.getD 1 0, x.getD 2 0, x.getD 3 0, x.getD 4 0, x.getD 5 0, x.getD 6 0, x.getD 7 0, es, x.getD 8 0, x.getD 9 0, x.getD 10 0, x.getD 11 0 == 1⟩
theorem ofN_ns (m : Msg) : ofN (ns m) m.es = m := by
  obtain ⟨a, b, c, d, e, f, g, h, i, j, k, l, y⟩ := m
  cases y <;> rfl

theorem ns_may {m : Msg} (h : May m) : ∀ x ∈ ns m, 0 ≤ x ∧ x ≤ 1099511627776 := by
  obtain ⟨h0, h1, h2, _, h3, h4, h5, h6, h7, h8, h9, h10, h11, _⟩ := h
  intro x hx
  simp only [ns, List.mem_cons, List.not_mem_nil, or_false] at hx
  rcases hx with rfl | rfl | rfl | rfl | rfl | rfl | rfl | rfl | rfl | rfl | rfl | rfl | rfl
  all_goals first | omega | (unfold bit; split <;> omega)
theorem ns_fit {m : Msg} (h : May m) : ∀ x ∈ ns m, -9223372036854775808 ≤ x ∧ x ≤ 9223372036854775807 := fun x hx => by have := ns_may h x hx; omega

end PMsg
end Go.Proofs.YtacipjdaiglnjaaGreatDoor

/- Plain mathematics of join: who is asked, which word is taken. No program is named here. -/
namespace Go.Proofs.YtacipjdaiglnjaaGreatDoor
namespace PJoin

/-- It answers this start; who sent it decides its view; its log is one. -/
def isAns (me boot : Int) (m : Msg) : Bool := m.kind == 11 && (m.dst == me && (m.yes && m.num == boot))
def isDec (n pro : Int) (m : Msg) : Bool := decide (0 < m.view) && (decide (pro ≤ m.view) && (m.fr == PTeam.decider m.view n && (PTeam.most m.mem n && PTeam.has m.mem.toNat m.fr)))
def isAll (m : Msg) : Bool := decide (m.com ≤ m.es.length) && (((PLog.log m.es).length : Int) == (m.es.length : Int))
def word (me n boot pro : Int) (m : Msg) : Bool := isAns me boot m && (isDec n pro m && isAll m)
/-- What is asked of one, of the first k. -/
def askM (me boot dst : Int) : Msg := ⟨10, me, dst, boot, 0, 0, 0, 0, [], 0, boot, 0, false⟩
def asks (me boot : Int) : Nat → List Msg
  | 0 => []
  | k + 1 => asks me boot k ++ if (k : Int) + 1 = me then [] else [askM me boot (k + 1)]
theorem asks_me {me boot : Int} {k : Nat} (h : (k : Int) + 1 = me) : asks me boot (k + 1) = asks me boot k := by simp [asks, h]
theorem asks_not {me boot : Int} {k : Nat} (h : (k : Int) + 1 ≠ me) : asks me boot (k + 1) = asks me boot k ++ [askM me boot (k + 1)] := by simp [asks, h]
end PJoin
end Go.Proofs.YtacipjdaiglnjaaGreatDoor

/- Messages as cells, by value; what is known of one that came in. No program is named here. -/
namespace Go.Proofs.YtacipjdaiglnjaaGreatDoor
open Go.RowKit Go.ChangeShapes Go.WideShapes

/-- A message's cells, its entries at A; a message by value; its numbers by value. -/
def mcs (m : Msg) (A : Option Addr) (c : Nat) : List Value := [.int .i64 m.kind, .int .i64 m.fr, .int .i64 m.dst, .int .i64 m.boot, .int .i64 m.view, .int .i64 m.last, .int .i64 m.mem, .int .i64 m.pos, .slice A m.es.length c, .int .i64 m.com, .int .i64 m.num, .int .i64 m.clk, .bool m.yes]
def mv (m : Msg) (A : Option Addr) (c : Nat) : Value := .agg #[.int .i64 m.kind, .int .i64 m.fr, .int .i64 m.dst, .int .i64 m.boot, .int .i64 m.view, .int .i64 m.last, .int .i64 m.mem, .int .i64 m.pos, .slice A m.es.length c, .int .i64 m.com, .int .i64 m.num, .int .i64 m.clk, .bool m.yes]
def zeroM : Msg := ⟨0, 0, 0, 0, 0, 0, 0, 0, [], 0, 0, 0, false⟩
/-- Thirteen numbers by value; a message's. -/
def nv13 (x : List Int) : Value := .agg (x.map (Value.int .i64)).toArray

/-- What is known of a message that came in. -/
structure MsgOk (m : Msg) : Prop where
  f0 : -9223372036854775808 ≤ m.kind ∧ m.kind ≤ 9223372036854775807
  f1 : -9223372036854775808 ≤ m.fr ∧ m.fr ≤ 9223372036854775807
  f2 : -9223372036854775808 ≤ m.dst ∧ m.dst ≤ 9223372036854775807
  f3 : -9223372036854775808 ≤ m.boot ∧ m.boot ≤ 9223372036854775807
  f4 : -9223372036854775808 ≤ m.view ∧ m.view ≤ 9223372036854775807
  f5 : -9223372036854775808 ≤ m.last ∧ m.last ≤ 9223372036854775807
  f6 : -9223372036854775808 ≤ m.mem ∧ m.mem ≤ 9223372036854775807
  f7 : -9223372036854775808 ≤ m.pos ∧ m.pos ≤ 9223372036854775807
  f9 : -9223372036854775808 ≤ m.com ∧ m.com ≤ 9223372036854775807
  f10 : -9223372036854775808 ≤ m.num ∧ m.num ≤ 9223372036854775807
  f11 : -9223372036854775808 ≤ m.clk ∧ m.clk ≤ 9223372036854775807
  ents : ∀ e ∈ m.es, EntOk e

section
variable {w w' : World} {g : Nat} {t : TypeId} {m : Msg} {A : Option Addr} {c : Nat}
end

/-- What is known of the cell of field j. -/
def FM (w : World) (j : Nat) (u : Value) : Prop := (j ≠ 8 → j ≠ 12 → ∃ x, u = .int .i64 x ∧ (Lit.int .i64 x).wf = true) ∧ (j = 8 → ∃ (A : Option Addr) (n c : Nat) (l : List Ent), u = .slice A n c ∧ Rd w w.heap.size A c 7 n (els l) ∧ ∀ e ∈ l, EntOk e) ∧ (j = 12 → ∃ b, u = .bool b)
theorem msg_of {w : World} {cs : List Value} (hl : cs.length = 13) (h : ∀ (j : Nat) (u : Value), cs[j]? = some u → FM w j u) : ∃ (m : Msg) (A : Option Addr) (c : Nat), cs = mcs m A c ∧ Rd w w.heap.size A c 7 m.es.length (els m.es) ∧ MsgOk m := by
  match cs, hl with
  | [a0, a1, a2, a3, a4, a5, a6, a7, a8, a9, a10, a11, a12], _ =>
    obtain ⟨x0, rfl, w0⟩ := (h 0 a0 rfl).1 (by omega) (by omega)
    obtain ⟨x1, rfl, w1⟩ := (h 1 a1 rfl).1 (by omega) (by omega)
    obtain ⟨x2, rfl, w2⟩ := (h 2 a2 rfl).1 (by omega) (by omega)
    obtain ⟨x3, rfl, w3⟩ := (h 3 a3 rfl).1 (by omega) (by omega)
    obtain ⟨x4, rfl, w4⟩ := (h 4 a4 rfl).1 (by omega) (by omega)
    obtain ⟨x5, rfl, w5⟩ := (h 5 a5 rfl).1 (by omega) (by omega)
    obtain ⟨x6, rfl, w6⟩ := (h 6 a6 rfl).1 (by omega) (by omega)
    obtain ⟨x7, rfl, w7⟩ := (h 7 a7 rfl).1 (by omega) (by omega)
    obtain ⟨A, n, c, l, rfl, hr, ho⟩ := (h 8 a8 rfl).2.1 rfl
    obtain ⟨x9, rfl, w9⟩ := (h 9 a9 rfl).1 (by omega) (by omega)
    obtain ⟨x10, rfl, w10⟩ := (h 10 a10 rfl).1 (by omega) (by omega)
    obtain ⟨x11, rfl, w11⟩ := (h 11 a11 rfl).1 (by omega) (by omega)
    obtain ⟨b, rfl⟩ := (h 12 a12 rfl).2.2 rfl
    have hn := hr.elen
    subst hn
    exact ⟨⟨x0, x1, x2, x3, x4, x5, x6, x7, l, x9, x10, x11, b⟩, A, c, rfl, hr, ⟨bounds_i64 w0, bounds_i64 w1, bounds_i64 w2, bounds_i64 w3, bounds_i64 w4, bounds_i64 w5, bounds_i64 w6, bounds_i64 w7, bounds_i64 w9, bounds_i64 w10, bounds_i64 w11, ho⟩⟩

section
variable {H : Type} {enc : TypeId × Value → H} {P : Program} {w : World} {base : Nat} {spare : Nat → Bool} {held : Bool}
/-- How a message's fields lie. -/
def MsgT (P : Program) (fs : Array Field) (E : TypeId) : Prop := fs.size = 13 ∧ ∀ (j : Nat) (f : Field), fs[j]? = some f → P.cellsOf f.type = 1 ∧ f.offset = j ∧ (j ≠ 8 → j ≠ 12 → P.underlying f.type = some (.int .i64)) ∧ (j = 8 → P.underlying f.type = some (.slice E)) ∧ (j = 12 → P.underlying f.type = some .bool)
end
end Go.Proofs.YtacipjdaiglnjaaGreatDoor

/- A message loaded, in a region that draws. -/
namespace Go.Proofs.YtacipjdaiglnjaaGreatDoor
open Go.RowKit

/-- A message is loaded, in a region that draws. -/
theorem run_loadM {w : World} {dst : Option Tmp} {x : Operand} {ty : TypeId} {pos : String} {after : Array Edge} {guard : Option (Nat × Bool)} {ρ : Operand → Value} {g : Nat} {t : TypeId} {m : Msg} {A : Option Addr} {c : Nat}
    (K : Blk w g t (mcs m A c)) (hx : ρ x = .pointer (some ⟨g, 0, none⟩)) :
    (execOp ρ { dst, op := .load 31 x, type := ty, pos, after, guard }).run Tryz.prog w = .ok (.value (mv m A c)) w := by
  have := run_loadAt_mid (P := Tryz.prog) w g 0 31 (mcs m A c) _ K.range Tryz.underlying31 rfl (by kernel_rfl)
  unfold execOp
  simp only [hx, Sem.run_bind, this, Result.andThen_ok, Sem.run_pure]
  rfl
end Go.Proofs.YtacipjdaiglnjaaGreatDoor

/- 'Ms': a row of messages of the law's own, with their entries. -/
namespace Go.Proofs.YtacipjdaiglnjaaGreatDoor
open Go.RowKit

/-- A message with a slice beside it: its entries', or its bytes'. -/
structure Mp where
  m : Msg
  A : Option Addr
  c : Nat
def mgc (q : Mp) : List Value := mcs q.m q.A q.c
def mgs (Q : List Mp) : List Value := Q.flatMap mgc
theorem mgc_length (q : Mp) : (mgc q).length = 13 := rfl
theorem mgs_length (Q : List Mp) : (mgs Q).length = Q.length * 13 := rows_len mgc_length Q
theorem mgs_append (a b : List Mp) : mgs (a ++ b) = mgs a ++ mgs b := by simp [mgs]
theorem mgs_one (q : Mp) : mgs [q] = mgc q := by simp [mgs]
theorem mgc_oneCell (q : Mp) : ∀ u ∈ mgc q, u.oneCell' = true := by
  intro u hu
  simp only [mgc, mcs, List.mem_cons, List.not_mem_nil, or_false] at hu
  rcases hu with rfl | rfl | rfl | rfl | rfl | rfl | rfl | rfl | rfl | rfl | rfl | rfl | rfl <;> rfl
/-- A row of messages, with entries, of the law's own (above base). -/
structure Ms (w : World) (base : Nat) (A : Option Addr) (c : Nat) (Q : List Mp) : Prop where
  row : Ow w base 31 13 A Q.length c (mgs Q)
  ents : ∀ q ∈ Q, Ow w base 93 7 q.A q.m.es.length q.c (els q.m.es)
  fit : ∀ q ∈ Q, -9223372036854775808 ≤ q.m.mem ∧ q.m.mem ≤ 9223372036854775807
section
variable {w w' : World} {base c g : Nat} {A : Option Addr} {Q : List Mp} {S : List Nat}
theorem Ms.nil (w : World) (base : Nat) : Ms w base none 0 [] := ⟨Ow.nil _ _ _ _, by simp, by simp⟩
theorem Ms.touch (h : Ms w base A c Q) (ht : Touch S w w') (h1 : ∀ s ∈ S, ∃ t ys, Blk w s t ys ∧ t ≠ 31) (h2 : ∀ s ∈ S, ∃ t ys, Blk w s t ys ∧ t ≠ 93) : Ms w' base A c Q :=
  ⟨h.row.other ht h1, fun q hq => (h.ents q hq).other ht h2, h.fit⟩
theorem Ms.past (h : Ms w base A c Q) (hb : Below w.heap.size w w') : Ms w' base A c Q := h.touch (S := []) (.of_below hb) (by simp) (by simp)
theorem Ms.drew (h : Ms w base A c Q) : Ms w.drew base A c Q := h.past ((Below.refl _ _).drew)
theorem Ms.down {base' : Nat} (h : Ms w base A c Q) (hb : base' ≤ base) : Ms w base' A c Q := ⟨h.row.down hb, fun q hq => (h.ents q hq).down hb, h.fit⟩
/-- The one at place i. -/
theorem Ms.at_ (h : Ms w base A c Q) {i : Nat} (hi : i < Q.length) : ∃ b o q, A = some ⟨b, o, none⟩ ∧ b < w.heap.size ∧ Q[i]? = some q ∧ q ∈ Q ∧ w.rangeAt b (o + i * 13) (mcs q.m q.A q.c) ∧ Rd w w.heap.size q.A q.c 7 q.m.es.length (els q.m.es) := by
  obtain ⟨b, o, hA, hb, hc⟩ := h.row.rd.2.2.2.2 (by omega)
  have he : Q[i]? = some Q[i] := List.getElem?_eq_getElem hi
  refine ⟨b, o, Q[i], hA, hb, he, List.getElem_mem _, fun j v hv => ?_, (h.ents _ (List.getElem_mem _)).rd⟩
  have hj : j < 13 := (List.getElem?_eq_some_iff.1 hv).1
  rw [Nat.add_assoc]
  refine hc (i * 13 + j) v ?_
  have := rows_at mgc_length he hj
  exact this.trans hv
/-- A row that was just made. -/
theorem Ms.lit (us : Array Value) (hu : us.toList = mgs Q) (hb : base ≤ w.heap.size) (hn : Q.length ≤ 1000) (he : ∀ q ∈ Q, Ow w base 93 7 q.A q.m.es.length q.c (els q.m.es)) (hf : ∀ q ∈ Q, -9223372036854775808 ≤ q.m.mem ∧ q.m.mem ≤ 9223372036854775807) :
    Ms (w.alloc (.cells us 31)) base (some ⟨w.heap.size, 0, none⟩) Q.length Q := by
  have hbel : Below w.heap.size w (w.alloc (.cells us 31)) := (Below.refl _ _).alloc (Nat.le_refl _) _
  refine ⟨⟨mgs_length Q, .inr ⟨w.heap.size, [], rfl, hb, ?_, Nat.le_refl _, by unfold maxLen; omega, by rw [List.append_nil, mgs_length]; omega⟩⟩, fun q hq => (he q hq).past hbel, hf⟩
  have := Blk.new w us 31
  rw [hu] at this
  rwa [List.append_nil]
theorem Ms.app {A2 : Option Addr} {c2 : Nat} {q : Mp} (h : Ms w base A c Q) (hg : w.grownBy w' (bk A)) (hO : Ow w' base 31 13 A2 (Q.length + 1) c2 (mgs Q ++ mgc q))
    (he : Ow w base 93 7 q.A q.m.es.length q.c (els q.m.es)) (hf : -9223372036854775808 ≤ q.m.mem ∧ q.m.mem ≤ 9223372036854775807) : Ms w' base A2 c2 (Q ++ [q]) := by
  have hT : Touch (bl A) w w' := Touch.of_bk hg
  have hp : ∀ s ∈ bl A, ∃ t ys, Blk w s t ys ∧ t ≠ 93 := fun s hs => by
    obtain ⟨ys, hy⟩ := h.row.blk (mem_bl.1 hs)
    exact ⟨_, _, hy, by decide⟩
  refine ⟨by rw [mgs_append, mgs_one, List.length_append]; exact hO, fun p hp' => ?_, fun p hp' => ?_⟩
  · rcases List.mem_append.1 hp' with h1 | h1
    · exact (h.ents p h1).other hT hp
    · rw [List.mem_singleton.1 h1]; exact he.other hT hp
  · rcases List.mem_append.1 hp' with h1 | h1
    · exact h.fit p h1
    · rw [List.mem_singleton.1 h1]; exact hf
/-- A part of it, in another row. -/
theorem Ms.part {A2 : Option Addr} {c2 : Nat} {Q2 : List Mp} (h : Ms w base A c Q) (hb : Below w.heap.size w w') (hO : Ow w' base 31 13 A2 Q2.length c2 (mgs Q2)) (hs : ∀ q ∈ Q2, q ∈ Q) : Ms w' base A2 c2 Q2 :=
  ⟨hO, fun q hq => (h.ents q (hs q hq)).past hb, fun q hq => h.fit q (hs q hq)⟩
end

theorem nMsg_info : (Tryz.prog.info? 31).map (fun i => (i.zero, i.size, i.bytes)) = some (some (mv zeroM none 0), 13, 120) := by kernel_rfl
end Go.Proofs.YtacipjdaiglnjaaGreatDoor

/- 'Jn': the program's join at block g, with its blocks. -/
namespace Go.Proofs.YtacipjdaiglnjaaGreatDoor
open Go.RowKit

/-- A join's cells. -/
def jcs (me n boot pro : Int) (m : Msg) (A : Option Addr) (c : Nat) (got : Bool) : List Value :=
  [.int .i64 me, .int .i64 n, .int .i64 boot, .int .i64 pro, .int .i64 m.kind, .int .i64 m.fr, .int .i64 m.dst, .int .i64 m.boot, .int .i64 m.view, .int .i64 m.last, .int .i64 m.mem, .int .i64 m.pos, .slice A m.es.length c, .int .i64 m.com, .int .i64 m.num, .int .i64 m.clk, .bool m.yes, .bool got]
theorem jcs_mid (me n boot pro : Int) (m : Msg) (A : Option Addr) (c : Nat) (got : Bool) : jcs me n boot pro m A c got = [.int .i64 me, .int .i64 n, .int .i64 boot, .int .i64 pro] ++ (mcs m A c ++ [.bool got]) := rfl
/-- The join at block g, of such numbers, with the word that it took; F are its blocks. -/
structure Jn (w : World) (g : Nat) (F : List Nat) (me n boot pro : Int) (o : Option Msg) : Prop where
  ex : ∃ (A : Option Addr) (c : Nat), Blk w g 143 (jcs me n boot pro (o.getD zeroM) A c o.isSome) ∧ Ow w 0 93 7 A (o.getD zeroM).es.length c (els (o.getD zeroM).es) ∧ F = g :: bl A
  le : (o.getD zeroM).es.length ≤ 60

section
variable {w w' : World} {g : Nat} {F S : List Nat} {me n boot pro : Int} {o : Option Msg}
theorem Jn.kinds (h : Jn w g F me n boot pro o) : ∀ k ∈ F, ∃ t ys, Blk w k t ys ∧ (t = 143 ∨ t = 93) := by
  obtain ⟨A, c, hB, hO, rfl⟩ := h.ex
  intro k hk
  rcases List.mem_cons.1 hk with rfl | hk
  · exact ⟨_, _, hB, .inl rfl⟩
  · obtain ⟨ys, hy⟩ := hO.blk (mem_bl.1 hk)
    exact ⟨_, _, hy, .inr rfl⟩
theorem Jn.hi (h : Jn w g F me n boot pro o) : ∀ k ∈ F, k < w.heap.size := fun k hk => by
  obtain ⟨t, ys, hB, _⟩ := h.kinds k hk
  exact hB.lt
theorem Jn.self (h : Jn w g F me n boot pro o) : g ∈ F := by obtain ⟨A, c, hB, hO, rfl⟩ := h.ex; exact List.mem_cons_self ..
theorem Jn.touch (h : Jn w g F me n boot pro o) (ht : Touch S w w') (hd : ∀ k ∈ S, k ∉ F) : Jn w' g F me n boot pro o := by
  obtain ⟨A, c, hB, hO, rfl⟩ := h.ex
  exact ⟨⟨A, c, hB.touch ht (fun hm => hd g hm (List.mem_cons_self ..)), hO.touch ht (fun s hs e => hd s hs (List.mem_cons_of_mem _ (mem_bl.2 e))), rfl⟩, h.le⟩
theorem Jn.past (h : Jn w g F me n boot pro o) (hb : Below w.heap.size w w') : Jn w' g F me n boot pro o := h.touch (S := []) (.of_below hb) (by simp)
theorem Jn.drew (h : Jn w g F me n boot pro o) : Jn w.drew g F me n boot pro o := ⟨h.ex, h.le⟩
theorem Jn.alloc (h : Jn w g F me n boot pro o) (x : Obj) : Jn (w.alloc x) g F me n boot pro o := h.past ((Below.refl _ _).alloc (Nat.le_refl _) _)
theorem Jn.blk (h : Jn w g F me n boot pro o) : ∃ (m : Msg) (A : Option Addr) (c : Nat), Blk w g 143 (jcs me n boot pro m A c o.isSome) := by
  obtain ⟨A, c, hB, _, _⟩ := h.ex
  exact ⟨_, A, c, hB⟩

/-- What a call leaves that writes the join at block g, whose blocks were F. -/
structure JnW (w w' : World) (g : Nat) (F : List Nat) (me n boot pro : Int) (o : Option Msg) : Prop where
  ex : ∃ F', Jn w' g F' me n boot pro o ∧ ∀ k ∈ F', k ∈ F ∨ w.heap.size ≤ k
  touch : Touch F w w'
theorem JnW.same (h : Jn w g F me n boot pro o) (hb : Below w.heap.size w w') : JnW w w' g F me n boot pro o := ⟨⟨F, h.past hb, fun _ hk => .inl hk⟩, .of_below hb⟩
end
section
variable {w w' : World} {g : Nat} {t : TypeId} {me n boot pro : Int} {m : Msg} {A : Option Addr} {c : Nat} {got : Bool}
/-- The cells of a block that holds a join. -/
theorem Blk.join (h : Blk w g t (jcs me n boot pro m A c got)) :
    w.cell? ⟨g, 0, none⟩ = some (.int .i64 me) ∧ w.cell? ⟨g, 1, none⟩ = some (.int .i64 n) ∧ w.cell? ⟨g, 2, none⟩ = some (.int .i64 boot) ∧ w.cell? ⟨g, 3, none⟩ = some (.int .i64 pro) ∧ w.cell? ⟨g, 17, none⟩ = some (.bool got) :=
  ⟨h.cell (i := 0) rfl, h.cell (i := 1) rfl, h.cell (i := 2) rfl, h.cell (i := 3) rfl, h.cell (i := 17) rfl⟩
/-- Its word, in its midst. -/
theorem Blk.word (h : Blk w g t (jcs me n boot pro m A c got)) : w.rangeAt g 4 (mcs m A c) := fun j v hv => by
  have hj : j < 13 := (List.getElem?_eq_some_iff.1 hv).1
  refine h.cell ?_
  rw [jcs_mid, List.getElem?_append_right (by simp), List.getElem?_append_left (by simp [mcs]; omega)]
  simpa using hv
end
theorem run_loadJi {w : World} {dst : Option Tmp} {x : Operand} {ty : TypeId} {pos : String} {after : Array Edge} {guard : Option (Nat × Bool)} {ρ : Operand → Value} {p : Addr} {k : Int}
    (h : w.cell? p = some (.int .i64 k)) (hx : ρ x = .pointer (some p)) : (execOp ρ { dst, op := .load 3 x, type := ty, pos, after, guard }).run Tryz.prog w = .ok (.value (.int .i64 k)) w := by
  go_simp
end Go.Proofs.YtacipjdaiglnjaaGreatDoor

/- A team of any processes. -/
namespace Go.Proofs.YtacipjdaiglnjaaGreatDoor
open Go.RowKit

theorem tOf_c (w : World) (B : Nat) (A : Option Addr) (c n : Nat) (l : List Int) (h : Rd w B A c 1 n (is l)) :
    Calls Tryz.prog 45 #[.slice A n c] w fun e w' => e = .returned (.int .i64 (PTeam.ofL l : Nat)) ∧ w = w' := by
  have hlen := h.ilen
  have HL := Lib.hid hlen; clear hlen
  have hle := h.le
  have hcap := h.cap
  unfold maxLen at hcap
  go_enter Tryz.func45, Tryz.ntmps45
  go_wp2
  go_loop [3, 5, 8] (fun s3 _ s8 => ∃ (k : Nat), k ≤ n ∧ s8 = .int .i64 k ∧ s3 = .int .i64 (PTeam.ofL (l.take k) : Nat)) (fun _ _ s8 => n - (intOf s8).toNat)
  case atStart => exact ⟨0, by omega, rfl, rfl⟩
  case round =>
    obtain ⟨k, hk, rfl, rfl⟩ := hrel
    by_cases hlt : k < n
    · obtain ⟨b, o, x, rfl, hc, hd, hx⟩ := h.int hlt
      have hsn : PTeam.ofL (l.take (k + 1)) = PTeam.wth (PTeam.ofL (l.take k)) x := by
        have hk' : k < l.length := by rw [HL.out]; exact hlt
        rw [List.take_succ_eq_append_getElem hk']
        unfold PTeam.ofL
        rw [List.foldl_append]
        have : x = l[k] := by rw [hx]; simp [List.getD, List.getElem?_eq_getElem hk']
        rw [this]; rfl
      have HS := Lib.hid hsn; clear hsn hd hx
      have ht := PTeam.ofL_lt (l.take k)
      go_wp2_with fail
      refine (tWith_c w _ x ht).mono ?_
      rintro e w' ⟨rfl, rfl⟩
      go_wp2_with fail
      go_round
      case rel => exact ⟨k + 1, by omega, by go_num, by rw [HS.out]⟩
      case measure => simp [intOf]; omega
    · go_wp2
      go_ret
      exact ⟨by rw [List.take_of_length_le (by rw [HL.out]; omega)]; rfl, rfl⟩

end Go.Proofs.YtacipjdaiglnjaaGreatDoor

