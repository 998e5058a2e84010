/- The table as plain data: names with what they stand for, rising; a word; what is done; the bytes that are summed. -/
import Derived.Test.YtapleleaogjcjaaDoorPlainEnt
import Derived.Test.YtapleleaogjcjaaDoorPlainCrc
import Derived.Maps.OwnSet
import Derived.Sort.KeysCollected
import Derived.Sort.Walk0
namespace Go.Proofs.YtapleleaogjcjaaDoor.PTab
open Go.RowKit PNum

abbrev Pr := ByteArray × ByteArray
/-- Go's '<' on strings. -/
def lt (a b : ByteArray) : Bool := Op.bytesLess a.toList b.toList
def eqb (a b : ByteArray) : Bool := a.toList == b.toList
theorem eqb_iff {a b : ByteArray} : eqb a b = true ↔ a = b := by
  unfold eqb
  rw [beq_iff_eq]
  exact ⟨PEnt.bytes_ext, fun h => h ▸ rfl⟩
theorem eqb_self (a : ByteArray) : eqb a a = true := eqb_iff.2 rfl
theorem eqb_ne {a b : ByteArray} (h : a ≠ b) : eqb a b = false := by
  cases hq : eqb a b
  · rfl
  · exact absurd (eqb_iff.1 hq) h
theorem lt_iff {a b : ByteArray} : lt a b = true ↔ a.data.toList < b.data.toList := by
  unfold lt
  rw [bytesLess_eq, Lib.toList_data, Lib.toList_data, decide_eq_true_eq]
theorem data_inj {a b : ByteArray} (h : a.data.toList = b.data.toList) : a = b := PEnt.bytes_ext (by rw [Lib.toList_data, Lib.toList_data, h])
theorem lt_irrefl (a : ByteArray) : lt a a = false := by
  cases h : lt a a
  · rfl
  · exact absurd (lt_iff.1 h) (List.lt_irrefl _)
theorem lt_trans {a b c : ByteArray} (h : lt a b = true) (h' : lt b c = true) : lt a c = true := lt_iff.2 (List.lt_trans (lt_iff.1 h) (lt_iff.1 h'))
theorem lt_ne {a b : ByteArray} (h : lt a b = true) : eqb a b = false := eqb_ne (by rintro rfl; rw [lt_irrefl] at h; cases h)
theorem lt_ne' {a b : ByteArray} (h : lt a b = true) : eqb b a = false := eqb_ne (by rintro rfl; rw [lt_irrefl] at h; cases h)
theorem lt_of_not {a b : ByteArray} (h : lt a b = false) (hn : eqb a b = false) : lt b a = true := by
  have h1 : ¬ a.data.toList < b.data.toList := fun q => by rw [lt_iff.2 q] at h; cases h
  have h2 : a ≠ b := fun q => by rw [eqb_iff.2 q] at hn; cases hn
  refine lt_iff.2 ?_
  apply Classical.byContradiction
  intro h3
  exact h2 (data_inj (List.le_antisymm (List.not_lt.1 h3) (List.not_lt.1 h1)))

/-- The names rise. -/
def Srt (L : List Pr) : Prop := L.Pairwise (fun p q => lt p.1 q.1 = true)
/-- What a name stands for. -/
def get : List Pr → ByteArray → Option ByteArray
  | [], _ => none
  | p :: r, k => if eqb p.1 k = true then some p.2 else get r k
/-- A name comes to stand for something, or (d) is taken away. -/
def ins (a b : ByteArray) : List Pr → Bool → List Pr
  | [], d => if d = true then [] else [(a, b)]
  | p :: r, d => (if (!d && !lt p.1 a) = true then [(a, b)] else []) ++ ((if eqb p.1 a = true then [] else [p]) ++ ins a b r (d || !lt p.1 a))
theorem ins_true (a b : ByteArray) (L : List Pr) : ins a b L true = L.filter (fun p => !eqb p.1 a) := by
  induction L with
  | nil => rfl
  | cons p r ih =>
    simp only [ins, Bool.not_true, Bool.false_and, Bool.true_or, ih, List.filter_cons]
    cases eqb p.1 a <;> simp
theorem ins_mem {a b : ByteArray} : ∀ {L : List Pr} {d : Bool} {p : Pr}, p ∈ ins a b L d → (p = (a, b) ∧ d = false) ∨ p ∈ L
  | [], d, p, h => by cases d <;> simp [ins] at h; exact .inl ⟨h, rfl⟩
  | q :: r, d, p, h => by
    simp only [ins, List.mem_append] at h
    rcases h with h | h | h
    · split at h
      · next hc => simp at hc; exact .inl ⟨by simpa using h, hc.1⟩
      · cases h
    · split at h
      · cases h
      · exact .inr (by simp at h; simp [h])
    · rcases ins_mem h with ⟨h1, h2⟩ | h1
      · simp at h2; exact .inl ⟨h1, h2.1⟩
      · exact .inr (List.mem_cons_of_mem _ h1)
theorem ins_len (a b : ByteArray) : ∀ (L : List Pr) (d : Bool), (ins a b L d).length ≤ L.length + (if d = true then 0 else 1)
  | [], d => by cases d <;> simp [ins]
  | q :: r, d => by
    have h1 := ins_len a b r (d || !lt q.1 a)
    simp only [ins, List.length_append, List.length_cons]
    have h2 : (if eqb q.1 a = true then ([] : List Pr) else [q]).length ≤ 1 := by split <;> simp
    cases d <;> cases hl : lt q.1 a <;> simp [hl] at h1 ⊢ <;> omega
theorem srt_filter {L : List Pr} (h : Srt L) (f : Pr → Bool) : Srt (L.filter f) := List.Pairwise.filter f h
theorem srt_cons {p : Pr} {L : List Pr} (h1 : ∀ q ∈ L, lt p.1 q.1 = true) (h : Srt L) : Srt (p :: L) := List.pairwise_cons.2 ⟨h1, h⟩
theorem srt_ins (a b : ByteArray) : ∀ {L : List Pr}, Srt L → ∀ d, Srt (ins a b L d)
  | [], _, d => by cases d <;> simp [ins, Srt]
  | p :: r, h, d => by
    have hp := List.pairwise_cons.1 h
    cases d
    · cases hl : lt p.1 a
      · have e : ins a b (p :: r) false = (a, b) :: ((if eqb p.1 a = true then [] else [p]) ++ r.filter (fun p => !eqb p.1 a)) := by simp [ins, hl, ins_true]
        rw [e]
        cases hq : eqb p.1 a
        · have ha := lt_of_not hl hq
          refine srt_cons (fun q hm => ?_) (srt_cons (fun q hm => hp.1 q (List.mem_filter.1 hm).1) (srt_filter hp.2 _))
          rcases List.mem_cons.1 hm with rfl | hm
          · exact ha
          · exact lt_trans ha (hp.1 q (List.mem_filter.1 hm).1)
        · have hq := eqb_iff.1 hq
          exact srt_cons (fun q hm => hq ▸ hp.1 q (List.mem_filter.1 hm).1) (srt_filter hp.2 _)
      · have e : ins a b (p :: r) false = p :: ins a b r false := by simp [ins, hl, lt_ne hl]
        rw [e]
        refine srt_cons (fun q hm => ?_) (srt_ins a b hp.2 false)
        rcases ins_mem hm with ⟨rfl, -⟩ | hm
        · exact hl
        · exact hp.1 q hm
    · rw [ins_true]; exact srt_filter h _
theorem get_none {L : List Pr} {k : ByteArray} (h : ∀ p ∈ L, eqb p.1 k = false) : get L k = none := by
  induction L with
  | nil => rfl
  | cons p r ih =>
    simp only [get, h p (List.mem_cons_self ..), Bool.false_eq_true, if_false]
    exact ih fun q hq => h q (List.mem_cons_of_mem _ hq)
theorem get_filter (a k : ByteArray) (L : List Pr) : get (L.filter (fun p => !eqb p.1 a)) k = if eqb a k = true then none else get L k := by
  induction L with
  | nil => simp [get]
  | cons p r ih =>
    rw [List.filter_cons]
    by_cases hp : eqb p.1 a = true
    · simp only [hp, Bool.not_true, Bool.false_eq_true, if_false, ih]
      cases hk : eqb a k
      · have : eqb p.1 k = false := by rw [eqb_iff.1 hp]; exact hk
        simp [get, this]
      · rfl
    · have hp' : eqb p.1 a = false := by simpa using hp
      simp only [hp', Bool.not_false, if_true, get, ih]
      cases hk : eqb a k
      · simp
      · have : eqb p.1 k = false := by rw [← eqb_iff.1 hk]; exact hp'
        simp [this]
theorem get_ins (a b k : ByteArray) : ∀ {L : List Pr}, Srt L → ∀ d, get (ins a b L d) k = if eqb a k = true then (if d = true then none else some b) else get L k
  | [], _, d => by cases d <;> simp [ins, get]
  | p :: r, h, d => by
    have hp := List.pairwise_cons.1 h
    cases d
    · cases hl : lt p.1 a
      · have e : ins a b (p :: r) false = (a, b) :: (p :: r).filter (fun p => !eqb p.1 a) := by
          rw [List.filter_cons]
          cases hq : eqb p.1 a <;> simp [ins, hl, hq, ins_true]
        rw [e]
        simp only [get, get_filter]
        cases hk : eqb a k <;> simp
      · have e : ins a b (p :: r) false = p :: ins a b r false := by simp [ins, hl, lt_ne hl]
        rw [e]
        simp only [get, get_ins a b k hp.2 false]
        cases hk : eqb a k
        · simp
        · have : eqb p.1 k = false := by rw [← eqb_iff.1 hk]; exact lt_ne hl
          simp [this]
    · rw [ins_true, get_filter]; simp
theorem get_mem {L : List Pr} {k b : ByteArray} (h : get L k = some b) : (k, b) ∈ L := by
  induction L with
  | nil => cases h
  | cons p r ih =>
    simp only [get] at h
    split at h
    · next hq => cases h; have := eqb_iff.1 hq; subst this; exact List.mem_cons_self ..
    · exact List.mem_cons_of_mem _ (ih h)
theorem get_of_mem {L : List Pr} (hs : Srt L) {p : Pr} (h : p ∈ L) : get L p.1 = some p.2 := by
  induction L with
  | nil => cases h
  | cons q r ih =>
    have hq := List.pairwise_cons.1 hs
    rcases List.mem_cons.1 h with rfl | h
    · simp [get, eqb_self]
    · simp [get, lt_ne (hq.1 p h), ih hq.2 h]
theorem isSome_iff {L : List Pr} (hs : Srt L) {k : ByteArray} : (get L k).isSome = true ↔ k ∈ L.map (·.1) := by
  rw [List.mem_map]
  constructor
  · intro h
    obtain ⟨b, hb⟩ := Option.isSome_iff_exists.1 h
    exact ⟨(k, b), get_mem hb, rfl⟩
  · rintro ⟨p, hp, rfl⟩
    rw [get_of_mem hs hp]; rfl

/-- The place of the first '=', in bytes. -/
def eqAt : List UInt8 → Option Nat
  | [] => none
  | c :: r => if (c == 61) = true then some 0 else (eqAt r).map (· + 1)
/-- A word. -/
def word (s : ByteArray) : Option Pr :=
  match eqAt s.data.toList with
  | some (i + 1) => some (s.extract 0 (i + 1), s.extract (i + 2) s.size)
  | _ => none
def wordV (s : ByteArray) : Value :=
  match word s with
  | some p => .tuple #[.string p.1, .string p.2, .bool true]
  | none => .tuple #[.string ⟨#[]⟩, .string ⟨#[]⟩, .bool false]
/-- Done with an entry: the table, and whether it was. -/
def doo (L : List Pr) (e : Ent) : List Pr :=
  match word e.data with
  | some p => if PEnt.may e = true then ins p.1 p.2 L (decide (p.2.size = 0)) else L
  | none => L
def did (e : Ent) : Bool := (word e.data).isSome && PEnt.may e
/-- A table: rising; each has something to stand for; a name and a word are sixteen bytes at most. -/
structure Ok (L : List Pr) : Prop where
  srt : Srt L
  sz : ∀ p ∈ L, p.1.size + p.2.size ≤ 16
  val : ∀ p ∈ L, p.2.size ≠ 0
theorem Ok.nil : Ok [] := ⟨List.Pairwise.nil, by simp, by simp⟩
/-- Bytes. -/
def encW (s : ByteArray) : List Int := sev (zig s.size) ++ sb s
def encP (p : Pr) : List Int := encW p.1 ++ encW p.2
def enc : List Pr → List Int
  | [] => []
  | p :: r => encP p ++ enc r
theorem enc_append (a b : List Pr) : enc (a ++ b) = enc a ++ enc b := by
  induction a with
  | nil => rfl
  | cons p r ih => simp [enc, ih]
theorem encW_byte (s : ByteArray) : isB (encW s) := isB.append (sev_byte _) (sb_isB _)
theorem encP_byte (p : Pr) : isB (encP p) := (encW_byte _).append (encW_byte _)
theorem enc_byte : ∀ L : List Pr, isB (enc L)
  | [] => by intro x hx; cases hx
  | p :: r => (encP_byte p).append (enc_byte r)
def sum (L : List Pr) : Nat := PCrc.sum (enc L)
theorem encW_len (s : ByteArray) (h : s.size ≤ 1000000) : (encW s).length ≤ 10 + s.size := by
  have := sev_ten (zig s.size) (zig_lt _ (by omega) (by omega))
  simp only [encW, List.length_append, sb_length]
  omega
theorem encP_len {p : Pr} (h : p.1.size + p.2.size ≤ 16) : (encP p).length ≤ 36 := by
  have h1 := encW_len p.1 (by omega)
  have h2 := encW_len p.2 (by omega)
  simp only [encP, List.length_append]
  omega
theorem enc_len : ∀ {L : List Pr}, (∀ p ∈ L, p.1.size + p.2.size ≤ 16) → (enc L).length ≤ 36 * L.length
  | [], _ => by simp [enc]
  | p :: r, h => by
    have h1 := encP_len (h p (List.mem_cons_self ..))
    have h2 := enc_len (L := r) (fun q hq => h q (List.mem_cons_of_mem _ hq))
    simp only [enc, List.length_append, List.length_cons]
    omega
end Go.Proofs.YtapleleaogjcjaaDoor.PTab
