/- TableLast as plain data: two names. -/
import Derived.Test.YtapleleaogjcjaaDoorTabB
namespace Go.Proofs.YtapleleaogjcjaaDoor.PTab
open Go.RowKit PNum

def kk : ByteArray := ⟨#[107]⟩
def pp : ByteArray := ⟨#[112]⟩
theorem lt_kp : lt kk pp = true := lt_iff.2 (by decide)
theorem lt_pk : lt pp kk = false := by
  cases h : lt pp kk
  · rfl
  · exact absurd (lt_iff.1 h) (by decide)
theorem eq_kp : eqb kk pp = false := lt_ne lt_kp
theorem eq_pk : eqb pp kk = false := lt_ne' lt_kp
def Kv (v : ByteArray) : List Pr := if v.size = 0 then [] else [(kk, v)]
def Mp (i : Nat) (y : ByteArray) : List Pr := if i = 0 then [] else [(pp, y)]
theorem last_k (u v y : ByteArray) (i : Nat) : ins kk v (Kv u ++ Mp i y) (decide (v.size = 0)) = Kv v ++ Mp i y := by
  by_cases hv : v.size = 0
  · rw [decide_eq_true hv, ins_true]
    unfold Kv Mp
    by_cases hu : u.size = 0 <;> by_cases hi : i = 0 <;> simp [hu, hi, hv, eqb_self, eq_pk]
  · rw [decide_eq_false hv]
    unfold Kv Mp
    by_cases hu : u.size = 0 <;> by_cases hi : i = 0 <;> simp [hu, hi, hv, eqb_self, eq_pk, ins, lt_pk, lt_irrefl]
theorem last_p (v y : ByteArray) (i : Nat) : ins pp y (Kv v ++ Mp i y) false = Kv v ++ Mp (i + 1) y := by
  unfold Kv Mp
  by_cases hv : v.size = 0 <;> by_cases hi : i = 0 <;> simp [hv, hi, eqb_self, eq_kp, ins, lt_kp, lt_irrefl]
theorem get_k (v y : ByteArray) (i : Nat) : get (Kv v ++ Mp i y) kk = if v.size = 0 then none else some v := by
  unfold Kv Mp
  by_cases hv : v.size = 0 <;> by_cases hi : i = 0 <;> simp [hv, hi, get, eqb_self, eq_pk]
theorem get_p (v y : ByteArray) (i : Nat) : get (Kv v ++ Mp i y) pp = if i = 0 then none else some y := by
  unfold Kv Mp
  by_cases hv : v.size = 0 <;> by_cases hi : i = 0 <;> simp [hv, hi, get, eqb_self, eq_kp]
theorem len_kp (v y : ByteArray) (i : Nat) : (Kv v ++ Mp i y).length = (if v.size = 0 then 0 else 1) + (if i = 0 then 0 else 1) := by
  unfold Kv Mp
  by_cases hv : v.size = 0 <;> by_cases hi : i = 0 <;> simp [hv, hi]
theorem word_two (c : UInt8) (hc : (c == 61) = false) (v : ByteArray) : word (⟨#[c, 61]⟩ ++ v) = some (⟨#[c]⟩, v) := by
  have h : (⟨#[c, 61]⟩ ++ v : ByteArray).data.toList = c :: 61 :: v.data.toList := by simp
  have e : eqAt (⟨#[c, 61]⟩ ++ v : ByteArray).data.toList = some 1 := by
    rw [h]; simp [eqAt, hc]
  unfold word
  rw [e]
  have e1 : (⟨#[c, 61]⟩ ++ v : ByteArray).extract 0 1 = ⟨#[c]⟩ := data_inj (by simp)
  have e2 : (⟨#[c, 61]⟩ ++ v : ByteArray).extract 2 (⟨#[c, 61]⟩ ++ v : ByteArray).size = v := data_inj (by
    simp
    exact List.take_of_length_le (by rw [Array.length_toList]; show v.size ≤ 2 + v.size - 2; omega))
  show some ((⟨#[c, 61]⟩ ++ v : ByteArray).extract 0 1, (⟨#[c, 61]⟩ ++ v : ByteArray).extract 2 (⟨#[c, 61]⟩ ++ v : ByteArray).size) = _
  rw [e1, e2]
theorem word_k (v : ByteArray) : word (⟨#[107, 61]⟩ ++ v) = some (kk, v) := word_two 107 rfl v
theorem word_p (n : Int) : word (strOfNums [112, 61, n]) = some (pp, strOfNums [n]) := by
  have : strOfNums [112, 61, n] = ⟨#[112, 61]⟩ ++ strOfNums [n] := data_inj (by simp [strOfNums])
  rw [this]
  exact word_two 112 rfl _
def entS (s : Int) (d : ByteArray) : Ent := ⟨1, 1, s, 0, 0, 0, d⟩
theorem may_entS {s : Int} {d : ByteArray} (h1 : 1 ≤ s) (h2 : s ≤ 1000) (h3 : d.size ≤ 16) : PEnt.may (entS s d) = true := by
  rw [PEnt.may_iff]
  simp only [PEnt.May, entS]
  omega
theorem doo_some {L : List Pr} {e : Ent} {a b : ByteArray} (hw : word e.data = some (a, b)) (hm : PEnt.may e = true) : did e = true ∧ doo L e = ins a b L (decide (b.size = 0)) := by
  refine ⟨by unfold did; rw [hw, hm]; rfl, ?_⟩
  unfold doo; rw [hw]; simp only [hm, if_true]
theorem doo_k {u v y : ByteArray} {i : Nat} {s : Int} (h1 : 1 ≤ s) (h2 : s ≤ 1000) (h3 : v.size ≤ 14) : did (entS s (⟨#[107, 61]⟩ ++ v)) = true ∧ doo (Kv u ++ Mp i y) (entS s (⟨#[107, 61]⟩ ++ v)) = Kv v ++ Mp i y := by
  have hz : (⟨#[107, 61]⟩ ++ v : ByteArray).size ≤ 16 := by
    rw [ByteArray.size_append]; show 2 + v.size ≤ 16; omega
  obtain ⟨d1, d2⟩ := doo_some (L := Kv u ++ Mp i y) (e := entS s ((⟨#[107, 61]⟩ : ByteArray) ++ v)) (word_k v) (may_entS h1 h2 hz)
  exact ⟨d1, d2.trans (last_k u v y i)⟩
theorem doo_p {v : ByteArray} {n : Int} {i : Nat} {s : Int} (h1 : 1 ≤ s) (h2 : s ≤ 1000) : did (entS s (strOfNums [112, 61, n])) = true ∧ doo (Kv v ++ Mp i (strOfNums [n])) (entS s (strOfNums [112, 61, n])) = Kv v ++ Mp (i + 1) (strOfNums [n]) := by
  have hz : (strOfNums [112, 61, n]).size ≤ 16 := by rw [strOfNums_size]; show 3 ≤ 16; omega
  obtain ⟨d1, d2⟩ := doo_some (L := Kv v ++ Mp i (strOfNums [n])) (e := entS s (strOfNums [112, 61, n])) (word_p n) (may_entS h1 h2 hz)
  refine ⟨d1, d2.trans ?_⟩
  rw [show decide ((strOfNums [n]).size = 0) = false by rw [strOfNums_size]; rfl]
  exact last_p v _ i
end Go.Proofs.YtapleleaogjcjaaDoor.PTab
