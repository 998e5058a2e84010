/- Plain mathematics of join: who is asked, which word is taken. No program is named here. -/
import Derived.Test.YtnpobagipgephaaPlainMsg
import Derived.Test.YtnpobagipgephaaPlainLog
import Derived.Test.YtnpobagipgephaaPlainTeam
namespace Go.Proofs.Ytnpobagipgephaa
namespace PJoin

/-- It answers this start; who sent it decides its view; its log is one. -/
def isAns (me boot : Int) (m : Msg) : Bool := m.kind == 11 && (m.dst == me && (m.yes && m.num == boot))
def isDec (n pro : Int) (m : Msg) : Bool := decide (0 < m.view) && (decide (pro ≤ m.view) && (m.fr == PTeam.decider m.view n && (PTeam.most m.mem n && PTeam.has m.mem.toNat m.fr)))
def isAll (m : Msg) : Bool := decide (m.com ≤ m.es.length) && (((PLog.log m.es).length : Int) == (m.es.length : Int))
theorem isAll_log {m : Msg} (h : isAll m = true) : (PLog.log m.es).length = m.es.length := by
  unfold isAll at h
  simp only [Bool.and_eq_true, beq_iff_eq] at h
  omega
def word (me n boot pro : Int) (m : Msg) : Bool := isAns me boot m && (isDec n pro m && isAll m)
/-- What is asked of one, of the first k. -/
def askM (me boot dst : Int) : Msg := ⟨10, me, dst, boot, 0, 0, 0, 0, [], 0, boot, 0, false⟩
def asks (me boot : Int) : Nat → List Msg
  | 0 => []
  | k + 1 => asks me boot k ++ if (k : Int) + 1 = me then [] else [askM me boot (k + 1)]
theorem asks_me {me boot : Int} {k : Nat} (h : (k : Int) + 1 = me) : asks me boot (k + 1) = asks me boot k := by simp [asks, h]
theorem asks_not {me boot : Int} {k : Nat} (h : (k : Int) + 1 ≠ me) : asks me boot (k + 1) = asks me boot k ++ [askM me boot (k + 1)] := by simp [asks, h]
theorem asks_lt {me boot : Int} : ∀ {k : Nat}, (k : Int) < me → (asks me boot k).length = k
  | 0, _ => rfl
  | k + 1, h => by rw [asks_not (by omega), List.length_append, asks_lt (by omega)]; rfl
theorem asks_ge {me boot : Int} (h1 : 1 ≤ me) : ∀ {k : Nat}, me ≤ k → (asks me boot k).length + 1 = k
  | 0, h => by omega
  | k + 1, h => by
    by_cases he : (k : Int) + 1 = me
    · rw [asks_me he, asks_lt (by omega)]
    · rw [asks_not he, List.length_append, List.length_singleton]
      have := asks_ge h1 (boot := boot) (k := k) (by omega)
      omega
theorem asks_at {me boot : Int} (h1 : 1 ≤ me) : ∀ {k i : Nat}, i < (asks me boot k).length → (asks me boot k)[i]? = some (askM me boot (if (i : Int) + 1 < me then (i : Int) + 1 else (i : Int) + 2))
  | 0, i, h => by simp [asks] at h
  | k + 1, i, h => by
    by_cases he : (k : Int) + 1 = me
    · rw [asks_me he] at h ⊢; exact asks_at h1 h
    · rw [asks_not he] at h ⊢
      by_cases hi : i < (asks me boot k).length
      · rw [List.getElem?_append_left hi]; exact asks_at h1 hi
      · have hl : i = (asks me boot k).length := by rw [List.length_append, List.length_singleton] at h; omega
        subst hl
        rw [List.getElem?_append_right (Nat.le_refl _)]
        simp only [Nat.sub_self, List.getElem?_cons_zero]
        congr 2
        by_cases hk : (k : Int) < me
        · rw [asks_lt hk]; rw [if_pos (by omega)]
        · have := asks_ge h1 (boot := boot) (k := k) (by omega)
          rw [if_neg (by omega)]; omega
end PJoin
end Go.Proofs.Ytnpobagipgephaa
