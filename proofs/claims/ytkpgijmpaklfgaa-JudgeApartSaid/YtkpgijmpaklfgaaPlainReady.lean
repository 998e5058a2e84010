/- Plain mathematics of what may be told: one way through a list, and again and again from its beginning. No program is named here. -/
import Derived.Test.YtkpgijmpaklfgaaPlainLog
namespace Go.Proofs.Ytkpgijmpaklfgaa
namespace PReady
open PEnt PLog

/-- What was told: its place, the entry. -/
abbrev Tl := Int × Ent
/-- A Same one was told. -/
def has (T : List Tl) (e : Ent) : Bool := T.any (fun t => same t.2 e)
/-- Of those ahead some were not told: one at all, a Total one, a Timed one. -/
structure Fl where
  so : Bool
  tot : Bool
  tim : Bool
def Fl.none : Fl := ⟨false, false, false⟩
def Fl.add (u : Fl) (o : Int) : Fl := ⟨true, u.tot || decide (o = 1), u.tim || decide (o = 2)⟩
def level (u : Fl) (at' commit : Int) (l : Int) : Bool := decide (l = 0) || (decide (l = 1) && decide (at' ≤ commit)) || (decide (l = 2) && decide (at' ≤ commit) && !u.so)
def held (stamp now : Int) : Bool := decide (stamp ≤ 9223372036854775804) && decide (stamp + 3 ≤ now)
def order (u : Fl) (now : Int) (o stamp : Int) : Bool := decide (o = 0) || (decide (o = 1) && !u.tot) || (decide (o = 2) && held stamp now && !u.tim)
def lets (u : Fl) (at' commit now : Int) (e : Ent) : Bool := level u at' commit e.lev && order u now e.ord e.stamp
/-- The least place of one that may be told, and it; i stand ahead. -/
def least (commit now : Int) (T : List Tl) : Nat → Fl → List Ent → Option Tl
  | _, _, [] => none
  | i, u, e :: r => if has T e then least commit now T (i + 1) u r else if lets u ((i : Int) + 1) commit now e then some ((i : Int) + 1, e) else least commit now T (i + 1) (u.add e.ord) r
/-- Those that are told on one way through. -/
def pass (commit now : Int) : Nat → Fl → List Tl → List Ent → List Tl
  | _, _, _, [] => []
  | i, u, T, e :: r => if has T e then pass commit now (i + 1) u T r else if lets u ((i : Int) + 1) commit now e then ((i : Int) + 1, e) :: pass commit now (i + 1) u (T ++ [((i : Int) + 1, e)]) r else pass commit now (i + 1) (u.add e.ord) T r
def go (commit now : Int) (T : List Tl) (l : List Ent) : List Tl := pass commit now 0 Fl.none T l
/-- The place that the program looks for: 0 if there is none. -/
def spot : Option Tl → Int
  | none => 0
  | some t => t.1

theorem has_append (T S : List Tl) (e : Ent) : has (T ++ S) e = (has T e || has S e) := by unfold has; rw [List.any_append]
theorem has_snoc (T : List Tl) (t : Tl) (e : Ent) : has (T ++ [t]) e = (has T e || same t.2 e) := by rw [has_append]; simp [has]

/-- No two that are Same. -/
def Apart (l : List Ent) : Prop := l.Pairwise (fun a b => same a b = false)
theorem same_comm (a b : Ent) : same a b = same b a := by
  simp only [same]
  have h : ∀ x y : Int, (x == y) = (y == x) := fun x y => Bool.eq_iff_iff.2 (by rw [beq_iff_eq, beq_iff_eq]; exact eq_comm)
  rw [h a.fr, h a.boot, h a.seq]

theorem pass_none {commit now : Int} {T : List Tl} : ∀ {l : List Ent} {i : Nat} {u : Fl}, least commit now T i u l = none → pass commit now i u T l = []
  | [], _, _, _ => rfl
  | e :: r, i, u, h => by
    simp only [least] at h
    simp only [pass]
    split
    · next h1 => rw [if_pos h1] at h; exact pass_none h
    · next h1 =>
      rw [if_neg h1] at h
      split
      · next h2 => rw [if_pos h2] at h; cases h
      · next h2 => rw [if_neg h2] at h; exact pass_none h
theorem least_mem {commit now : Int} {T : List Tl} : ∀ {l : List Ent} {i : Nat} {u : Fl} {t : Tl}, least commit now T i u l = some t → ∃ k : Nat, l[k]? = some t.2 ∧ t.1 = (i : Int) + k + 1 ∧ has T t.2 = false
  | e :: r, i, u, t, h => by
    simp only [least] at h
    split at h
    · obtain ⟨k, h1, h2, h3⟩ := least_mem h
      exact ⟨k + 1, by simpa using h1, by rw [h2]; omega, h3⟩
    · split at h
      · next h1 _ =>
        cases h
        exact ⟨0, rfl, by simp, by simpa using h1⟩
      · obtain ⟨k, h1, h2, h3⟩ := least_mem h
        exact ⟨k + 1, by simpa using h1, by rw [h2]; omega, h3⟩
theorem pass_some {commit now : Int} {T : List Tl} : ∀ {l : List Ent} {i : Nat} {u : Fl} {t : Tl}, Apart l → least commit now T i u l = some t → pass commit now i u T l = t :: pass commit now i u (T ++ [t]) l
  | e :: r, i, u, t, hA, h => by
    obtain ⟨hA1, hA2⟩ := List.pairwise_cons.1 hA
    simp only [least] at h
    simp only [pass]
    by_cases h1 : has T e = true
    · rw [if_pos h1] at h
      rw [if_pos h1, pass_some hA2 h, if_pos (by rw [has_snoc, h1]; rfl)]
    · rw [if_neg h1] at h
      rw [if_neg h1]
      by_cases h2 : lets u ((i : Int) + 1) commit now e = true
      · rw [if_pos h2] at h
        cases h
        rw [if_pos h2, if_pos (by rw [has_snoc, same_self]; simp)]
      · rw [if_neg h2] at h
        rw [if_neg h2, pass_some hA2 h]
        obtain ⟨k, hk, _, _⟩ := least_mem h
        have hs : same t.2 e = false := by rw [same_comm]; exact hA1 _ (List.mem_of_getElem? hk)
        have h1' : has T e = false := by simpa using h1
        rw [if_neg (by rw [has_snoc, h1', hs]; simp), if_neg h2]

theorem pass_mem {commit now : Int} : ∀ {l : List Ent} {i : Nat} {u : Fl} {T : List Tl} {t : Tl}, t ∈ pass commit now i u T l → ∃ k : Nat, l[k]? = some t.2 ∧ t.1 = (i : Int) + k + 1
  | e :: r, i, u, T, t, h => by
    simp only [pass] at h
    split at h
    · obtain ⟨k, h1, h2⟩ := pass_mem h
      exact ⟨k + 1, by simpa using h1, by rw [h2]; omega⟩
    · split at h
      · rcases List.mem_cons.1 h with rfl | h
        · exact ⟨0, rfl, by simp⟩
        · obtain ⟨k, h1, h2⟩ := pass_mem h
          exact ⟨k + 1, by simpa using h1, by rw [h2]; omega⟩
      · obtain ⟨k, h1, h2⟩ := pass_mem h
        exact ⟨k + 1, by simpa using h1, by rw [h2]; omega⟩
theorem pass_len {commit now : Int} : ∀ (l : List Ent) (i : Nat) (u : Fl) (T : List Tl), (pass commit now i u T l).length ≤ l.length
  | [], _, _, _ => by simp [pass]
  | e :: r, i, u, T => by
    simp only [pass]
    split
    · have := pass_len (commit := commit) (now := now) r (i + 1) u T; simp only [List.length_cons]; omega
    · split
      · have := pass_len (commit := commit) (now := now) r (i + 1) u (T ++ [((i : Int) + 1, e)]); simp only [List.length_cons]; omega
      · have := pass_len (commit := commit) (now := now) r (i + 1) (u.add e.ord) T; simp only [List.length_cons]; omega
theorem go_len (commit now : Int) (T : List Tl) (l : List Ent) : (go commit now T l).length ≤ l.length := pass_len _ _ _ _
theorem go_mem {commit now : Int} {T : List Tl} {l : List Ent} {t : Tl} (h : t ∈ go commit now T l) : t.2 ∈ l := by
  obtain ⟨k, hk, _⟩ := pass_mem h
  exact List.mem_of_getElem? hk
theorem go_at {commit now : Int} {T : List Tl} {l : List Ent} {t : Tl} (h : t ∈ go commit now T l) : ∃ k : Nat, l[k]? = some t.2 ∧ t.1 = (k : Int) + 1 := by
  obtain ⟨k, hk, h2⟩ := pass_mem h
  exact ⟨k, hk, by rw [h2]; simp⟩

/-- A list by its parts: what the loops of both sides meet. -/
theorem least_step {commit now : Int} {T : List Tl} {l : List Ent} {i : Nat} {u : Fl} {e : Ent} (he : l[i]? = some e) : least commit now T i u (l.drop i) =
    if has T e then least commit now T (i + 1) u (l.drop (i + 1)) else if lets u ((i : Int) + 1) commit now e then some ((i : Int) + 1, e) else least commit now T (i + 1) (u.add e.ord) (l.drop (i + 1)) := by
  obtain ⟨hi, rfl⟩ := List.getElem?_eq_some_iff.1 he
  rw [List.drop_eq_getElem_cons hi]; rfl
theorem pass_step {commit now : Int} {T : List Tl} {l : List Ent} {i : Nat} {u : Fl} {e : Ent} (he : l[i]? = some e) : pass commit now i u T (l.drop i) =
    if has T e then pass commit now (i + 1) u T (l.drop (i + 1)) else if lets u ((i : Int) + 1) commit now e then ((i : Int) + 1, e) :: pass commit now (i + 1) u (T ++ [((i : Int) + 1, e)]) (l.drop (i + 1)) else pass commit now (i + 1) (u.add e.ord) T (l.drop (i + 1)) := by
  obtain ⟨hi, rfl⟩ := List.getElem?_eq_some_iff.1 he
  rw [List.drop_eq_getElem_cons hi]; rfl
theorem least_done {commit now : Int} {T : List Tl} {l : List Ent} {i : Nat} {u : Fl} (h : l.length ≤ i) : least commit now T i u (l.drop i) = none := by rw [List.drop_of_length_le h]; rfl
theorem pass_done {commit now : Int} {T : List Tl} {l : List Ent} {i : Nat} {u : Fl} (h : l.length ≤ i) : pass commit now i u T (l.drop i) = [] := by rw [List.drop_of_length_le h]; rfl
/-- One step of the program's loop: X is what was told so far. -/
theorem go_none {commit now : Int} {T X : List Tl} {l : List Ent} (hX : go commit now T l = X ++ go commit now (T ++ X) l) (h : least commit now (T ++ X) 0 Fl.none l = none) : go commit now T l = X := by
  rw [hX]
  have : go commit now (T ++ X) l = [] := pass_none h
  rw [this, List.append_nil]
theorem go_some {commit now : Int} {T X : List Tl} {l : List Ent} {t : Tl} (hA : Apart l) (hX : go commit now T l = X ++ go commit now (T ++ X) l) (h : least commit now (T ++ X) 0 Fl.none l = some t) :
    go commit now T l = (X ++ [t]) ++ go commit now (T ++ (X ++ [t])) l := by
  rw [hX]
  have : go commit now (T ++ X) l = t :: go commit now (T ++ X ++ [t]) l := pass_some hA h
  rw [this, List.append_assoc, List.append_assoc]
  rfl
/-- A log has no two that are Same. -/
theorem apart_snoc {l : List Ent} {e : Ent} (h : Apart l) (he : PLog.has l e = false) : Apart (l ++ [e]) := by
  unfold Apart
  rw [List.pairwise_append]
  refine ⟨h, by simp, fun a ha b hb => ?_⟩
  rw [List.mem_singleton.1 hb]
  have := List.any_eq_false.1 he a ha
  simpa using this
theorem has_of_can {L : List Ent} {e : Ent} (h : PLog.can L e = true) : PLog.has L e = false := by
  unfold PLog.can at h
  simp only [Bool.and_eq_true, Bool.not_eq_true'] at h
  exact h.2
theorem may_of_can {L : List Ent} {e : Ent} (h : PLog.can L e = true) : PEnt.may e = true := by
  unfold PLog.can at h
  simp only [Bool.and_eq_true, Bool.not_eq_true'] at h
  exact h.1.1.1
theorem add_apart {L : List Ent} (e : Ent) (h : Apart L) : Apart (PLog.add L e) := by
  unfold PLog.add
  split
  · next hc => exact apart_snoc h (has_of_can hc)
  · exact h
theorem foldl_apart : ∀ (es L : List Ent), Apart L → Apart (es.foldl PLog.add L)
  | [], _, h => h
  | e :: r, _, h => foldl_apart r _ (add_apart e h)
theorem log_apart (es : List Ent) : Apart (PLog.log es) := foldl_apart es [] List.Pairwise.nil
theorem foldl_may : ∀ (es L : List Ent), (∀ e ∈ L, PEnt.may e = true) → ∀ e ∈ es.foldl PLog.add L, PEnt.may e = true
  | [], _, h => h
  | x :: r, _, h => foldl_may r _ (by
    unfold PLog.add
    split
    · next hc =>
      intro e he
      rcases List.mem_append.1 he with he | he
      · exact h e he
      · rw [List.mem_singleton.1 he]; exact may_of_can hc
    · exact h)
theorem log_may (es : List Ent) : ∀ e ∈ PLog.log es, PEnt.may e = true := foldl_may es [] (by simp)
theorem foldl_len : ∀ (es L : List Ent), (es.foldl PLog.add L).length ≤ L.length + es.length
  | [], _ => by simp
  | e :: r, L => by
    have h1 := foldl_len r (PLog.add L e)
    have h2 : (PLog.add L e).length ≤ L.length + 1 := by unfold PLog.add; split <;> simp
    simp only [List.foldl_cons, List.length_cons]; omega
theorem log_len (es : List Ent) : (PLog.log es).length ≤ es.length := by unfold PLog.log; have := foldl_len es []; simpa using this

end PReady
end Go.Proofs.Ytkpgijmpaklfgaa
