/- Plain mathematics of logs: what may be added, put, what is the beginning of what. No program is named here. -/
import Derived.Test.YtkpgijmpaklfgaaPlainEnt
namespace Go.Proofs.Ytkpgijmpaklfgaa
namespace PLog
open PEnt

/-- A Same one is there; its stamp is below the last one's; it can be added. -/
def has (L : List Ent) (e : Ent) : Bool := L.any (fun x => same x e)
def early (L : List Ent) (e : Ent) : Bool := match L.getLast? with
  | some x => decide (e.stamp < x.stamp)
  | none => false
def can (L : List Ent) (e : Ent) : Bool := may e && decide (L.length < 60) && !early L e && !has L e
def add (L : List Ent) (e : Ent) : List Ent := if can L e then L ++ [e] else L
def log (es : List Ent) : List Ent := es.foldl add []
/-- All can be added, one by one. -/
def okN : List Ent → List Ent → Bool
  | _, [] => true
  | L, e :: r => can L e && okN (L ++ [e]) r
def addN (L es : List Ent) : List Ent := if okN L es then L ++ es else L
/-- a is b's beginning. -/
def front (a b : List Ent) : Bool := decide (a.length ≤ b.length) && eqL a (b.take a.length)
/-- es stand at the beginning of M, or go on behind it and can be added to L. -/
def putM : List Ent → List Ent → List Ent → Bool
  | [], L, es => okN L es
  | _ :: _, _, [] => true
  | x :: M, L, e :: es => eqE e x && putM M L es
def okPut (L : List Ent) (k : Nat) (es : List Ent) : Bool := putM (L.drop k) L es
def put (L : List Ent) (k : Nat) (es : List Ent) : List Ent := if okPut L k es then L ++ es.drop (L.length - k) else L

theorem eqE_comm (a b : Ent) : eqE a b = eqE b a := by
  cases h : eqE a b
  · cases h' : eqE b a
    · rfl
    · rw [(eqE_iff b a).1 h'] at h; rw [(eqE_iff a a).2 rfl] at h; cases h
  · rw [(eqE_iff a b).1 h, (eqE_iff b b).2 rfl]
theorem eqE_self (a : Ent) : eqE a a = true := (eqE_iff a a).2 rfl
theorem eqL_self (l : List Ent) : eqL l l = true := (eqL_iff l l).2 rfl
theorem same_self (a : Ent) : same a a = true := by simp [same]
theorem front_iff (a b : List Ent) : front a b = true ↔ a <+: b := by
  unfold front
  rw [Bool.and_eq_true, decide_eq_true_eq, eqL_iff]
  constructor
  · rintro ⟨_, h⟩; rw [h]; exact List.take_prefix _ _
  · intro h; exact ⟨h.length_le, (List.prefix_iff_eq_take.1 h)⟩
theorem front_nil (b : List Ent) : front [] b = true := by simp [front, eqL]
theorem front_cons (e x : Ent) (a b : List Ent) : front (e :: a) (x :: b) = (eqE e x && front a b) := by
  show (decide (a.length + 1 ≤ b.length + 1) && (eqE e x && eqL a (b.take a.length))) = (eqE e x && (decide (a.length ≤ b.length) && eqL a (b.take a.length)))
  have h : decide (a.length + 1 ≤ b.length + 1) = decide (a.length ≤ b.length) := by
    by_cases h : a.length ≤ b.length
    · rw [decide_eq_true h, decide_eq_true (by omega)]
    · rw [decide_eq_false h, decide_eq_false (by omega)]
  rw [h]
  cases decide (a.length ≤ b.length) <;> cases eqE e x <;> rfl
theorem putM_front : ∀ (M L es : List Ent), putM M L es = (front (es.take M.length) M && okN L (es.drop M.length))
  | [], L, es => by simp [putM, front, eqL]
  | x :: M, L, [] => by simp [putM, front, eqL, okN]
  | x :: M, L, e :: es => by
    have ih := putM_front M L es
    show (eqE e x && putM M L es) = (front (e :: es.take M.length) (x :: M) && okN L (es.drop M.length))
    rw [front_cons, ih, Bool.and_assoc]
theorem okN_append (L a b : List Ent) : okN L (a ++ b) = (okN L a && okN (L ++ a) b) := by
  induction a generalizing L with
  | nil => simp [okN]
  | cons e r ih => simp [okN, ih, Bool.and_assoc]
theorem add_len {L : List Ent} (h : L.length ≤ 60) (e : Ent) : (add L e).length ≤ 60 := by
  unfold add; split
  · next hc => simp only [can, Bool.and_eq_true, decide_eq_true_eq] at hc; simp; omega
  · exact h
theorem can_lt {L : List Ent} {e : Ent} (h : can L e = true) : L.length < 60 := by
  simp only [can, Bool.and_eq_true, decide_eq_true_eq] at h; exact h.1.1.2
theorem log_append (a : List Ent) (e : Ent) : log (a ++ [e]) = add (log a) e := by simp [log]
theorem foldl_ok (es : List Ent) : ∀ L, okN [] L = true → okN [] (es.foldl add L) = true := by
  induction es with
  | nil => intro L h; exact h
  | cons e r ih =>
    intro L h
    refine ih _ ?_
    unfold add; split
    · next hc => rw [okN_append, h]; simp [okN, hc]
    · exact h
/-- A log: each can be added to those ahead of it. -/
theorem log_ok (es : List Ent) : okN [] (log es) = true := foldl_ok es [] rfl
theorem okN_foldl (es : List Ent) : ∀ L, okN L es = true → es.foldl add L = L ++ es := by
  induction es with
  | nil => intro L _; simp
  | cons e r ih =>
    intro L h
    simp only [okN, Bool.and_eq_true] at h
    rw [List.foldl_cons, add, if_pos h.1, ih _ h.2, List.append_assoc]; rfl
theorem log_of_ok {L : List Ent} (h : okN [] L = true) : log L = L := by rw [log, okN_foldl L [] h, List.nil_append]
theorem ok_take {L : List Ent} (h : okN [] L = true) (n : Nat) : okN [] (L.take n) = true ∧ okN (L.take n) (L.drop n) = true := by
  have h2 := okN_append [] (L.take n) (L.drop n)
  rw [List.take_append_drop, h, List.nil_append] at h2
  simpa using h2.symm
theorem okN_take {L a : List Ent} (h : okN L a = true) (n : Nat) : okN L (a.take n) = true := by
  have h2 := okN_append L (a.take n) (a.drop n)
  rw [List.take_append_drop, h] at h2
  have h3 : okN L (List.take n a) = true ∧ okN (L ++ List.take n a) (List.drop n a) = true := by simpa using h2.symm
  exact h3.1
theorem foldl_len (es : List Ent) : ∀ L : List Ent, L.length ≤ 60 → (es.foldl add L).length ≤ 60 := by
  induction es with
  | nil => intro L h; exact h
  | cons e r ih => intro L h; exact ih _ (add_len h e)
theorem log_len (es : List Ent) : (log es).length ≤ 60 := foldl_len es [] (by simp)
theorem okN_len {L es : List Ent} (hL : L.length ≤ 60) (h : okN L es = true) : (L ++ es).length ≤ 60 := by
  rw [← okN_foldl es L h]; exact foldl_len es L hL
/-- Each entry of a log may be. -/
theorem okN_may : ∀ (es : List Ent) (L : List Ent), okN L es = true → ∀ e ∈ es, may e = true
  | [], _, _, e, he => by simp at he
  | x :: r, L, h, e, he => by
    simp only [okN, Bool.and_eq_true] at h
    rcases List.mem_cons.1 he with rfl | he
    · have := h.1; simp only [can, Bool.and_eq_true] at this; exact this.1.1.1
    · exact okN_may r _ h.2 e he
theorem mem_log {es : List Ent} {e : Ent} (h : e ∈ log es) : e ∈ es := by
  have : ∀ (es L : List Ent), e ∈ es.foldl add L → e ∈ L ∨ e ∈ es := by
    intro es
    induction es with
    | nil => intro L h; exact .inl h
    | cons x r ih =>
      intro L h
      rcases ih _ h with h | h
      · unfold add at h
        split at h
        · rcases List.mem_append.1 h with h | h
          · exact .inl h
          · rw [List.mem_singleton.1 h]; exact .inr (List.mem_cons_self ..)
        · exact .inl h
      · exact .inr (List.mem_cons_of_mem _ h)
  rcases this es [] h with h | h
  · simp at h
  · exact h
/-- At place i of a log: no Same one ahead, no greater stamp just ahead. -/
theorem ok_at {L : List Ent} (h : okN [] L = true) {i : Nat} {e : Ent} (he : L[i]? = some e) : can (L.take i) e = true := by
  obtain ⟨hi, hx⟩ := List.getElem?_eq_some_iff.1 he
  have h2 := (ok_take h i).2
  rw [List.drop_eq_getElem_cons hi, hx] at h2
  simp only [okN, Bool.and_eq_true] at h2
  exact h2.1
theorem ok_twin {L : List Ent} (h : okN [] L = true) {i k : Nat} {e x : Ent} (he : L[i]? = some e) (hk : L[k]? = some x) (hki : k < i) : same e x = false := by
  have h2 := ok_at h he
  simp only [can, Bool.and_eq_true, Bool.not_eq_true'] at h2
  have h3 := h2.2
  unfold has at h3
  rw [List.any_eq_false] at h3
  obtain ⟨hk1, hk2⟩ := List.getElem?_eq_some_iff.1 hk
  have hm : x ∈ L.take i := by
    rw [← hk2]
    have hkl : k < (L.take i).length := by rw [List.length_take]; omega
    have : (L.take i)[k] = L[k] := List.getElem_take ..
    rw [← this]; exact List.getElem_mem hkl
  have h4 := h3 x hm
  have h5 : same x e = false := by simpa using h4
  have h6 : same e x = same x e := by
    unfold same
    congr 1
    · congr 1
      · by_cases q : e.fr = x.fr
        · rw [q]
        · rw [beq_false_of_ne q, beq_false_of_ne (Ne.symm q)]
      · by_cases q : e.boot = x.boot
        · rw [q]
        · rw [beq_false_of_ne q, beq_false_of_ne (Ne.symm q)]
    · by_cases q : e.seq = x.seq
      · rw [q]
      · rw [beq_false_of_ne q, beq_false_of_ne (Ne.symm q)]
  rw [h6, h5]
theorem ok_stamp {L : List Ent} (h : okN [] L = true) {i : Nat} {e x : Ent} (he : L[i + 1]? = some e) (hx : L[i]? = some x) : x.stamp ≤ e.stamp := by
  have h2 := ok_at h he
  simp only [can, Bool.and_eq_true, Bool.not_eq_true'] at h2
  have h3 := h2.1.2
  obtain ⟨hi, hx'⟩ := List.getElem?_eq_some_iff.1 hx
  have hl : (L.take (i + 1)).getLast? = some x := by
    rw [List.getLast?_eq_getElem?, List.length_take, List.getElem?_take]
    have : min (i + 1) L.length - 1 = i := by omega
    rw [this, if_pos (by omega), hx]
  unfold early at h3
  rw [hl] at h3
  simp only [decide_eq_false_iff_not] at h3
  omega
theorem has_mem {L : List Ent} {e : Ent} (h : e ∈ L) : has L e = true := by
  unfold has
  rw [List.any_eq_true]
  exact ⟨e, h, same_self e⟩
/-- A piece of a log W, put at a place of the log's beginning. -/
theorem put_piece {W : List Ent} (h : okN [] W = true) {m k : Nat} (hm : m ≤ W.length) (hk : k ≤ m) (j : Nat) :
    okPut (W.take m) k ((W.drop k).take j) = true ∧ put (W.take m) k ((W.drop k).take j) = W.take (max m (min W.length (k + j))) := by
  have hl : (W.take m).length = m := by rw [List.length_take]; omega
  have hd : ((W.take m).drop k).length = m - k := by rw [List.length_drop, hl]
  have e1 : ((W.drop k).take j).drop (m - k) = (W.drop m).take (j - (m - k)) := by
    rw [List.drop_take, List.drop_drop]
    congr 2; omega
  have ok : okPut (W.take m) k ((W.drop k).take j) = true := by
    unfold okPut
    rw [putM_front, Bool.and_eq_true, hd, e1]
    refine ⟨(front_iff _ _).2 ?_, okN_take (ok_take h m).2 _⟩
    have e2 : (W.take m).drop k = (W.drop k).take (m - k) := by rw [List.drop_take]
    rw [e2, List.take_take]
    exact List.take_prefix_take_left (Nat.min_le_left ..)
  refine ⟨ok, ?_⟩
  unfold put
  rw [if_pos ok, hl, e1, ← List.take_add]
  by_cases hj : m ≤ k + j
  · by_cases hw : k + j ≤ W.length
    · congr 1; omega
    · rw [List.take_of_length_le (by omega), List.take_of_length_le (by omega)]
  · congr 1; omega
end PLog
end Go.Proofs.Ytkpgijmpaklfgaa
