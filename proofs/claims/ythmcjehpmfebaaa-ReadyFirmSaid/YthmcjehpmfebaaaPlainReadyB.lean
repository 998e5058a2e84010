/- Plain mathematics of what was told: how many, in which order, of what it says what stands ahead. No program is named here. -/
import Derived.Test.YthmcjehpmfebaaaPlainReady
namespace Go.Proofs.Ythmcjehpmfebaaa
namespace PReady
open PEnt PLog

theorem has_mono {T S : List Tl} {e : Ent} (h : has T e = true) : has (T ++ S) e = true := by rw [has_append, h]; rfl
theorem has_mem {T : List Tl} {t : Tl} (h : t ∈ T) : has T t.2 = true := by
  unfold has
  rw [List.any_eq_true]
  exact ⟨t, h, same_self _⟩
theorem has_none {T : List Tl} {e : Ent} (h : ∀ t ∈ T, same t.2 e = false) : has T e = false := by
  unfold has
  rw [List.any_eq_false]
  intro t ht
  rw [h t ht]; simp
/-- So many were not told. -/
def unt (T : List Tl) (l : List Ent) : Nat := l.countP (fun e => !has T e)
theorem unt_cons (T : List Tl) (e : Ent) (r : List Ent) : unt T (e :: r) = unt T r + if has T e = true then 0 else 1 := by
  unfold unt
  rw [List.countP_cons]
  cases has T e <;> simp
theorem unt_congr {T S : List Tl} : ∀ {l : List Ent}, (∀ e ∈ l, has T e = has S e) → unt T l = unt S l
  | [], _ => rfl
  | e :: r, h => by
    rw [unt_cons, unt_cons, h e (List.mem_cons_self ..), unt_congr (fun x hx => h x (List.mem_cons_of_mem _ hx))]
theorem pass_notin {commit now : Int} {l : List Ent} {i : Nat} {u : Fl} {T : List Tl} {e : Ent} (h : ∀ x ∈ l, same e x = false) : has (T ++ pass commit now i u T l) e = has T e := by
  rw [has_append, has_none (T := pass commit now i u T l), Bool.or_false]
  intro t ht
  obtain ⟨k, hk, _⟩ := pass_mem ht
  rw [same_comm]
  exact h _ (List.mem_of_getElem? hk)
theorem pass_count {commit now : Int} : ∀ {l : List Ent} {i : Nat} {u : Fl} {T : List Tl}, Apart l → (pass commit now i u T l).length + unt (T ++ pass commit now i u T l) l = unt T l
  | [], _, _, _, _ => by simp [pass, unt]
  | e :: r, i, u, T, hA => by
    obtain ⟨hA1, hA2⟩ := List.pairwise_cons.1 hA
    simp only [pass]
    by_cases h1 : has T e = true
    · rw [if_pos h1, unt_cons, unt_cons, if_pos h1, if_pos (has_mono h1)]
      have := pass_count (commit := commit) (now := now) (i := i + 1) (u := u) (T := T) hA2
      omega
    · rw [if_neg h1]
      by_cases h2 : lets u ((i : Int) + 1) commit now e = true
      · rw [if_pos h2, unt_cons, unt_cons, if_neg h1]
        have h3 := pass_count (commit := commit) (now := now) (i := i + 1) (u := u) (T := T ++ [((i : Int) + 1, e)]) hA2
        have h4 : unt (T ++ [((i : Int) + 1, e)]) r = unt T r := unt_congr (fun x hx => by rw [has_snoc, hA1 x hx, Bool.or_false])
        have h5 : T ++ ((i : Int) + 1, e) :: pass commit now (i + 1) u (T ++ [((i : Int) + 1, e)]) r = (T ++ [((i : Int) + 1, e)]) ++ pass commit now (i + 1) u (T ++ [((i : Int) + 1, e)]) r := by simp
        rw [h5, if_pos (has_mono (by rw [has_snoc, same_self]; simp))]
        simp only [List.length_cons]
        omega
      · rw [if_neg h2, unt_cons, unt_cons, if_neg h1, if_neg (by rw [pass_notin hA1]; exact h1)]
        have := pass_count (commit := commit) (now := now) (i := i + 1) (u := u.add e.ord) (T := T) hA2
        omega
theorem go_count {commit now : Int} {T : List Tl} {l : List Ent} (hA : Apart l) (h : T.length + unt T l = l.length) : (T ++ go commit now T l).length + unt (T ++ go commit now T l) l = l.length := by
  have := pass_count (commit := commit) (now := now) (i := 0) (u := Fl.none) (T := T) hA
  unfold go
  rw [List.length_append]
  omega
theorem unt_nil (l : List Ent) : unt [] l = l.length := by
  induction l with
  | nil => rfl
  | cons e r ih => rw [unt_cons, ih]; rfl
theorem unt_zero {T : List Tl} {l : List Ent} (h : ∀ e ∈ l, has T e = true) : unt T l = 0 := by
  unfold unt
  rw [List.countP_eq_zero]
  intro e he
  rw [h e he]; simp

/-- All may be told: it is. -/
theorem pass_all {commit now : Int} (hnow : 1099511627779 ≤ now) : ∀ {l : List Ent} {i : Nat} {T : List Tl}, (∀ e ∈ l, may e = true) → (i : Int) + l.length ≤ commit → ∀ e ∈ l, has (T ++ pass commit now i Fl.none T l) e = true
  | [], _, _, _, _ => fun _ h => by simp at h
  | x :: r, i, T, hM, hc => by
    have hm := (may_iff x).1 (hM x (List.mem_cons_self ..))
    have hr : ∀ e ∈ r, may e = true := fun e he => hM e (List.mem_cons_of_mem _ he)
    simp only [List.length_cons] at hc
    have hl : lets Fl.none ((i : Int) + 1) commit now x = true := by
      have h1 := hm.2.2.2.1
      have h2 := hm.2.2.2.2.1
      have h3 := hm.2.2.2.2.2.1
      have q1 : level Fl.none ((i : Int) + 1) commit x.lev = true := by
        unfold level Fl.none
        rcases (by omega : x.lev = 0 ∨ x.lev = 1 ∨ x.lev = 2) with h | h | h <;> simp [h] <;> omega
      have q2 : held x.stamp now = true := by simp [held]; omega
      have q3 : order Fl.none now x.ord x.stamp = true := by
        unfold order Fl.none
        rcases (by omega : x.ord = 0 ∨ x.ord = 1 ∨ x.ord = 2) with h | h | h <;> simp [h, q2]
      unfold lets; rw [q1, q3]; rfl
    intro e he
    simp only [pass]
    by_cases h1 : has T x = true
    · rw [if_pos h1]
      rcases List.mem_cons.1 he with rfl | he
      · exact has_mono h1
      · exact pass_all hnow hr (by push_cast; omega) e he
    · rw [if_neg h1, if_pos hl]
      have h5 : T ++ ((i : Int) + 1, x) :: pass commit now (i + 1) Fl.none (T ++ [((i : Int) + 1, x)]) r = (T ++ [((i : Int) + 1, x)]) ++ pass commit now (i + 1) Fl.none (T ++ [((i : Int) + 1, x)]) r := by simp
      rw [h5]
      rcases List.mem_cons.1 he with rfl | he
      · exact has_mono (by rw [has_snoc, same_self]; simp)
      · exact pass_all hnow hr (by push_cast; omega) e he
theorem go_all {commit now : Int} {T : List Tl} {l : List Ent} (hnow : 1099511627779 ≤ now) (hM : ∀ e ∈ l, may e = true) (hc : (l.length : Int) ≤ commit) : ∀ e ∈ l, has (T ++ go commit now T l) e = true :=
  pass_all hnow hM (by omega)

/-- The flags speak of those ahead. -/
structure Ah (u : Fl) (T : List Tl) (p : List Ent) : Prop where
  so : u.so = false → ∀ e ∈ p, has T e = true
  tot : u.tot = false → ∀ e ∈ p, e.ord = 1 → has T e = true
  tim : u.tim = false → ∀ e ∈ p, e.ord = 2 → has T e = true
theorem Ah.nil (T : List Tl) : Ah Fl.none T [] := ⟨fun _ _ h => by simp at h, fun _ _ h => by simp at h, fun _ _ h => by simp at h⟩
theorem Ah.more {u : Fl} {T S : List Tl} {p : List Ent} (h : Ah u T p) : Ah u (T ++ S) p := ⟨fun a e he => has_mono (h.so a e he), fun a e he b => has_mono (h.tot a e he b), fun a e he b => has_mono (h.tim a e he b)⟩
theorem Ah.seen {u : Fl} {T : List Tl} {p : List Ent} {e : Ent} (h : Ah u T p) (he : has T e = true) : Ah u T (p ++ [e]) := by
  have k : ∀ x, x ∈ p ++ [e] → x ∈ p ∨ x = e := fun x hx => by simpa using hx
  refine ⟨fun a x hx => ?_, fun a x hx b => ?_, fun a x hx b => ?_⟩
  · rcases k x hx with q | rfl
    · exact h.so a x q
    · exact he
  · rcases k x hx with q | rfl
    · exact h.tot a x q b
    · exact he
  · rcases k x hx with q | rfl
    · exact h.tim a x q b
    · exact he
theorem Ah.unseen {u : Fl} {T : List Tl} {p : List Ent} {e : Ent} (h : Ah u T p) : Ah (u.add e.ord) T (p ++ [e]) := by
  have k : ∀ x, x ∈ p ++ [e] → x ∈ p ∨ x = e := fun x hx => by simpa using hx
  refine ⟨fun a => (by simp [Fl.add] at a), fun a x hx b => ?_, fun a x hx b => ?_⟩
  · simp [Fl.add] at a
    rcases k x hx with q | rfl
    · exact h.tot a.1 x q b
    · exact absurd b a.2
  · simp [Fl.add] at a
    rcases k x hx with q | rfl
    · exact h.tim a.1 x q b
    · exact absurd b a.2
/-- What one that is told asks of those ahead. -/
def asks (e x : Ent) : Prop := e.lev = 2 ∨ e.ord = 1 ∧ x.ord = 1 ∨ e.ord = 2 ∧ x.ord = 2
theorem Ah.asked {u : Fl} {T : List Tl} {p : List Ent} {a c n : Int} {e x : Ent} (h : Ah u T p) (hl : lets u a c n e = true) (hx : x ∈ p) (hq : asks e x) : has T x = true := by
  unfold lets level order at hl
  simp only [Bool.and_eq_true, Bool.or_eq_true, decide_eq_true_eq, Bool.not_eq_true'] at hl
  obtain ⟨h1, h2⟩ := hl
  rcases hq with q | ⟨q1, q2⟩ | ⟨q1, q2⟩
  · refine h.so ?_ x hx
    rcases h1 with (h1 | h1) | h1
    · omega
    · omega
    · exact h1.2
  · refine h.tot ?_ x hx q2
    rcases h2 with (h2 | h2) | h2
    · omega
    · exact h2.2
    · omega
  · refine h.tim ?_ x hx q2
    rcases h2 with (h2 | h2) | h2
    · omega
    · omega
    · exact h2.2
theorem lets_commit {u : Fl} {a c n : Int} {e : Ent} (hl : lets u a c n e = true) (h0 : e.lev ≠ 0) : a ≤ c := by
  unfold lets level at hl
  simp only [Bool.and_eq_true, Bool.or_eq_true, decide_eq_true_eq, Bool.not_eq_true'] at hl
  rcases hl.1 with (h | h) | h
  · exact absurd h h0
  · exact h.2
  · exact h.1.2
/-- What is told stands fast, and what it asks was told. -/
theorem pass_firm {commit now : Int} : ∀ {l : List Ent} {i : Nat} {u : Fl} {T : List Tl} {p : List Ent}, p.length = i → Ah u T p → ∀ t ∈ pass commit now i u T l,
    (t.2.lev ≠ 0 → t.1 ≤ commit) ∧ ∀ (j : Nat) (x : Ent), (j : Int) < t.1 - 1 → (p ++ l)[j]? = some x → asks t.2 x → has (T ++ pass commit now i u T l) x = true
  | e :: r, i, u, T, p, hp, hA, t, ht => by
    have hp' : (p ++ [e]).length = i + 1 := by simp [hp]
    have happ : p ++ e :: r = (p ++ [e]) ++ r := by simp
    simp only [pass] at ht ⊢
    by_cases h1 : has T e = true
    · rw [if_pos h1] at ht ⊢
      rw [happ]
      exact pass_firm hp' (hA.seen h1) t ht
    · rw [if_neg h1] at ht ⊢
      by_cases h2 : lets u ((i : Int) + 1) commit now e = true
      · rw [if_pos h2] at ht ⊢
        have h5 : T ++ ((i : Int) + 1, e) :: pass commit now (i + 1) u (T ++ [((i : Int) + 1, e)]) r = (T ++ [((i : Int) + 1, e)]) ++ pass commit now (i + 1) u (T ++ [((i : Int) + 1, e)]) r := by simp
        rcases List.mem_cons.1 ht with rfl | ht
        · refine ⟨fun h0 => lets_commit h2 h0, fun j x hj hx hq => ?_⟩
          have hji : j < p.length := by
            have : (j : Int) < (i : Int) + 1 - 1 := hj
            omega
          rw [List.getElem?_append_left hji] at hx
          exact has_mono (hA.asked h2 (List.mem_of_getElem? hx) hq)
        · rw [h5, happ]
          exact pass_firm hp' (hA.more.seen (by rw [has_snoc, same_self]; simp)) t ht
      · rw [if_neg h2] at ht ⊢
        rw [happ]
        exact pass_firm hp' hA.unseen t ht
theorem go_firm {commit now : Int} {T : List Tl} {l : List Ent} {t : Tl} (ht : t ∈ go commit now T l) : (t.2.lev ≠ 0 → t.1 ≤ commit) ∧ ∀ (j : Nat) (x : Ent), (j : Int) < t.1 - 1 → l[j]? = some x → asks t.2 x → has (T ++ go commit now T l) x = true := by
  have := pass_firm (commit := commit) (now := now) (l := l) (i := 0) (u := Fl.none) (T := T) (p := []) rfl (Ah.nil T) t ht
  unfold go
  simpa using this

/-- Those of one order are told in the order of their places. -/
structure Srt (l : List Ent) (T : List Tl) : Prop where
  at' : ∀ t ∈ T, ∃ k : Nat, l[k]? = some t.2 ∧ t.1 = (k : Int) + 1
  cl : ∀ t ∈ T, ∀ (j : Nat) (x : Ent), (j : Int) < t.1 - 1 → l[j]? = some x → asks t.2 x → has T x = true
  so : T.Pairwise (fun a b => a.2.ord = b.2.ord → a.2.ord = 1 ∨ a.2.ord = 2 → a.1 < b.1)
theorem pass_srt {commit now : Int} {L : List Ent} : ∀ {l : List Ent} {i : Nat} {u : Fl} {T : List Tl} {p : List Ent}, p.length = i → p ++ l = L → Ah u T p → Srt L T → Srt L (T ++ pass commit now i u T l)
  | [], i, u, T, p, _, _, _, hS => by simpa [pass] using hS
  | e :: r, i, u, T, p, hp, hL, hA, hS => by
    have hp' : (p ++ [e]).length = i + 1 := by simp [hp]
    have hL' : (p ++ [e]) ++ r = L := by rw [← hL]; simp
    have hLi : L[i]? = some e := by rw [← hL, List.getElem?_append_right (by omega)]; simp [hp]
    simp only [pass]
    by_cases h1 : has T e = true
    · rw [if_pos h1]
      exact pass_srt hp' hL' (hA.seen h1) hS
    · rw [if_neg h1]
      by_cases h2 : lets u ((i : Int) + 1) commit now e = true
      · rw [if_pos h2]
        have h5 : T ++ ((i : Int) + 1, e) :: pass commit now (i + 1) u (T ++ [((i : Int) + 1, e)]) r = (T ++ [((i : Int) + 1, e)]) ++ pass commit now (i + 1) u (T ++ [((i : Int) + 1, e)]) r := by simp
        rw [h5]
        refine pass_srt hp' hL' (hA.more.seen (by rw [has_snoc, same_self]; simp)) ⟨fun t ht => ?_, fun t ht j x hj hx hq => ?_, ?_⟩
        · rcases List.mem_append.1 ht with ht | ht
          · exact hS.at' t ht
          · rw [List.mem_singleton.1 ht]; exact ⟨i, hLi, rfl⟩
        · rcases List.mem_append.1 ht with ht | ht
          · exact has_mono (hS.cl t ht j x hj hx hq)
          · rw [List.mem_singleton.1 ht] at hj hq
            have hji : j < p.length := by
              have : (j : Int) < (i : Int) + 1 - 1 := hj
              omega
            rw [← hL, List.getElem?_append_left hji] at hx
            exact has_mono (hA.asked h2 (List.mem_of_getElem? hx) hq)
        · rw [List.pairwise_append]
          refine ⟨hS.so, by simp, fun a ha b hb => ?_⟩
          rw [List.mem_singleton.1 hb]
          intro ho hk
          show a.1 < (i : Int) + 1
          obtain ⟨k, hk1, hk2⟩ := hS.at' a ha
          rcases Nat.lt_trichotomy k i with q | q | q
          · rw [hk2]; omega
          · subst q
            rw [hLi] at hk1
            exact absurd (by rw [Option.some.inj hk1]; exact has_mem ha) h1
          · refine absurd (hS.cl a ha i e (by rw [hk2]; omega) hLi ?_) h1
            rcases hk with hk | hk
            · exact .inr (.inl ⟨hk, by rw [← ho]; exact hk⟩)
            · exact .inr (.inr ⟨hk, by rw [← ho]; exact hk⟩)
      · rw [if_neg h2]
        exact pass_srt hp' hL' hA.unseen hS
theorem go_srt {commit now : Int} {T : List Tl} {l : List Ent} (h : Srt l T) : Srt l (T ++ go commit now T l) := pass_srt (p := []) rfl rfl (Ah.nil T) h
theorem srt_nil (l : List Ent) : Srt l [] := ⟨fun _ h => by simp at h, fun _ h => by simp at h, List.Pairwise.nil⟩

/-- Entries with their places, i ahead. -/
def tk : Nat → List Ent → List Tl
  | _, [] => []
  | i, e :: r => ((i : Int) + 1, e) :: tk (i + 1) r
theorem tk_len : ∀ (l : List Ent) (i : Nat), (tk i l).length = l.length
  | [], _ => rfl
  | _ :: r, i => by simp [tk, tk_len r (i + 1)]
theorem tk_append : ∀ (a b : List Ent) (i : Nat), tk i (a ++ b) = tk i a ++ tk (i + a.length) b
  | [], b, i => by simp [tk]
  | e :: r, b, i => by
    have := tk_append r b (i + 1)
    simp only [List.cons_append, tk, this, List.length_cons]
    rw [show i + 1 + r.length = i + (r.length + 1) by omega]
theorem tk_at : ∀ {l : List Ent} {i k : Nat} {e : Ent}, l[k]? = some e → (tk i l)[k]? = some ((i : Int) + k + 1, e)
  | x :: r, i, 0, e, h => by
    simp at h; subst h; simp [tk]
  | x :: r, i, k + 1, e, h => by
    have := tk_at (l := r) (i := i + 1) (k := k) (by simpa using h)
    simp only [tk, List.getElem?_cons_succ, this]
    congr 2
    push_cast; omega
theorem tk_mem : ∀ {l : List Ent} {i : Nat} {t : Tl}, t ∈ tk i l → t.2 ∈ l
  | x :: r, i, t, h => by
    simp only [tk] at h
    rcases List.mem_cons.1 h with rfl | h
    · exact List.mem_cons_self ..
    · exact List.mem_cons_of_mem _ (tk_mem h)
theorem tk_has : ∀ {l : List Ent} {i : Nat} {e : Ent}, e ∈ l → has (tk i l) e = true := by
  intro l i e he
  obtain ⟨k, hk⟩ := List.getElem?_of_mem he
  exact has_mem (List.mem_of_getElem? (tk_at (i := i) hk))
theorem pass_seen {commit now : Int} {u : Fl} {T : List Tl} : ∀ (p l : List Ent) (i : Nat), (∀ e ∈ p, has T e = true) → pass commit now i u T (p ++ l) = pass commit now (i + p.length) u T l
  | [], l, i, _ => by simp
  | e :: r, l, i, h => by
    simp only [List.cons_append, pass]
    rw [if_pos (h e (List.mem_cons_self ..)), pass_seen r l (i + 1) (fun x hx => h x (List.mem_cons_of_mem _ hx))]
    congr 1
    simp; omega
/-- Where the first ones may be told, up to a place, and none behind it. -/
theorem pass_upto {commit now : Int} {bad : Fl → Prop} {M : Int} (hb2 : ∀ u o, bad u → bad (u.add o)) : ∀ {l : List Ent} {i : Nat} {T : List Tl}, Apart l → (∀ e ∈ l, has T e = false) →
    (∀ e ∈ l, bad (Fl.none.add e.ord)) → (∀ u a e, e ∈ l → bad u → lets u a commit now e = false) → (∀ (k : Nat) (e : Ent), l[k]? = some e → lets Fl.none ((i : Int) + k + 1) commit now e = decide ((i : Int) + k + 1 ≤ M)) →
    pass commit now i Fl.none T l = tk i (l.take (M - i).toNat) := by
  have none : ∀ {l : List Ent} {i : Nat} {u : Fl} {T : List Tl}, bad u → (∀ u a e, e ∈ l → bad u → lets u a commit now e = false) → pass commit now i u T l = [] := by
    intro l
    induction l with
    | nil => intros; rfl
    | cons e r ih =>
      intro i u T hu h3
      simp only [pass]
      split
      · exact ih hu (fun u a x hx => h3 u a x (List.mem_cons_of_mem _ hx))
      · rw [if_neg (by rw [h3 u _ e (List.mem_cons_self ..) hu]; simp)]
        exact ih (hb2 _ _ hu) (fun u a x hx => h3 u a x (List.mem_cons_of_mem _ hx))
  intro l
  induction l with
  | nil => intros; simp [pass, tk]
  | cons e r ih =>
    intro i T hA hh hb1 hb3 hl
    obtain ⟨hA1, hA2⟩ := List.pairwise_cons.1 hA
    have h0 := hl 0 e rfl
    simp only [Int.natCast_zero, Int.add_zero] at h0
    simp only [pass]
    rw [if_neg (by rw [hh e (List.mem_cons_self ..)]; simp), h0]
    by_cases hM : (i : Int) + 1 ≤ M
    · rw [if_pos (decide_eq_true hM), ih hA2 (fun x hx => by rw [has_snoc, hh x (List.mem_cons_of_mem _ hx), hA1 x hx]; rfl) (fun x hx => hb1 x (List.mem_cons_of_mem _ hx)) (fun u a x hx => hb3 u a x (List.mem_cons_of_mem _ hx)) (fun k x hk => by
        have := hl (k + 1) x (by simpa using hk)
        rw [show ((i + 1 : Nat) : Int) + k + 1 = (i : Int) + (k + 1 : Nat) + 1 by push_cast; omega]
        exact this)]
      obtain ⟨m, hm⟩ : ∃ m, (M - i).toNat = m + 1 := ⟨(M - i).toNat - 1, by omega⟩
      rw [hm, show (M - ((i + 1 : Nat) : Int)).toNat = m by omega]
      simp [tk]
    · rw [if_neg (by simp; omega), none (hb1 e (List.mem_cons_self ..)) (fun u a x hx => hb3 u a x (List.mem_cons_of_mem _ hx)), show (M - (i : Int)).toNat = 0 by omega]
      simp [tk]
/-- Of a list whose first f were told. -/
theorem go_upto {commit now : Int} {bad : Fl → Prop} {M : Int} (hb2 : ∀ u o, bad u → bad (u.add o)) {l : List Ent} (hA : Apart l) (hb1 : ∀ e ∈ l, bad (Fl.none.add e.ord)) (hb3 : ∀ u a e, e ∈ l → bad u → lets u a commit now e = false)
    (hl : ∀ (k : Nat) (e : Ent), l[k]? = some e → lets Fl.none ((k : Int) + 1) commit now e = decide ((k : Int) + 1 ≤ M)) {f : Nat} (hf : f ≤ l.length) :
    tk 0 (l.take f) ++ go commit now (tk 0 (l.take f)) l = tk 0 (l.take (max f (min l.length M.toNat))) := by
  have hsplit : l = l.take f ++ l.drop f := (List.take_append_drop f l).symm
  have hA' : Apart (l.take f ++ l.drop f) := by rw [← hsplit]; exact hA
  obtain ⟨_, hA2, hA3⟩ := List.pairwise_append.1 hA'
  have hlen : (l.take f).length = f := by rw [List.length_take]; omega
  have h1 : go commit now (tk 0 (l.take f)) l = pass commit now f Fl.none (tk 0 (l.take f)) (l.drop f) := by
    have h := pass_seen (commit := commit) (now := now) (u := Fl.none) (T := tk 0 (l.take f)) (l.take f) (l.drop f) 0 (fun e he => tk_has he)
    rw [← hsplit, hlen, Nat.zero_add] at h
    exact h
  rw [h1, pass_upto hb2 (M := M) hA2 (fun e he => has_none (fun t ht => hA3 _ (tk_mem ht) _ he)) (fun e he => hb1 e (List.mem_of_mem_drop he)) (fun u a e he => hb3 u a e (List.mem_of_mem_drop he)) (fun k e hk => by
    rw [List.getElem?_drop] at hk
    have := hl (f + k) e hk
    rw [show ((f + k : Nat) : Int) = (f : Int) + k by push_cast; rfl] at this
    exact this)]
  have h2 := tk_append (l.take f) ((l.drop f).take (M - f).toNat) 0
  rw [hlen, Nat.zero_add] at h2
  rw [← h2]
  congr 1
  rw [← List.take_add]
  by_cases hM : (f : Int) ≤ M
  · by_cases hl : l.length ≤ M.toNat
    · rw [List.take_of_length_le (by omega), List.take_of_length_le (by omega)]
    · congr 1; omega
  · congr 1; omega
end PReady
end Go.Proofs.Ythmcjehpmfebaaa
