/- 'Vs': the program's votes at block g, with the blocks that are its own; 'VsW': what a call that writes them leaves; rows of votes. -/
import Derived.Test.YtheeigbljjcbpaaPlainVote
import Derived.Test.YtheeigbljjcbpaaOw
import Derived.Test.YtheeigbljjcbpaaLog
import Derived.BigQuiet
namespace Go.Proofs.Ytheeigbljjcbpaa
open Go.RowKit PVote

/-- A vote with a slice beside it. -/
structure Vp where
  m : Vt
  A : Option Addr
  c : Nat
def vcs (p : Vp) : List Value := [.int .i64 p.m.fr, .int .i64 p.m.last, .slice p.A p.m.es.length p.c, .int .i64 p.m.com]
def vrs (P : List Vp) : List Value := P.flatMap vcs
def vv (m : Vt) (A : Option Addr) (c : Nat) : Value := .agg #[.int .i64 m.fr, .int .i64 m.last, .slice A m.es.length c, .int .i64 m.com]
theorem vcs_length (p : Vp) : (vcs p).length = 4 := rfl
theorem vrs_length (P : List Vp) : (vrs P).length = P.length * 4 := rows_len vcs_length P
theorem vrs_append (a b : List Vp) : vrs (a ++ b) = vrs a ++ vrs b := by simp [vrs]
theorem vrs_cons (a : Vp) (b : List Vp) : vrs (a :: b) = vcs a ++ vrs b := by simp [vrs]
theorem vrs_one (p : Vp) : vrs [p] = vcs p := by simp [vrs]
theorem vrs_take (P : List Vp) (i : Nat) : (vrs P).take (i * 4) = vrs (P.take i) := rows_take vcs_length P i
theorem vrs_at {P : List Vp} {i : Nat} {p : Vp} (h : P[i]? = some p) {j : Nat} (hj : j < 4) : (vrs P)[i * 4 + j]? = (vcs p)[j]? := rows_at vcs_length h hj
theorem vcs_oneCell (p : Vp) : ∀ u ∈ vcs p, u.oneCell' = true := by
  intro u hu
  simp only [vcs, List.mem_cons, List.not_mem_nil, or_false] at hu
  rcases hu with rfl | rfl | rfl | rfl <;> rfl
theorem vrs_oneCell (P : List Vp) : ∀ u ∈ vrs P, u.oneCell' = true := fun u hu => by
  obtain ⟨q, _, h⟩ := List.mem_flatMap.1 hu
  exact vcs_oneCell q u h
/-- A vote is stored at its place. -/
theorem vrs_set (hd : List Value) (P : List Vp) {k : Nat} (hk : k < P.length) (p : Vp) :
    ((((hd ++ vrs P).set (hd.length + k * 4) (.int .i64 p.m.fr)).set (hd.length + k * 4 + 1) (.int .i64 p.m.last)).set (hd.length + k * 4 + 2) (.slice p.A p.m.es.length p.c)).set (hd.length + k * 4 + 3) (.int .i64 p.m.com) = hd ++ vrs (P.set k p) := by
  have e2 : P = P.take k ++ P[k] :: P.drop (k + 1) := by
    have q := (List.take_append_drop k P).symm
    rw [List.drop_eq_getElem_cons hk] at q
    exact q
  have e1 : P.set k p = P.take k ++ p :: P.drop (k + 1) := by rw [List.set_eq_take_append_cons_drop, if_pos hk]
  have l1 : (hd ++ vrs (P.take k)).length = hd.length + k * 4 := by rw [List.length_append, vrs_length, List.length_take]; congr 2; omega
  have f1 : hd ++ vrs (P.set k p) = (hd ++ vrs (P.take k)) ++ (vcs p ++ vrs (P.drop (k + 1))) := by rw [e1, vrs_append, vrs_cons, List.append_assoc]
  have f2 : hd ++ vrs P = (hd ++ vrs (P.take k)) ++ (vcs P[k] ++ vrs (P.drop (k + 1))) := by
    have := congrArg vrs e2
    rw [this, vrs_append, vrs_cons, List.append_assoc]
  rw [f1, f2, ← l1]
  generalize hd ++ vrs (P.take k) = X
  generalize vrs (P.drop (k + 1)) = Y
  have s : ∀ (j : Nat) (Z : List Value) (v : Value), (X ++ Z).set (X.length + j) v = X ++ Z.set j v := by
    intro j Z v
    rw [List.set_append_right _ _ (by omega)]; congr 2; omega
  have s0 : ∀ (Z : List Value) (v : Value), (X ++ Z).set X.length v = X ++ Z.set 0 v := fun Z v => s 0 Z v
  rw [s0, s 1, s 2, s 3]
  rfl

/-- The votes at block g: for that view, of n processes; S: who voted what. F are its blocks. -/
structure Vs (w : World) (g : Nat) (F : List Nat) (view n : Int) (S : List (Option Vt)) : Prop where
  ex : ∃ P : List Vp, P.map Vp.m = tab S ∧ Blk w g 63 ([.int .i64 view, .int .i64 n, .int .i64 (tm S)] ++ vrs P) ∧ (∀ p ∈ P, Ow w 0 52 7 p.A p.m.es.length p.c (els p.m.es)) ∧ F = g :: P.flatMap fun p => bl p.A
  len : S.length = 7

section
variable {w w' : World} {g : Nat} {F T : List Nat} {view n : Int} {S : List (Option Vt)}
theorem Vs.hi (h : Vs w g F view n S) : ∀ k ∈ F, k < w.heap.size := by
  obtain ⟨P, _, hB, hO, rfl⟩ := h.ex
  intro k hk
  rcases List.mem_cons.1 hk with rfl | hk
  · exact hB.lt
  · obtain ⟨p, hp, hk⟩ := List.mem_flatMap.1 hk
    exact (hO p hp).hi k (mem_bl.1 hk)
theorem Vs.self (h : Vs w g F view n S) : g ∈ F := by obtain ⟨P, _, hB, hO, rfl⟩ := h.ex; exact List.mem_cons_self ..
theorem Vs.blk (h : Vs w g F view n S) : ∃ xs, Blk w g 63 xs := by obtain ⟨P, _, hB, hO, rfl⟩ := h.ex; exact ⟨_, hB⟩
theorem Vs.ne (h : Vs w g F view n S) {x : Nat} {e : TypeId} {xs : List Value} (K : Blk w x e xs) (he : e ≠ 63) : x ∉ [g] := by
  obtain ⟨ys, hB⟩ := h.blk
  simpa using K.ne hB he
theorem Vs.lt (h : Vs w g F view n S) : g < w.heap.size := h.hi g h.self
theorem Vs.touch (h : Vs w g F view n S) (ht : Touch T w w') (hd : ∀ k ∈ T, k ∉ F) : Vs w' g F view n S := by
  obtain ⟨P, hP, hB, hO, rfl⟩ := h.ex
  exact ⟨⟨P, hP, hB.touch ht (fun hm => hd g hm (List.mem_cons_self ..)), fun p hp => (hO p hp).touch ht (fun s hs e => hd s hs (List.mem_cons_of_mem _ (List.mem_flatMap.2 ⟨p, hp, mem_bl.2 e⟩))), rfl⟩, h.len⟩
theorem Vs.past (h : Vs w g F view n S) (hb : Below w.heap.size w w') : Vs w' g F view n S := h.touch (T := []) (.of_below hb) (by simp)
theorem Vs.drew (h : Vs w g F view n S) : Vs w.drew g F view n S := ⟨h.ex, h.len⟩
theorem Vs.drawn (h : Vs w g F view n S) (q : Nat) : Vs (w.drewN q) g F view n S := h.past ⟨rfl, rfl, rfl, Nat.le_refl _, fun _ _ => rfl⟩
theorem Vs.alloc (h : Vs w g F view n S) (o : Obj) : Vs (w.alloc o) g F view n S := h.past ((Below.refl _ _).alloc (Nat.le_refl _) _)
theorem Vs.head (h : Vs w g F view n S) : w.cell? ⟨g, 0, none⟩ = some (.int .i64 view) ∧ w.cell? ⟨g, 1, none⟩ = some (.int .i64 n) ∧ w.cell? ⟨g, 2, none⟩ = some (.int .i64 (tm S)) := by
  obtain ⟨P, hP, hB, hO, rfl⟩ := h.ex
  exact ⟨hB.cell (i := 0) rfl, hB.cell (i := 1) rfl, hB.cell (i := 2) rfl⟩
/-- The vote at place k, in place. -/
theorem Vs.at_ (h : Vs w g F view n S) {k : Nat} {v : Vt} (hv : (tab S)[k]? = some v) : ∃ (A : Option Addr) (c : Nat), w.rangeAt g (3 + k * 4) [.int .i64 v.fr, .int .i64 v.last, .slice A v.es.length c, .int .i64 v.com] ∧ Rd w w.heap.size A c 7 v.es.length (els v.es) := by
  obtain ⟨P, hP, hB, hO, rfl⟩ := h.ex
  have hlt : k < P.length := by
    have := (List.getElem?_eq_some_iff.1 hv).1
    rw [← hP] at this; simpa using this
  have hp : P[k]? = some P[k] := List.getElem?_eq_getElem hlt
  have hm : P[k].m = v := by
    have := hv
    rw [← hP, List.getElem?_map, hp] at this
    simpa using this
  refine ⟨P[k].A, P[k].c, fun j u hu => ?_, ?_⟩
  · have hj : j < 4 := (List.getElem?_eq_some_iff.1 hu).1
    refine hB.cell ?_
    rw [List.getElem?_append_right (by simp; omega)]
    have e : 3 + k * 4 + j - [Value.int .i64 view, .int .i64 n, .int .i64 (tm S)].length = k * 4 + j := by simp; omega
    rw [e, vrs_at hp hj, ← hu]
    unfold vcs
    rw [hm]
  · have := (hO P[k] (List.getElem_mem _)).rd
    rw [hm] at this
    exact this
/-- What a call leaves that writes the votes at block g, whose blocks were F. -/
structure VsW (w w' : World) (g : Nat) (F : List Nat) (view n : Int) (S : List (Option Vt)) : Prop where
  ex : ∃ F', Vs w' g F' view n S ∧ ∀ k ∈ F', k ∈ F ∨ w.heap.size ≤ k
  touch : Touch [g] w w'
theorem VsW.same (h : Vs w g F view n S) (hb : Below w.heap.size w w') : VsW w w' g F view n S := ⟨⟨F, h.past hb, fun _ hk => .inl hk⟩, .of_below hb⟩
/-- A vote is stored at its place, who voted behind it. -/
theorem Vs.store {w0 w1 w2 : World} (h : Vs w g F view n S) (hb : Below w0.heap.size w0 w) (v : Vt) {A : Option Addr} {c : Nat} (h1 : 1 ≤ v.fr) (h7 : v.fr ≤ 7) (hO : Ow w w0.heap.size 52 7 A v.es.length c (els v.es))
    (e1 : w1 = (w.setCells g (3 + (v.fr - 1).toNat * 4) [.int .i64 v.fr, .int .i64 v.last, .slice A v.es.length c, .int .i64 v.com]).drew) (e2 : w2 = w1.setCell ⟨g, 2, none⟩ (.int .i64 (tm (put S v)))) :
    VsW w0 w2 g F view n (put S v) := by
  obtain ⟨P, hP, hB, hOs, rfl⟩ := h.ex
  have hl : P.length = 7 := by have := congrArg List.length hP; rw [List.length_map, tab_len, h.len] at this; exact this
  have hk : (v.fr - 1).toNat < P.length := by omega
  have hB1 : Blk w1 g 63 ([.int .i64 view, .int .i64 n, .int .i64 (tm S)] ++ vrs (P.set (v.fr - 1).toNat ⟨v, A, c⟩)) := by
    rw [e1]
    have := (((hB.set (3 + (v.fr - 1).toNat * 4) (.int .i64 v.fr)).set (3 + (v.fr - 1).toNat * 4 + 1) (.int .i64 v.last)).set (3 + (v.fr - 1).toNat * 4 + 2) (.slice A v.es.length c)).set (3 + (v.fr - 1).toNat * 4 + 3) (.int .i64 v.com)
    have q := vrs_set [.int .i64 view, .int .i64 n, .int .i64 (tm S)] P hk ⟨v, A, c⟩
    rw [← q]
    exact this.drew
  have hB2 : Blk w2 g 63 ([.int .i64 view, .int .i64 n, .int .i64 (tm (put S v))] ++ vrs (P.set (v.fr - 1).toNat ⟨v, A, c⟩)) := by
    rw [e2]
    exact hB1.set 2 _
  have ht : Touch [g] w w2 := by
    rw [e2, e1]
    have t4 := ((((Touch.refl [g] w).cell (List.mem_singleton.2 rfl) (3 + (v.fr - 1).toNat * 4) (.int .i64 v.fr)).cell (List.mem_singleton.2 rfl) (3 + (v.fr - 1).toNat * 4 + 1) (.int .i64 v.last)).cell (List.mem_singleton.2 rfl) (3 + (v.fr - 1).toNat * 4 + 2) (.slice A v.es.length c)).cell (List.mem_singleton.2 rfl) (3 + (v.fr - 1).toNat * 4 + 3) (.int .i64 v.com)
    exact (Touch.drew t4).cell (List.mem_singleton.2 rfl) _ _
  have keep : ∀ {B : Option Addr} {b l : Nat} {x : List Value} {base : Nat}, Ow w base 52 7 B l b x → Ow w2 base 52 7 B l b x := fun hO => hO.touch ht (fun s hs => by
    rw [List.mem_singleton.1 hs]; exact hO.ne hB (by decide))
  refine ⟨⟨g :: (P.set (v.fr - 1).toNat ⟨v, A, c⟩).flatMap fun p => bl p.A, ⟨⟨P.set (v.fr - 1).toNat ⟨v, A, c⟩, ?_, hB2, fun p hp => ?_, rfl⟩, by rw [put_len]; exact h.len⟩, fun k hk => ?_⟩, (Touch.of_below hb).trans ht⟩
  · rw [List.map_set, hP, tab_put]
  · rcases List.mem_or_eq_of_mem_set hp with q | rfl
    · exact keep (hOs p q)
    · exact keep (hO.down (Nat.zero_le _))
  · rcases List.mem_cons.1 hk with rfl | hk
    · exact .inl (List.mem_cons_self ..)
    · obtain ⟨p, hp, hk⟩ := List.mem_flatMap.1 hk
      rcases List.mem_or_eq_of_mem_set hp with q | rfl
      · exact .inl (List.mem_cons_of_mem _ (List.mem_flatMap.2 ⟨p, q, hk⟩))
      · exact .inr (hO.low k (mem_bl.1 hk))
end
/-- Votes that were just made. -/
theorem Vs.new (w : World) (view n : Int) (us : Array Value) (hu : us.toList = [.int .i64 view, .int .i64 n, .int .i64 0] ++ vrs (List.replicate 7 ⟨zero, none, 0⟩)) :
    Vs (w.alloc (.cells us 63)) w.heap.size [w.heap.size] view n none7 := by
  refine ⟨⟨List.replicate 7 ⟨zero, none, 0⟩, rfl, ?_, fun p hp => ?_, rfl⟩, rfl⟩
  · have := Blk.new w us 63
    rw [hu] at this
    rw [tm_none]; exact this
  · rw [List.eq_of_mem_replicate hp]
    exact Ow.nil _ _ _ _
end Go.Proofs.Ytheeigbljjcbpaa
