/- What the laws keep beside a quorum: the team's list, a row of what each of it has. -/
import Derived.Test.YtdgpjolohghboaaQuoK
import Derived.Test.YtdgpjolohghboaaHeld
import Derived.Laws.OwnMore
namespace Go.Proofs.Ytdgpjolohghboaa
open Go.RowKit PQuo

theorem lst_head {m : Nat} {n : Int} (h : PTeam.most m n = true) : 0 < PTeam.cnt m ∧ PTeam.has m ((PTeam.lst m).getD 0 0) = true := by
  obtain ⟨h3, h7, hlt, hc, _⟩ := most_in h
  have h0 : 0 < PTeam.cnt m := by omega
  refine ⟨h0, (PTeam.lst_mem m hlt _).1 ?_⟩
  have hl : 0 < (PTeam.lst m).length := by rw [PTeam.lst_length]; exact h0
  rw [List.getD_eq_getElem?_getD, List.getElem?_eq_getElem hl]
  exact List.getElem_mem _
theorem lst_at {m : Nat} (hm : m < 128) {i : Nat} (h : i < PTeam.cnt m) : PTeam.has m ((PTeam.lst m).getD i 0) = true := by
  refine (PTeam.lst_mem m hm _).1 ?_
  have hl : i < (PTeam.lst m).length := by rw [PTeam.lst_length]; exact h
  rw [List.getD_eq_getElem?_getD, List.getElem?_eq_getElem hl]
  exact List.getElem_mem _
theorem lst_nodup (m : Nat) : (PTeam.lst m).Pairwise (· ≠ ·) := by
  unfold PTeam.lst PTeam.lstTo
  refine List.Pairwise.map _ (R := fun a b : Nat => a ≠ b) (fun a b h => by omega) ?_
  exact (List.nodup_range (n := 7)).filter _
theorem lst_inj {m i j : Nat} (hi : i < PTeam.cnt m) (hj : j < PTeam.cnt m) (h : (PTeam.lst m).getD i 0 = (PTeam.lst m).getD j 0) : i = j := by
  rw [← PTeam.lst_length] at hi hj
  rw [List.getD_eq_getElem?_getD, List.getElem?_eq_getElem hi, List.getD_eq_getElem?_getD, List.getElem?_eq_getElem hj] at h
  have h : (PTeam.lst m)[i] = (PTeam.lst m)[j] := h
  have hp := List.pairwise_iff_getElem.1 (lst_nodup m)
  rcases Nat.lt_trichotomy i j with e | e | e
  · exact absurd h (hp i j hi hj e)
  · exact e
  · exact absurd h.symm (hp j i hj hi e)
/-- What each of the team has, in the list's order. -/
def vals (m : Nat) (H : List Int) : List Int := (PTeam.lst m).map fun id => H.getD (pl id) 0
theorem vals_len (m : Nat) (H : List Int) : (vals m H).length = PTeam.cnt m := by unfold vals; rw [List.length_map, PTeam.lst_length]
theorem vals_at {m : Nat} (H : List Int) {i : Nat} (hi : i < PTeam.cnt m) : (vals m H).getD i 0 = H.getD (pl ((PTeam.lst m).getD i 0)) 0 := by
  have hl : i < (PTeam.lst m).length := by rw [PTeam.lst_length]; exact hi
  unfold vals
  rw [List.getD_eq_getElem?_getD, List.getElem?_map, List.getElem?_eq_getElem hl, List.getD_eq_getElem?_getD (l := PTeam.lst m), List.getElem?_eq_getElem hl]
  rfl
theorem getD_of {l : List Int} {j : Nat} (h : j < l.length) : l[j] = l.getD j 0 := by rw [List.getD_eq_getElem?_getD, List.getElem?_eq_getElem h]; rfl
theorem vals_set {m : Nat} (hm : m < 128) {H : List Int} (hl : H.length = 7) {i : Nat} (hi : i < PTeam.cnt m) (v : Int) : vals m (H.set (pl ((PTeam.lst m).getD i 0)) v) = (vals m H).set i v := by
  refine List.ext_getElem (by rw [List.length_set, vals_len, vals_len]) fun j h1 h2 => ?_
  have hj : j < PTeam.cnt m := by rw [vals_len] at h1; exact h1
  have e1 : (vals m (H.set (pl ((PTeam.lst m).getD i 0)) v))[j] = (vals m (H.set (pl ((PTeam.lst m).getD i 0)) v)).getD j 0 := getD_of h1
  have e2 : ((vals m H).set i v)[j] = ((vals m H).set i v).getD j 0 := getD_of h2
  have p1 := pl_in hm (lst_at hm hi)
  have p2 := pl_in hm (lst_at hm hj)
  rw [e1, e2, vals_at _ hj, getD_set _ _ _ _ (by omega), getD_set _ _ _ _ (by rw [vals_len]; exact hi), vals_at _ hj]
  by_cases e : i = j
  · subst e; rw [if_pos rfl, if_pos rfl]
  · rw [if_neg e, if_neg]
    intro h
    exact e (lst_inj hi hj (by omega))
theorem vals_none (m : Nat) (hm : m < 128) : vals m none7 = List.replicate (PTeam.cnt m) 0 := by
  have h : ∀ k : Nat, k < 7 → none7.getD k 0 = 0 := by decide
  refine List.ext_getElem (by rw [vals_len, List.length_replicate]) fun j h1 h2 => ?_
  have hj : j < PTeam.cnt m := by rw [vals_len] at h1; exact h1
  have e1 : (vals m none7)[j] = (vals m none7).getD j 0 := by rw [List.getD_eq_getElem?_getD, List.getElem?_eq_getElem h1]; rfl
  rw [e1, vals_at _ hj, h _ (pl_in hm (lst_at hm hj)).2.2.1]
  simp
theorem ge_succ (l : List Int) (x : Int) {k : Nat} (hk : k < l.length) : ge (l.take (k + 1)) x = ge (l.take k) x + if x ≤ l.getD k 0 then 1 else 0 := by
  unfold ge
  rw [List.take_succ_eq_append_getElem hk, List.countP_append, List.countP_cons, List.getD_eq_getElem?_getD, List.getElem?_eq_getElem hk]
  simp
theorem gt_succ (l : List Int) (x : Int) {k : Nat} (hk : k < l.length) : gt (l.take (k + 1)) x = gt (l.take k) x + if x < l.getD k 0 then 1 else 0 := by
  unfold gt
  rw [List.take_succ_eq_append_getElem hk, List.countP_append, List.countP_cons, List.getD_eq_getElem?_getD, List.getElem?_eq_getElem hk]
  simp
theorem ge_take_le (l : List Int) (x : Int) (k : Nat) : ge (l.take k) x ≤ k := Nat.le_trans List.countP_le_length (by rw [List.length_take]; omega)
theorem gt_take_le (l : List Int) (x : Int) (k : Nat) : gt (l.take k) x ≤ k := Nat.le_trans List.countP_le_length (by rw [List.length_take]; omega)
theorem tmod_inQ (x : Int) {n : Int} (hn : 0 < n) : ∃ k r : Int, 0 ≤ k ∧ k < n ∧ Int.tmod x n = r ∧ -n < r ∧ r < n ∧ Int.tmod (r + n) n = k := by
  have h1 : Int.tmod x n < n := Int.tmod_lt_of_pos x (by omega)
  have h2 : -n < Int.tmod x n := by
    have := Int.lt_tmod_of_pos x (b := n) (by omega)
    omega
  have h3 : 0 ≤ Int.tmod x n + n := by omega
  have h5 := Int.tmod_lt_of_pos (Int.tmod x n + n) (b := n) (by omega)
  have h6 := Int.tmod_nonneg n h3
  exact ⟨_, _, h6, h5, rfl, h2, h1, rfl⟩
theorem row_at (G : List Int) (Z : List Value) {i : Nat} (hi : i < G.length) : (is G ++ Z)[i]? = some (.int .i64 (G.getD i 0)) := by
  rw [List.getElem?_append_left (by rw [is_length]; exact hi), is_get G hi]
theorem row_set (G : List Int) (Z : List Value) {i : Nat} (hi : i < G.length) (v : Int) : (is G ++ Z).set i (.int .i64 v) = is (G.set i v) ++ Z := by
  rw [List.set_append_left _ _ (by rw [is_length]; exact hi), is_set]
/-- A row that was just made. -/
theorem made_blk {w : World} {base g n c : Nat} {T : TypeId} (h : w.ownsRow base T 1 (.slice (some ⟨g, 0, none⟩) n c) n (madeCells #[Value.int .i64 0] n).toList) :
    ∃ Z, Blk w g T (is (List.replicate n 0) ++ Z) := by
  have e : (madeCells #[Value.int .i64 0] n).toList = is (List.replicate n 0) := by
    rw [toList_madeCells_one]; simp [is]
  rw [e] at h
  rcases (Ow.of_own h).2 with ⟨h0, _⟩ | ⟨g', Z, hA, _, hB, _⟩
  · cases h0
  · cases hA; exact ⟨Z, hB⟩

/-- A law's quorum, the team's list, a row. -/
structure Mq (T : TypeId) (w0 w : World) (g gB : Nat) (n x : Int) (m : Nat) (H P : List Int) (last : Int) (G : List Int) (Z : List Value) (AL : Option Addr) (cL : Nat) : Prop where
  s : Sq w0 w g n x m H P last
  r : Blk w gB T (is G ++ Z)
  lo : w0.heap.size ≤ gB
  l : Ow w 0 3 1 AL (PTeam.cnt m) cL (is (PTeam.lst m))
  ne : bk AL ≠ some gB
  gl : G.length = PTeam.cnt m
  nt : T ≠ 52
section
variable {T : TypeId} {w0 w w' : World} {g gB : Nat} {n x : Int} {m : Nat} {H P H' P' : List Int} {last last' : Int} {G : List Int} {Z : List Value} {AL : Option Addr} {cL : Nat}
theorem Mq.past (h : Mq T w0 w g gB n x m H P last G Z AL cL) (t : Below w.heap.size w w') : Mq T w0 w' g gB n x m H P last G Z AL cL := ⟨h.s.past t, h.r.past t, h.lo, h.l.past t, h.ne, h.gl, h.nt⟩
theorem Mq.drew (h : Mq T w0 w g gB n x m H P last G Z AL cL) : Mq T w0 w.drew g gB n x m H P last G Z AL cL := h.past (Below.refl _ _).drew
theorem Mq.apart (h : Mq T w0 w g gB n x m H P last G Z AL cL) : g ≠ gB := fun e => (h.r.ne h.s.q h.nt) e.symm
theorem Mq.go (h : Mq T w0 w g gB n x m H P last G Z AL cL) (s : Sq w0 w' g n x m H' P' last') (t : Touch [g] w w') : Mq T w0 w' g gB n x m H' P' last' G Z AL cL :=
  ⟨s, h.r.touch t (by simpa using fun e => h.apart e.symm), h.lo, h.l.touch t (fun k hk => by rw [List.mem_singleton.1 hk]; exact h.l.ne h.s.q (by decide)), h.ne, h.gl, h.nt⟩
theorem Mq.put (h : Mq T w0 w g gB n x m H P last G Z AL cL) {i : Nat} (hi : i < PTeam.cnt m) (v : Int) : Mq T w0 (w.setCell ⟨gB, i, none⟩ (.int .i64 v)) g gB n x m H P last (G.set i v) Z AL cL := by
  have t : Touch [gB] w (w.setCell ⟨gB, i, none⟩ (.int .i64 v)) := (Touch.refl [gB] w).cell (List.mem_singleton.2 rfl) _ _
  refine ⟨h.s.far t (by simpa using h.lo) (by simpa using h.apart), ?_, h.lo, h.l.touch t (fun k hk => by rw [List.mem_singleton.1 hk]; exact h.ne), h.ne, by rw [List.length_set]; exact h.gl, h.nt⟩
  have := h.r.set i (.int .i64 v)
  rw [row_set _ _ (by rw [h.gl]; exact hi)] at this
  exact this
theorem Mq.at_ (h : Mq T w0 w g gB n x m H P last G Z AL cL) {i : Nat} (hi : i < PTeam.cnt m) : w.cell? ⟨gB, i, none⟩ = some (.int .i64 (G.getD i 0)) := h.r.cell (row_at G Z (by rw [h.gl]; exact hi))
theorem Mq.id (h : Mq T w0 w g gB n x m H P last G Z AL cL) {i : Nat} (hi : i < PTeam.cnt m) : ∃ b, AL = some ⟨b, 0, none⟩ ∧ w.cell? ⟨b, i, none⟩ = some (.int .i64 ((PTeam.lst m).getD i 0)) := by
  obtain ⟨b, hA, _⟩ := h.l.some (by omega)
  exact ⟨b, hA, (h.l.cell hA (is_get _ (by rw [PTeam.lst_length]; exact hi))).1⟩
theorem Mq.seen {bL : Nat} (h : Mq T w0 w g gB n x m H P last G Z (some ⟨bL, 0, none⟩) cL) {i : Nat} (hi : i < PTeam.cnt m) (t : Touch [g] w w') :
    w'.cell? ⟨bL, i, none⟩ = some (.int .i64 ((PTeam.lst m).getD i 0)) ∧ w'.cell? ⟨gB, i, none⟩ = some (.int .i64 (G.getD i 0)) := by
  have l1 := h.l.touch t (fun k hk => by rw [List.mem_singleton.1 hk]; exact h.l.ne h.s.q (by decide))
  have r1 := h.r.touch t (by simpa using fun e => h.apart e.symm)
  exact ⟨(l1.cell rfl (is_get _ (by rw [PTeam.lst_length]; exact hi))).1, r1.cell (row_at G Z (by rw [h.gl]; exact hi))⟩
theorem aH_zero {m : Nat} {H : List Int} {id v : Int} (ho : okA m id v = true) (h0 : H.getD (pl id) 0 = 0) (hv : 0 ≤ v) : aH m H id v = H.set (pl id) v := by
  unfold aH upd
  rw [ho, h0, if_pos rfl, Int.max_eq_right hv]
end
end Go.Proofs.Ytdgpjolohghboaa
