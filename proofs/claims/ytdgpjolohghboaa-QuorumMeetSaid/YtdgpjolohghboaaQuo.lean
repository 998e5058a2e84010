/- 'Qs': the program's quorum at block g; 'Rq': the document's own. -/
import Derived.Test.YtdgpjolohghboaaPlainQuo
import Derived.Test.YtdgpjolohghboaaOw
import Derived.Test.YtdgpjolohghboaaInt
namespace Go.Proofs.Ytdgpjolohghboaa
open Go.RowKit PQuo

def qcs (n me : Int) (m : Nat) (H P : List Int) (last : Int) : List Value := [.int .i64 n, .int .i64 me, .int .i64 m] ++ (is H ++ (is P ++ [.int .i64 last]))
def rcs (n me : Int) (m : Nat) (H P : List Int) (last : Int) : List Value := [.int .i64 n, .int .i64 m, .int .i64 me, .int .i64 0] ++ (is H ++ (.int .i64 0 :: is P ++ [.int .i64 last]))
def Qs (w : World) (g : Nat) (n me : Int) (m : Nat) (H P : List Int) (last : Int) : Prop := Blk w g 52 (qcs n me m H P last)
/-- What holds of one that was made. -/
structure Qk (n me : Int) (m : Nat) (H P : List Int) (last : Int) : Prop where
  most : PTeam.most m n = true
  me : PTeam.has m me = true
  h : Ok m H 60
  p : Ok m P last
  l0 : 0 ≤ last
  l1 : last ≤ 100
theorem Qk.n {n me : Int} {m : Nat} {H P : List Int} {last : Int} (h : Qk n me m H P last) : 3 ≤ n ∧ n ≤ 7 ∧ m < 128 := ⟨(most_in h.most).1, (most_in h.most).2.1, (most_in h.most).2.2.1⟩

theorem is_get (H : List Int) {k : Nat} (hk : k < H.length) : (is H)[k]? = some (.int .i64 (H.getD k 0)) := by
  simp [is, List.getD_eq_getElem?_getD, List.getElem?_eq_getElem hk]
theorem is_set (H : List Int) (k : Nat) (x : Int) : (is H).set k (.int .i64 x) = is (H.set k x) := by
  unfold is; rw [List.map_set]
section
variable {n me : Int} {m : Nat} {H P : List Int} {last : Int}
theorem qcs_n : (qcs n me m H P last)[0]? = some (.int .i64 n) := rfl
theorem qcs_me : (qcs n me m H P last)[1]? = some (.int .i64 me) := rfl
theorem qcs_m : (qcs n me m H P last)[2]? = some (.int .i64 m) := rfl
theorem qcs_h (hl : H.length = 7) {k : Nat} (hk : k < 7) : (qcs n me m H P last)[3 + k]? = some (.int .i64 (H.getD k 0)) := by
  unfold qcs
  rw [List.getElem?_append_right (by simp)]
  have e : 3 + k - [Value.int .i64 n, .int .i64 me, .int .i64 m].length = k := by simp
  rw [e, List.getElem?_append_left (by rw [is_length]; omega), is_get H (by omega)]
theorem qcs_p (hl : H.length = 7) (pl : P.length = 7) {k : Nat} (hk : k < 7) : (qcs n me m H P last)[10 + k]? = some (.int .i64 (P.getD k 0)) := by
  unfold qcs
  rw [List.getElem?_append_right (by simp; omega), List.getElem?_append_right (by simp [is_length]; omega)]
  have e : 10 + k - [Value.int .i64 n, .int .i64 me, .int .i64 m].length - (is H).length = k := by rw [is_length, hl]; simp; omega
  rw [e, List.getElem?_append_left (by rw [is_length]; omega), is_get P (by omega)]
theorem qcs_last (hl : H.length = 7) (pl : P.length = 7) : (qcs n me m H P last)[17]? = some (.int .i64 last) := by
  unfold qcs
  rw [List.getElem?_append_right (by simp), List.getElem?_append_right (by simp [is_length]; omega), List.getElem?_append_right (by simp [is_length]; omega)]
  have e : 17 - [Value.int .i64 n, .int .i64 me, .int .i64 m].length - (is H).length - (is P).length = 0 := by rw [is_length, is_length, hl, pl]; rfl
  rw [e]; rfl
theorem qset_h (hl : H.length = 7) {k : Nat} (hk : k < 7) (x : Int) : (qcs n me m H P last).set (3 + k) (.int .i64 x) = qcs n me m (H.set k x) P last := by
  unfold qcs
  rw [List.set_append_right _ _ (by simp)]
  have e : 3 + k - [Value.int .i64 n, .int .i64 me, .int .i64 m].length = k := by simp
  rw [e, List.set_append_left _ _ (by rw [is_length]; omega), is_set]
theorem qset_p (hl : H.length = 7) (pl : P.length = 7) {k : Nat} (hk : k < 7) (x : Int) : (qcs n me m H P last).set (10 + k) (.int .i64 x) = qcs n me m H (P.set k x) last := by
  unfold qcs
  rw [List.set_append_right _ _ (by simp; omega), List.set_append_right _ _ (by simp [is_length]; omega)]
  have e : 10 + k - [Value.int .i64 n, .int .i64 me, .int .i64 m].length - (is H).length = k := by rw [is_length, hl]; simp; omega
  rw [e, List.set_append_left _ _ (by rw [is_length]; omega), is_set]
theorem qset_last (hl : H.length = 7) (pl : P.length = 7) (x : Int) : (qcs n me m H P last).set 17 (.int .i64 x) = qcs n me m H P x := by
  unfold qcs
  rw [List.set_append_right _ _ (by simp), List.set_append_right _ _ (by simp [is_length]; omega), List.set_append_right _ _ (by simp [is_length]; omega)]
  have e : 17 - [Value.int .i64 n, .int .i64 me, .int .i64 m].length - (is H).length - (is P).length = 0 := by rw [is_length, is_length, hl, pl]; rfl
  rw [e]; rfl
theorem rcs_n : (rcs n me m H P last)[0]? = some (.int .i64 n) := rfl
theorem rcs_m : (rcs n me m H P last)[1]? = some (.int .i64 m) := rfl
theorem rcs_me : (rcs n me m H P last)[2]? = some (.int .i64 me) := rfl
theorem rcs_h (hl : H.length = 7) {k : Nat} (hk : k < 7) : (rcs n me m H P last)[4 + k]? = some (.int .i64 (H.getD k 0)) := by
  unfold rcs
  rw [List.getElem?_append_right (by simp)]
  have e : 4 + k - [Value.int .i64 n, .int .i64 m, .int .i64 me, .int .i64 0].length = k := by simp
  rw [e, List.getElem?_append_left (by rw [is_length]; omega), is_get H (by omega)]
theorem rcs_p (hl : H.length = 7) (pl : P.length = 7) {k : Nat} (hk : k < 7) : (rcs n me m H P last)[12 + k]? = some (.int .i64 (P.getD k 0)) := by
  unfold rcs
  rw [List.getElem?_append_right (by simp; omega), List.getElem?_append_right (by simp [is_length]; omega)]
  have e : 12 + k - [Value.int .i64 n, .int .i64 m, .int .i64 me, .int .i64 0].length - (is H).length = k + 1 := by rw [is_length, hl]; simp; omega
  rw [e, List.getElem?_append_left (by simp [is_length]; omega), List.getElem?_cons_succ, is_get P (by omega)]
theorem rcs_last (hl : H.length = 7) (pl : P.length = 7) : (rcs n me m H P last)[19]? = some (.int .i64 last) := by
  unfold rcs
  rw [List.getElem?_append_right (by simp), List.getElem?_append_right (by simp [is_length]; omega), List.getElem?_append_right (by simp [is_length]; omega)]
  have e : 19 - [Value.int .i64 n, .int .i64 m, .int .i64 me, .int .i64 0].length - (is H).length - (Value.int .i64 0 :: is P).length = 0 := by simp [is_length, hl, pl]
  rw [e]; rfl
theorem rset_h (hl : H.length = 7) {k : Nat} (hk : k < 7) (x : Int) : (rcs n me m H P last).set (4 + k) (.int .i64 x) = rcs n me m (H.set k x) P last := by
  unfold rcs
  rw [List.set_append_right _ _ (by simp)]
  have e : 4 + k - [Value.int .i64 n, .int .i64 m, .int .i64 me, .int .i64 0].length = k := by simp
  rw [e, List.set_append_left _ _ (by rw [is_length]; omega), is_set]
theorem rset_p (hl : H.length = 7) (pl : P.length = 7) {k : Nat} (hk : k < 7) (x : Int) : (rcs n me m H P last).set (12 + k) (.int .i64 x) = rcs n me m H (P.set k x) last := by
  unfold rcs
  rw [List.set_append_right _ _ (by simp; omega), List.set_append_right _ _ (by simp [is_length]; omega)]
  have e : 12 + k - [Value.int .i64 n, .int .i64 m, .int .i64 me, .int .i64 0].length - (is H).length = k + 1 := by rw [is_length, hl]; simp; omega
  rw [e, List.set_append_left _ _ (by simp [is_length]; omega), List.set_cons_succ, is_set]
theorem rset_last (hl : H.length = 7) (pl : P.length = 7) (x : Int) : (rcs n me m H P last).set 19 (.int .i64 x) = rcs n me m H P x := by
  unfold rcs
  rw [List.set_append_right _ _ (by simp), List.set_append_right _ _ (by simp [is_length]; omega), List.set_append_right _ _ (by simp [is_length]; omega)]
  have e : 19 - [Value.int .i64 n, .int .i64 m, .int .i64 me, .int .i64 0].length - (is H).length - (Value.int .i64 0 :: is P).length = 0 := by simp [is_length, hl, pl]
  rw [e]; rfl
end
/-- The document's own, at block g. -/
def Rq (w : World) (g : Nat) (n me : Int) (m : Nat) (H P : List Int) (last : Int) : Prop := Blk w g 32 (rcs n me m H P last)
section
variable {w w' : World} {g : Nat} {n me : Int} {m : Nat} {H P : List Int} {last : Int} {S : List Nat}
theorem Qs.touch (h : Qs w g n me m H P last) (ht : Touch S w w') (hg : g ∉ S) : Qs w' g n me m H P last := Blk.touch h ht hg
theorem Qs.past (h : Qs w g n me m H P last) (hb : Below w.heap.size w w') : Qs w' g n me m H P last := Blk.past h hb
theorem Qs.lt (h : Qs w g n me m H P last) : g < w.heap.size := Blk.lt h
theorem Rq.touch (h : Rq w g n me m H P last) (ht : Touch S w w') (hg : g ∉ S) : Rq w' g n me m H P last := Blk.touch h ht hg
theorem Rq.past (h : Rq w g n me m H P last) (hb : Below w.heap.size w w') : Rq w' g n me m H P last := Blk.past h hb
theorem Rq.lt (h : Rq w g n me m H P last) : g < w.heap.size := Blk.lt h
theorem Qs.ne {x : Nat} {e : TypeId} {xs : List Value} (h : Qs w g n me m H P last) (K : Blk w x e xs) (he : e ≠ 52) : x ≠ g := K.ne h he
end
/-- The list of seven by its members. -/
theorem seven (H : List Int) (h : H.length = 7) : ∃ a b c d e f g, H = [a, b, c, d, e, f, g] := by
  rcases H with _ | ⟨a, _ | ⟨b, _ | ⟨c, _ | ⟨d, _ | ⟨e, _ | ⟨f, _ | ⟨g, _ | ⟨i, H⟩⟩⟩⟩⟩⟩⟩⟩ <;> simp at h
  exact ⟨a, b, c, d, e, f, g, rfl⟩
end Go.Proofs.Ytdgpjolohghboaa
