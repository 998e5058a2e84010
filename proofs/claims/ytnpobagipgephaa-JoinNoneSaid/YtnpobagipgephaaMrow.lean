/- 'Ms': a row of messages of the law's own, with their entries. -/
import Derived.Test.YtnpobagipgephaaOw
import Derived.Test.YtnpobagipgephaaMsgL
import Derived.Test.YtnpobagipgephaaRowK
namespace Go.Proofs.Ytnpobagipgephaa
open Go.RowKit

/-- A message with a slice beside it: its entries', or its bytes'. -/
structure Mp where
  m : Msg
  A : Option Addr
  c : Nat
def mgc (q : Mp) : List Value := mcs q.m q.A q.c
def mgs (Q : List Mp) : List Value := Q.flatMap mgc
theorem mgc_length (q : Mp) : (mgc q).length = 13 := rfl
theorem mgs_length (Q : List Mp) : (mgs Q).length = Q.length * 13 := rows_len mgc_length Q
theorem mgs_append (a b : List Mp) : mgs (a ++ b) = mgs a ++ mgs b := by simp [mgs]
theorem mgs_one (q : Mp) : mgs [q] = mgc q := by simp [mgs]
theorem mgs_take (Q : List Mp) (i : Nat) : (mgs Q).take (i * 13) = mgs (Q.take i) := rows_take mgc_length Q i
theorem mgs_drop (Q : List Mp) (i : Nat) : (mgs Q).drop (i * 13) = mgs (Q.drop i) := rows_drop mgc_length Q i
theorem mgc_oneCell (q : Mp) : ∀ u ∈ mgc q, u.oneCell' = true := by
  intro u hu
  simp only [mgc, mcs, List.mem_cons, List.not_mem_nil, or_false] at hu
  rcases hu with rfl | rfl | rfl | rfl | rfl | rfl | rfl | rfl | rfl | rfl | rfl | rfl | rfl <;> rfl
theorem mgs_oneCell (Q : List Mp) : ∀ u ∈ mgs Q, u.oneCell' = true := fun u hu => by
  obtain ⟨q, _, h⟩ := List.mem_flatMap.1 hu
  exact mgc_oneCell q u h

/-- A row of messages, with entries, of the law's own (above base). -/
structure Ms (w : World) (base : Nat) (A : Option Addr) (c : Nat) (Q : List Mp) : Prop where
  row : Ow w base 30 13 A Q.length c (mgs Q)
  ents : ∀ q ∈ Q, Ow w base 47 7 q.A q.m.es.length q.c (els q.m.es)
  fit : ∀ q ∈ Q, -9223372036854775808 ≤ q.m.mem ∧ q.m.mem ≤ 9223372036854775807
section
variable {w w' : World} {base c g : Nat} {A : Option Addr} {Q : List Mp} {S : List Nat}
theorem Ms.nil (w : World) (base : Nat) : Ms w base none 0 [] := ⟨Ow.nil _ _ _ _, by simp, by simp⟩
theorem Ms.touch (h : Ms w base A c Q) (ht : Touch S w w') (h1 : ∀ s ∈ S, ∃ t ys, Blk w s t ys ∧ t ≠ 30) (h2 : ∀ s ∈ S, ∃ t ys, Blk w s t ys ∧ t ≠ 47) : Ms w' base A c Q :=
  ⟨h.row.other ht h1, fun q hq => (h.ents q hq).other ht h2, h.fit⟩
theorem Ms.past (h : Ms w base A c Q) (hb : Below w.heap.size w w') : Ms w' base A c Q := h.touch (S := []) (.of_below hb) (by simp) (by simp)
theorem Ms.drew (h : Ms w base A c Q) : Ms w.drew base A c Q := h.past ((Below.refl _ _).drew)
theorem Ms.down {base' : Nat} (h : Ms w base A c Q) (hb : base' ≤ base) : Ms w base' A c Q := ⟨h.row.down hb, fun q hq => (h.ents q hq).down hb, h.fit⟩
/-- The one at place i. -/
theorem Ms.at_ (h : Ms w base A c Q) {i : Nat} (hi : i < Q.length) : ∃ b o q, A = some ⟨b, o, none⟩ ∧ b < w.heap.size ∧ Q[i]? = some q ∧ q ∈ Q ∧ w.rangeAt b (o + i * 13) (mcs q.m q.A q.c) ∧ Rd w w.heap.size q.A q.c 7 q.m.es.length (els q.m.es) := by
  obtain ⟨b, o, hA, hb, hc⟩ := h.row.rd.2.2.2.2 (by omega)
  have he : Q[i]? = some Q[i] := List.getElem?_eq_getElem hi
  refine ⟨b, o, Q[i], hA, hb, he, List.getElem_mem _, fun j v hv => ?_, (h.ents _ (List.getElem_mem _)).rd⟩
  have hj : j < 13 := (List.getElem?_eq_some_iff.1 hv).1
  rw [Nat.add_assoc]
  refine hc (i * 13 + j) v ?_
  have := rows_at mgc_length he hj
  exact this.trans hv
/-- A row that was just made. -/
theorem Ms.lit (us : Array Value) (hu : us.toList = mgs Q) (hb : base ≤ w.heap.size) (hn : Q.length ≤ 1000) (he : ∀ q ∈ Q, Ow w base 47 7 q.A q.m.es.length q.c (els q.m.es)) (hf : ∀ q ∈ Q, -9223372036854775808 ≤ q.m.mem ∧ q.m.mem ≤ 9223372036854775807) :
    Ms (w.alloc (.cells us 30)) base (some ⟨w.heap.size, 0, none⟩) Q.length Q := by
  have hbel : Below w.heap.size w (w.alloc (.cells us 30)) := (Below.refl _ _).alloc (Nat.le_refl _) _
  refine ⟨⟨mgs_length Q, .inr ⟨w.heap.size, [], rfl, hb, ?_, Nat.le_refl _, by unfold maxLen; omega, by rw [List.append_nil, mgs_length]; omega⟩⟩, fun q hq => (he q hq).past hbel, hf⟩
  have := Blk.new w us 30
  rw [hu] at this
  rwa [List.append_nil]
theorem Ms.app {A2 : Option Addr} {c2 : Nat} {q : Mp} (h : Ms w base A c Q) (hg : w.grownBy w' (bk A)) (hO : Ow w' base 30 13 A2 (Q.length + 1) c2 (mgs Q ++ mgc q))
    (he : Ow w base 47 7 q.A q.m.es.length q.c (els q.m.es)) (hf : -9223372036854775808 ≤ q.m.mem ∧ q.m.mem ≤ 9223372036854775807) : Ms w' base A2 c2 (Q ++ [q]) := by
  have hT : Touch (bl A) w w' := Touch.of_bk hg
  have hp : ∀ s ∈ bl A, ∃ t ys, Blk w s t ys ∧ t ≠ 47 := fun s hs => by
    obtain ⟨ys, hy⟩ := h.row.blk (mem_bl.1 hs)
    exact ⟨_, _, hy, by decide⟩
  refine ⟨by rw [mgs_append, mgs_one, List.length_append]; exact hO, fun p hp' => ?_, fun p hp' => ?_⟩
  · rcases List.mem_append.1 hp' with h1 | h1
    · exact (h.ents p h1).other hT hp
    · rw [List.mem_singleton.1 h1]; exact he.other hT hp
  · rcases List.mem_append.1 hp' with h1 | h1
    · exact h.fit p h1
    · rw [List.mem_singleton.1 h1]; exact hf
/-- A part of it, in another row. -/
theorem Ms.part {A2 : Option Addr} {c2 : Nat} {Q2 : List Mp} (h : Ms w base A c Q) (hb : Below w.heap.size w w') (hO : Ow w' base 30 13 A2 Q2.length c2 (mgs Q2)) (hs : ∀ q ∈ Q2, q ∈ Q) : Ms w' base A2 c2 Q2 :=
  ⟨hO, fun q hq => (h.ents q (hs q hq)).past hb, fun q hq => h.fit q (hs q hq)⟩
end

theorem nMsg_info : (Try.prog.info? 30).map (fun i => (i.zero, i.size, i.bytes)) = some (some (mv zeroM none 0), 13, 120) := by kernel_rfl
end Go.Proofs.Ytnpobagipgephaa
