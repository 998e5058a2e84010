/- Both queues of a law, its lists beside them. -/
import Derived.Test.YthmcjehpmfebaaaReadyM
import Derived.Test.YthmcjehpmfebaaaReadyJ
namespace Go.Proofs.Ythmcjehpmfebaaa
open Go.RowKit PReady

/-- The program's queue at g told T, the document's at gr TR. -/
structure Az (w0 w : World) (g : Nat) (F : List Nat) (gr : Nat) (FR : List Nat) (T TR : List Tl) : Prop where
  qu : Qu w g F T
  rq : Rq w gr FR TR
  low : ∀ k, k ∈ F ∨ k ∈ FR → w0.heap.size ≤ k
  dis : ∀ k ∈ F, k ∉ FR
  bel : Below w0.heap.size w0 w
/-- A list beside them. -/
structure Li (w : World) (F FR : List Nat) (A : Option Addr) (c : Nat) (l : List Ent) : Prop where
  rd : Rd w w.heap.size A c 7 l.length (els l)
  sp : 0 < l.length * 7 → ∀ k, k ∈ F ∨ k ∈ FR → bk A ≠ some k
section
variable {w0 w w' : World} {g gr : Nat} {F FR F' FR' S : List Nat} {T TR : List Tl} {A : Option Addr} {c : Nat} {l : List Ent}
theorem Az.past (h : Az w0 w g F gr FR T TR) (hb : Below w.heap.size w w') : Az w0 w' g F gr FR T TR := ⟨h.qu.past hb, h.rq.past hb, h.low, h.dis, h.bel.trans (hb.mono h.bel.size)⟩
theorem Az.drew (h : Az w0 w g F gr FR T TR) : Az w0 w.drew g F gr FR T TR := ⟨h.qu.drew, h.rq.drew, h.low, h.dis, h.bel.drew⟩
theorem Li.past (h : Li w F FR A c l) (hb : Below w.heap.size w w') : Li w' F FR A c l := ⟨(h.rd.past hb).tight, h.sp⟩
theorem Li.drew (h : Li w F FR A c l) : Li w.drew F FR A c l := ⟨h.rd, h.sp⟩
theorem Li.on (h : Li w F FR A c l) (ht : Touch S w w') (hS : ∀ k ∈ S, k ∈ F ∨ k ∈ FR) (h1 : ∀ k ∈ F', k ∈ F ∨ w.heap.size ≤ k) (h2 : ∀ k ∈ FR', k ∈ FR ∨ w.heap.size ≤ k) : Li w' F' FR' A c l := by
  refine ⟨(h.rd.touch ht (fun hz s hs => h.sp hz s (hS s hs))).tight, fun hz k hk => ?_⟩
  have new : w.heap.size ≤ k → bk A ≠ some k := by
    intro hq e
    obtain ⟨b, o, hA, hb, _⟩ := h.rd.2.2.2.2 hz
    rw [hA] at e
    have : b = k := by simpa [bk] using e
    omega
  rcases hk with hk | hk
  · rcases h1 k hk with q | q
    · exact h.sp hz k (.inl q)
    · exact new q
  · rcases h2 k hk with q | q
    · exact h.sp hz k (.inr q)
    · exact new q
theorem Rd.short {B n m : Nat} (h : Rd w B A c 7 n (els l)) (hm : m ≤ n) : Rd w B A c 7 m (els (l.take m)) := by
  refine ⟨?_, Nat.le_trans hm h.le, h.cap, h.2.2.2.1, fun hn => ?_⟩
  · rw [els_length, List.length_take]; have := h.elen; rw [Nat.min_eq_left (by omega)]
  · obtain ⟨b, o, hA, hb, hc⟩ := h.2.2.2.2 (by omega)
    refine ⟨b, o, hA, hb, fun j u hu => hc j u ?_⟩
    rw [← els_take, List.getElem?_take] at hu
    split at hu
    · exact hu
    · cases hu
theorem LL.take {m : Nat} (h : LL l m) (n : Nat) : LL (l.take n) m :=
  ⟨fun e he => h.may e (List.mem_of_mem_take he), List.Pairwise.sublist (List.take_sublist n l) h.ap, by have := h.le; rw [List.length_take]; omega⟩
/-- A call of the program's Go, over the list's first ones. -/
theorem Az.go {m n : Nat} (h : Az w0 w g F gr FR T TR) (hl : Li w F FR A c l) (hL : LL l m) (hm : m ≤ 60) (hn : n ≤ l.length) (hT : T.length ≤ 900000) (commit now : Int) :
    Calls Try.prog 17 #[.pointer (some ⟨g, 0, none⟩), .slice A n c, .int .i64 commit, .int .i64 now] w fun x w' => ∃ A' c' F', x = .returned (.slice A' (PReady.go commit now T (l.take n)).length c') ∧
      Ow w' w.heap.size 44 8 A' (PReady.go commit now T (l.take n)).length c' (tls (PReady.go commit now T (l.take n))) ∧ Az w0 w' g F' gr FR (T ++ PReady.go commit now T (l.take n)) TR ∧ Touch F w w' ∧ (∀ k ∈ F', k ∈ F ∨ w.heap.size ≤ k) := by
  have hle := hL.le
  refine (Go_c w g F T h.qu A c n (l.take n) (hl.rd.short hn) (fun hz k hk => hl.sp (by omega) k (.inl hk)) (hL.take n).fit (hL.take n).ap (by omega) (by omega) commit now).mono ?_
  rintro x w' ⟨A', c', rfl, ho, hq⟩
  obtain ⟨F', q1, q2⟩ := hq.ex
  have ht := hq.touch
  refine ⟨A', c', F', rfl, Ow.of_own ho, ⟨q1, h.rq.touch ht h.dis, fun k hk => ?_, fun k hk hr => ?_, h.bel.trans (ht.below (fun k hk => h.low k (.inl hk)) h.bel.size)⟩, ht, q2⟩
  · rcases hk with hk | hk
    · rcases q2 k hk with q | q
      · exact h.low k (.inl q)
      · exact Nat.le_trans h.bel.size q
    · exact h.low k (.inr hk)
  · rcases q2 k hk with q | q
    · exact h.dis k q hr
    · have := h.rq.hi k hr; omega
/-- A call of the document's Go. -/
theorem Az.rgo {m n : Nat} (h : Az w0 w g F gr FR T TR) (hl : Li w F FR A c l) (hL : LL l m) (hm : m ≤ 60) (hn : n ≤ l.length) (hT : TR.length ≤ 900000) (commit now : Int) (hnow : -9223372036854775808 ≤ now ∧ now ≤ 9223372036854775807) :
    Calls Try.prog 18 #[.pointer (some ⟨gr, 0, none⟩), .slice A n c, .int .i64 commit, .int .i64 now] w fun x w' => ∃ A' c' FR', x = .returned (.slice A' (PReady.go commit now TR (l.take n)).length c') ∧
      Ow w' w.heap.size 44 8 A' (PReady.go commit now TR (l.take n)).length c' (tls (PReady.go commit now TR (l.take n))) ∧ Az w0 w' g F gr FR' T (TR ++ PReady.go commit now TR (l.take n)) ∧ Touch FR w w' ∧ (∀ k ∈ FR', k ∈ FR ∨ w.heap.size ≤ k) := by
  have hle := hL.le
  refine (rGo_c w gr FR TR h.rq A c n (l.take n) (hl.rd.short hn) (fun hz k hk => hl.sp (by omega) k (.inr hk)) (hL.take n).may (by omega) (by omega) commit now hnow).mono ?_
  rintro x w' ⟨A', c', rfl, ho, hq⟩
  obtain ⟨F', q1, q2⟩ := hq.ex
  have ht := hq.touch
  refine ⟨A', c', F', rfl, ho, ⟨h.qu.touch ht (fun k hk hf => h.dis k hf hk), q1, fun k hk => ?_, fun k hk hr => ?_, h.bel.trans (ht.below (fun k hk => h.low k (.inr hk)) h.bel.size)⟩, ht, q2⟩
  · rcases hk with hk | hk
    · exact h.low k (.inl hk)
    · rcases q2 k hk with q | q
      · exact h.low k (.inr q)
      · exact Nat.le_trans h.bel.size q
  · rcases q2 k hr with q | q
    · exact h.dis k hk q
    · have := h.qu.hi k hk; omega
/-- A new queue of the document's, behind a new one of the program's. -/
theorem Az.made {w3 w4 : World} (b : Below w0.heap.size w0 w3) (q : Qu w4 w3.heap.size [w3.heap.size] []) (b4 : Below w3.heap.size w3 w4) :
    Az w0 (w4.alloc (.cells #[.slice none 0 0] 32)) w3.heap.size [w3.heap.size] w4.heap.size [w4.heap.size] [] [] := by
  have hlt := q.hi w3.heap.size (List.mem_cons_self ..)
  refine ⟨q.alloc _, ⟨⟨none, 0, Blk.new w4 _ _, Ow.nil _ _ _ _, rfl⟩, by simp⟩, fun k hk => ?_, fun k hk hr => ?_, (b.trans (b4.mono b.size)).alloc (Nat.le_trans b.size b4.size) _⟩
  · rcases hk with hk | hk
    · rw [List.mem_singleton.1 hk]; exact b.size
    · rw [List.mem_singleton.1 hk]; exact Nat.le_trans b.size b4.size
  · rw [List.mem_singleton.1 hk] at hr
    have := List.mem_singleton.1 hr
    omega
theorem Li.made {w3 w4 : World} {B : Nat} {g gr : Nat} (h : Rd w3 B A c 7 l.length (els l)) (b4 : Below w3.heap.size w3 w4) (h1 : w3.heap.size ≤ g) (h2 : w3.heap.size ≤ gr) : Li w4 [g] [gr] A c l :=
  ⟨(h.past b4).tight, fun hz k hk e => by
    obtain ⟨b', o, hA, hb, _⟩ := h.tight.2.2.2.2 hz
    rw [hA] at e
    have : b' = k := by simpa [bk] using e
    rcases hk with hk | hk <;> have := List.mem_singleton.1 hk <;> omega⟩
end
end Go.Proofs.Ythmcjehpmfebaaa
