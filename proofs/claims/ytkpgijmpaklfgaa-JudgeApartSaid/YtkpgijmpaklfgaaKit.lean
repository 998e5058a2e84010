/- My words for slices: 'Rd': a slice value that reads as cells; laws of append, slice and conversion for the walk. No program is named here. -/
import Derived.WalkKit
import Derived.ProofKit
import Derived.Below
import Derived.OwnWalk
import Derived.Laws.AppendOwnNone
import Derived.Laws.BytesArg
import Derived.Laws.OwnMore
import Derived.Maps.AppendAt
import Derived.Lib.Hide
import Derived.Lib.AppendStr
import Derived.Deep.DeepMust
import Derived.Deep.DeepFit
import Derived.WalkSpells
import Derived.OpenShut
namespace Go.Proofs.Ytkpgijmpaklfgaa
open Go.RowKit

theorem add_zero_spot (b o j : Nat) : (⟨b, o, none⟩ : Addr).add j = ⟨b, o + j, none⟩ := by
  unfold Addr.add; split
  · next h => subst h; rfl
  · rfl

/-- The slice value '.slice A n c' reads as the n * k cells xs, and lies below block B. -/
def Rd (w : World) (B : Nat) (A : Option Addr) (c k n : Nat) (xs : List Value) : Prop :=
  xs.length = n * k ∧ n ≤ c ∧ c ≤ maxLen ∧ (A = none → c = 0) ∧
  (0 < n * k → ∃ b o, A = some ⟨b, o, none⟩ ∧ b < B ∧ ∀ j u, xs[j]? = some u → w.cell? ⟨b, o + j, none⟩ = some u)

section
variable {w w' : World} {B B' : Nat} {A : Option Addr} {c k n : Nat} {xs : List Value}
theorem Rd.len (h : Rd w B A c k n xs) : xs.length = n * k := h.1
theorem Rd.le (h : Rd w B A c k n xs) : n ≤ c := h.2.1
theorem Rd.cap (h : Rd w B A c k n xs) : c ≤ maxLen := h.2.2.1
theorem Rd.nil (w : World) (B k : Nat) : Rd w B none 0 k 0 [] := ⟨by simp, by omega, by simp [maxLen], fun _ => rfl, fun h => by omega⟩
theorem Rd.keep (h : Rd w B A c k n xs) (hk : ∀ p : Addr, p.block < B → w'.cell? p = w.cell? p) : Rd w' B A c k n xs :=
  ⟨h.1, h.2.1, h.2.2.1, h.2.2.2.1, fun hn => by
    obtain ⟨b, o, e, hb, hc⟩ := h.2.2.2.2 hn
    exact ⟨b, o, e, hb, fun j u hu => (hk _ hb).trans (hc j u hu)⟩⟩
theorem Rd.more (h : Rd w B A c k n xs) (hB : B ≤ B') : Rd w B' A c k n xs :=
  ⟨h.1, h.2.1, h.2.2.1, h.2.2.2.1, fun hn => by
    obtain ⟨b, o, e, hb, hc⟩ := h.2.2.2.2 hn
    exact ⟨b, o, e, by omega, hc⟩⟩
theorem Rd.below (h : Rd w B A c k n xs) (hb : Below B w w') : Rd w' B A c k n xs := h.keep fun _ hp => hb.cell hp
/-- Behind a call that made memory of its own alone. -/
theorem Rd.past (h : Rd w B A c k n xs) (hb : Below w.heap.size w w') : Rd w' B A c k n xs :=
  ⟨h.1, h.2.1, h.2.2.1, h.2.2.2.1, fun hn => by
    obtain ⟨b, o, e, hB, hc⟩ := h.2.2.2.2 hn
    exact ⟨b, o, e, hB, fun j u hu => by
      have hlt : b < w.heap.size := World.block_lt_of_cell? w _ (hc j u hu)
      exact (hb.cell (p := ⟨b, o + j, none⟩) hlt).trans (hc j u hu)⟩⟩
theorem Rd.drew (h : Rd w B A c k n xs) : Rd w.drew B A c k n xs := h
theorem Rd.alloc (h : Rd w B A c k n xs) (o : Obj) : Rd (w.alloc o) B A c k n xs := h.past ((Below.refl _ _).alloc (Nat.le_refl _) _)
theorem Rd.setCell (h : Rd w B A c k n xs) {p : Addr} (hB : B ≤ p.block) (u : Value) : Rd (w.setCell p u) B A c k n xs :=
  h.below ((Below.refl _ _).setCell hB u)
theorem Rd.tight (h : Rd w B A c k n xs) : Rd w w.heap.size A c k n xs :=
  ⟨h.1, h.2.1, h.2.2.1, h.2.2.2.1, fun hn => by
    obtain ⟨b, o, e, hB, hc⟩ := h.2.2.2.2 hn
    have h0 : 0 < xs.length := by rw [h.1]; exact hn
    exact ⟨b, o, e, World.block_lt_of_cell? w _ (hc 0 _ (List.getElem?_eq_getElem h0)), hc⟩⟩
theorem Rd.cells (h : Rd w B A c k n xs) {ad : Addr} (hA : A = some ad) : ∀ j u, xs[j]? = some u → w.cell? (ad.add j) = some u := by
  intro j u hu
  have h0 : 0 < n * k := by rw [← h.1]; exact Nat.lt_of_le_of_lt (Nat.zero_le _) (List.getElem?_eq_some_iff.1 hu).1
  obtain ⟨b, o, e, _, hc⟩ := h.2.2.2.2 h0
  rw [hA] at e; obtain rfl := Option.some.inj e
  rw [add_zero_spot]; exact hc j u hu
theorem Rd.at_ (h : Rd w B A c 1 n xs) {i : Nat} (hi : i < n) : ∃ b o, A = some ⟨b, o, none⟩ ∧ b < B ∧ w.cell? ⟨b, o + i, none⟩ = some (xs.getD i undef) := by
  obtain ⟨b, o, e, hb, hc⟩ := h.2.2.2.2 (by omega)
  have hl : i < xs.length := by have := h.1; omega
  refine ⟨b, o, e, hb, ?_⟩
  rw [hc i xs[i] (List.getElem?_eq_getElem hl)]
  simp [List.getD, List.getElem?_eq_getElem hl]
theorem Rd.of_own {base : Nat} {e : TypeId} (h : w.ownsRow base e k (.slice A n c) n xs) : Rd w w.heap.size A c k n xs := by
  refine ⟨h.1, ?_⟩
  rcases h.2 with ⟨e1, e2⟩ | ⟨g, cap, cur, e1, hb, hg, hn, hc, hs, ht⟩
  · injection e1 with e1 e3 e4; subst e1 e2 e4
    exact ⟨by omega, by simp [maxLen], fun _ => rfl, fun hh => by omega⟩
  · injection e1 with e1 e3 e4; subst e1 e4
    refine ⟨hn, hc, fun hh => (by cases hh), fun _ => ⟨g, 0, rfl, (Array.getElem?_eq_some_iff.1 hg).1, fun j u hu => ?_⟩⟩
    have := h.cells (g := g) rfl j u hu
    rwa [add_zero_spot] at this
/-- A cut 's[l:h]' of what reads. -/
theorem Rd.cut (h : Rd w B A c k n xs) {l m : Nat} (hl : l ≤ m) (hm : m ≤ n) :
    Rd w B (if c = l then A else A.map (·.add (l * k))) (c - l) k (m - l) ((xs.drop (l * k)).take ((m - l) * k)) := by
  have hle := h.le
  have hlen := h.1
  have hcap := h.cap
  have hmk : m * k ≤ n * k := Nat.mul_le_mul_right k hm
  refine ⟨?_, by omega, by omega, ?_, ?_⟩
  · rw [List.length_take, List.length_drop, hlen, Nat.sub_mul, Nat.min_eq_left (by omega)]
  · intro hh
    split at hh
    · omega
    · have := h.2.2.2.1 (by cases A <;> simp_all); omega
  · intro hn
    have hpos : 0 < n * k := by rw [Nat.sub_mul] at hn; omega
    obtain ⟨b, o, rfl, hb, hc⟩ := h.2.2.2.2 hpos
    have hne : ¬ c = l := by
      intro e; subst e
      have : m - c = 0 := by omega
      rw [this] at hn; simp at hn
    rw [if_neg hne]
    refine ⟨b, o + l * k, by simp [add_zero_spot], hb, fun j u hu => ?_⟩
    rw [Nat.add_assoc]
    refine hc (l * k + j) u ?_
    rw [List.getElem?_take] at hu
    split at hu
    · rwa [List.getElem?_drop] at hu
    · cases hu
end

theorem bel_own {w : World} {base : Nat} {e : TypeId} {k n : Nat} {v : Value} {xs : List Value} (h : w.ownsRow base e k v n xs) : ∀ g, v.ownBlock = some g → base ≤ g := fun g hg => (h.lt g hg).1

theorem own_below {w w' : World} {base : Nat} {e : TypeId} {k n : Nat} {v : Value} {xs : List Value} (h : w.ownsRow base e k v n xs) (hb : Below w.heap.size w w') : w'.ownsRow base e k v n xs :=
  h.kept (row := none) ⟨hb.os, hb.tape, hb.output, hb.size, fun k hk _ => hb.block k hk⟩ (by cases hv : v.ownBlock <;> simp)

theorem own_slice {w : World} {base : Nat} {e : TypeId} {k n : Nat} {v : Value} {xs : List Value} (h : w.ownsRow base e k v n xs) : ∃ A c, v = .slice A n c := by
  rcases h.2 with ⟨rfl, rfl⟩ | ⟨g, cap, cur, rfl, _⟩
  · exact ⟨none, 0, rfl⟩
  · exact ⟨_, _, rfl⟩

/-- 'append' onto a row of the call's own, whatever the source. -/
theorem wpList_app {P : Program} {w : World} {ops : Array Oper} {rest : List Oper} {o : Oper} {a : Act} {Q : Exit → Act → World → Prop} (hgd : o.guard = none) (s x : Operand) (t : TypeId)
    (ho : o.op = .call { callee := .builtin .append, args := #[s, x], argTypes := #[t, t] })
    (base : Nat) (e : TypeId) (z : Value) (k bytes : Nat) (ht : P.underlying t = some (.slice e)) (hi : (P.info? e).map (fun i => (i.zero, i.size, i.bytes)) = some (some z, k, bytes))
    (hzs : z.cells.size = k) (hsz : 0 < k)
    (v : Value) (n : Nat) (xs : List Value) (hs : a.eval s = v) (hown : w.ownsRow base e k v n xs)
    (B : Nat) (A : Option Addr) (c m : Nat) (news : List Value) (hx : a.eval x = .slice A m c) (hr : Rd w B A c k m news) (h1 : ∀ u ∈ news, u.oneCell' = true)
    (h63 : n + m ≤ maxLen) (hbytes : (n + m) * bytes ≤ 140737488355328) (hbase : base ≤ w.heap.size)
    (h : ∀ A' c' w', w'.ownsRow base e k (.slice A' (n + m) c') (n + m) (xs ++ news) → w.grownBy w' v.ownBlock → Below base w w' → wpList P ops Q rest (a.put o.dst (.slice A' (n + m) c')) w') :
    wpList P ops Q (o :: rest) a w := by
  obtain ⟨i, hi0, hz, hk, hby⟩ := info_parts hi
  rcases A with _ | ad
  · have hc0 := hr.2.2.2.1 rfl
    have hm : m = 0 := by have := hr.le; omega
    subst hm hc0
    have hn : news = [] := List.eq_nil_of_length_eq_zero (by simpa using hr.1)
    subst hn
    refine wpList_append_own_none hgd s x t ho base e i k ht hi0 v n xs hs hown hx ?_
    obtain ⟨A', c', rfl⟩ := own_slice hown
    exact h A' c' w (by simpa using hown) (World.grownBy.refl _ _) (Below.refl _ _)
  · refine wpList_append_own _ hgd s x t ho base e i z k bytes ht hi0 hz hk hby hzs hsz v n xs hs hown ad m c news hx hr.1 (hr.cells rfl) h1 h63 hbytes hbase fun v' w' h2 h3 _ => ?_
    obtain ⟨A', c', rfl⟩ := own_slice h2
    exact h A' c' w' h2 h3 ((Below.refl _ _).grown h3 hbase (bel_own hown))

/-- 'append' of cells that were just boxed: 'append(b, x)', 'append(b, x, y)'. -/
theorem wpList_pushes {P : Program} {w : World} {ops : Array Oper} {rest : List Oper} {o : Oper} {a : Act} {Q : Exit → Act → World → Prop} {us : Array Value} {e0 : TypeId} (hgd : o.guard = none) (s x : Operand) (t : TypeId)
    (ho : o.op = .call { callee := .builtin .append, args := #[s, x], argTypes := #[t, t] })
    (base : Nat) (e : TypeId) (z : Value) (k bytes m : Nat) (ht : P.underlying t = some (.slice e)) (hi : (P.info? e).map (fun i => (i.zero, i.size, i.bytes)) = some (some z, k, bytes))
    (hzs : z.cells.size = k) (hk : 0 < k) (hus : us.size = m * k) (hm : m ≤ maxLen)
    (A : Option Addr) (c n : Nat) (xs : List Value) (hs : a.eval s = .slice A n c) (hown : w.ownsRow base e k (.slice A n c) n xs)
    (hx : a.eval x = .slice (some ⟨w.heap.size, 0, none⟩) m m) (h1 : ∀ u ∈ us.toList, u.oneCell' = true)
    (h63 : n + m ≤ maxLen) (hbytes : (n + m) * bytes ≤ 140737488355328) (hbase : base ≤ w.heap.size)
    (h : ∀ A' c' w', w'.ownsRow base e k (.slice A' (n + m) c') (n + m) (xs ++ us.toList) → w.grownBy w' (Value.slice A n c).ownBlock → Below base w w' → wpList P ops Q rest (a.put o.dst (.slice A' (n + m) c')) w') :
    wpList P ops Q (o :: rest) a (w.alloc (.cells us e0)) :=
  have hb : Below base w (w.alloc (.cells us e0)) := (Below.refl _ _).alloc hbase _
  have hnew : (w.alloc (.cells us e0)).heap[w.heap.size]? = some (.cells us e0 (0, 0)) := heap_alloc_new w _
  wpList_app hgd s x t ho base e z k bytes ht hi hzs hk _ n xs hs (hown.alloc _) (w.heap.size + 1) (some ⟨w.heap.size, 0, none⟩) m m us.toList hx
    ⟨by simpa using hus, by omega, hm, fun hh => (by cases hh), fun _ => ⟨w.heap.size, 0, rfl, by omega, fun j v hv => by
      rw [Nat.zero_add, cell_of_row _ _ j us e0 (0, 0) hnew]; simpa using hv⟩⟩
    h1 h63 hbytes (Nat.le_trans hbase hb.size) fun A' c' w' h2 h3 h4 => h A' c' w' h2 ((World.grownBy_alloc w _ _).trans h3) (hb.trans h4)

/-- 'append' of one cell. -/
theorem wpList_push {P : Program} {w : World} {ops : Array Oper} {rest : List Oper} {o : Oper} {a : Act} {Q : Exit → Act → World → Prop} {u : Value} {e0 : TypeId} (hgd : o.guard = none) (s x : Operand) (t : TypeId)
    (ho : o.op = .call { callee := .builtin .append, args := #[s, x], argTypes := #[t, t] })
    (base : Nat) (e : TypeId) (z : Value) (bytes : Nat) (ht : P.underlying t = some (.slice e)) (hi : (P.info? e).map (fun i => (i.zero, i.size, i.bytes)) = some (some z, 1, bytes))
    (hzs : z.cells.size = 1)
    (A : Option Addr) (c n : Nat) (xs : List Value) (hs : a.eval s = .slice A n c) (hown : w.ownsRow base e 1 (.slice A n c) n xs)
    (hx : a.eval x = .slice (some ⟨w.heap.size, 0, none⟩) 1 1) (h1 : u.oneCell' = true)
    (h63 : n + 1 ≤ maxLen) (hbytes : (n + 1) * bytes ≤ 140737488355328) (hbase : base ≤ w.heap.size)
    (h : ∀ A' c' w', w'.ownsRow base e 1 (.slice A' (n + 1) c') (n + 1) (xs ++ [u]) → w.grownBy w' (Value.slice A n c).ownBlock → Below base w w' → wpList P ops Q rest (a.put o.dst (.slice A' (n + 1) c')) w') :
    wpList P ops Q (o :: rest) a (w.alloc (.cells #[u] e0)) :=
  wpList_pushes hgd s x t ho base e z 1 bytes 1 ht hi hzs (by omega) (by simp) (by simp [maxLen]) A c n xs hs hown hx (by simpa using h1) h63 hbytes hbase h

/-- What a shell of the proof tells of a slice of integers that came in, as 'Rd'. -/
theorem rd_of_row {k : IntKind} {w : World} {a : Option Addr} {len cap : Nat} {zs : List Int}
    (h : (a = none ∧ len = 0 ∧ cap = 0 ∧ zs = []) ∨
      ∃ x, a = some x ∧ len ≤ cap ∧ cap ≤ maxLen ∧ zs.length = cap ∧ (∀ i, i < zs.length → w.cell? (x.add i) = some (.int k (zs.getD i 0))) ∧ ∀ n ∈ zs, (Lit.int k n).wf = true) :
    Rd w w.heap.size a cap 1 len ((zs.take len).map (Value.int k)) ∧ ∀ n ∈ zs.take len, (Lit.int k n).wf = true := by
  rcases h with ⟨rfl, rfl, rfl, rfl⟩ | ⟨x, rfl, hl, hm, hz, hc, hw⟩
  · exact ⟨Rd.nil _ _ _, by simp⟩
  · refine ⟨⟨by simp; omega, hl, hm, fun hh => (by cases hh), fun hn => ?_⟩, fun n hn => hw n (List.mem_of_mem_take hn)⟩
    obtain ⟨b, o, spot⟩ := x
    have h0 := hc 0 (by omega)
    have hs : spot = none := by simpa [Addr.add] using World.cell?_spot h0
    subst hs
    refine ⟨b, o, rfl, ?_, fun j u hu => ?_⟩
    · exact World.block_lt_of_cell? w _ (by simpa [Addr.add] using h0)
    · have hj : j < zs.length := by
        have := (List.getElem?_eq_some_iff.1 hu).1
        simp at this; omega
      have := hc j hj
      rw [add_zero_spot] at this
      rw [this]
      rw [List.getElem?_map, List.getElem?_take] at hu
      split at hu
      · rw [List.getElem?_eq_getElem hj] at hu
        simp only [Option.map_some, Option.some.injEq] at hu
        rw [← hu]
        simp [List.getD, List.getElem?_eq_getElem hj]
      · simp at hu

/-- A row that was just made. -/
theorem Rd.new (w : World) (us : Array Value) (e : TypeId) (k n : Nat) (hn : us.size = n * k) (hm : n ≤ maxLen) : Rd (w.alloc (.cells us e)) (w.heap.size + 1) (some ⟨w.heap.size, 0, none⟩) n k n us.toList :=
  ⟨by simpa using hn, Nat.le_refl _, hm, fun hh => (by cases hh), fun _ => ⟨w.heap.size, 0, rfl, by omega, fun j v hv => by
    rw [Nat.zero_add, cell_of_row _ _ j us e (0, 0) (heap_alloc_new w _)]; simpa using hv⟩⟩

/-- Bytes, as cells. -/
def bs (l : List Int) : List Value := l.map (Value.int .u8)
theorem bs_length (l : List Int) : (bs l).length = l.length := by simp [bs]
theorem bs_append (l m : List Int) : bs (l ++ m) = bs l ++ bs m := by simp [bs]
theorem bs_one (l : List Int) : ∀ u ∈ bs l, u.oneCell' = true := ints_oneCell .u8 l
theorem bs_getD (l : List Int) (i : Nat) (h : i < l.length) : (bs l).getD i undef = .int .u8 (l.getD i 0) := by
  simp [bs, List.getD, List.getElem?_map, List.getElem?_eq_getElem h]
theorem bs_take (l : List Int) (i : Nat) : bs (l.take i) = (bs l).take i := by simp [bs]
theorem bs_drop (l : List Int) (i : Nat) : bs (l.drop i) = (bs l).drop i := by simp [bs]

theorem isB_of_wf {l : List Int} (h : ∀ n ∈ l, (Lit.int .u8 n).wf = true) : ∀ x ∈ l, 0 ≤ x ∧ x < 256 := by
  intro x hx
  have := bounds_u8 (h x hx)
  omega

/-- Each is a byte. -/
def isB (l : List Int) : Prop := ∀ x ∈ l, 0 ≤ x ∧ x < 256
theorem isB.append {l m : List Int} (h : isB l) (h' : isB m) : isB (l ++ m) := fun x hx => (List.mem_append.1 hx).elim (h x) (h' x)
theorem isB.drop {l : List Int} (h : isB l) (i : Nat) : isB (l.drop i) := fun x hx => h x (List.mem_of_mem_drop hx)
theorem isB.take {l : List Int} (h : isB l) (i : Nat) : isB (l.take i) := fun x hx => h x (List.mem_of_mem_take hx)

theorem Rd.byte {w : World} {B : Nat} {A : Option Addr} {c n : Nat} {l : List Int} (h : Rd w B A c 1 n (bs l)) (hb : isB l) {i : Nat} (hi : i < n) :
    ∃ b o x, A = some ⟨b, o, none⟩ ∧ w.cell? ⟨b, o + i, none⟩ = some (.int .u8 x) ∧ l.drop i = x :: l.drop (i + 1) ∧ 0 ≤ x ∧ x < 256 ∧ x = l.getD i 0 := by
  have hl : i < l.length := by have := h.len; rw [bs_length] at this; omega
  obtain ⟨b, o, hA, _, hc⟩ := h.at_ hi
  refine ⟨b, o, l[i], hA, ?_, List.drop_eq_getElem_cons hl, (hb _ (List.getElem_mem hl)).1, (hb _ (List.getElem_mem hl)).2, by simp [List.getD, List.getElem?_eq_getElem hl]⟩
  rw [hc, bs_getD _ _ hl]
  simp [List.getD, List.getElem?_eq_getElem hl]
theorem Rd.blen {w : World} {B : Nat} {A : Option Addr} {c n : Nat} {l : List Int} (h : Rd w B A c 1 n (bs l)) : l.length = n := by
  have := h.len; rw [bs_length] at this; omega

/-- The bytes of a string. -/
def sb (s : ByteArray) : List Int := s.data.toList.map fun b => (b.toNat : Int)
theorem sb_length (s : ByteArray) : (sb s).length = s.size := by rw [sb, List.length_map, Array.length_toList]; rfl
theorem sb_isB (s : ByteArray) : isB (sb s) := by
  intro x hx
  obtain ⟨b, _, rfl⟩ := List.mem_map.1 hx
  have := b.toNat_lt
  omega
theorem strCells_bs (s : ByteArray) : Lib.strCells s = bs (sb s) := by rw [Lib.strCells, bs, sb, List.map_map]; rfl
theorem str_sb (s : ByteArray) : strOfNums (sb s) = s := by
  have h : (sb s).map (fun n => UInt8.ofNat n.toNat) = s.data.toList := by
    rw [sb, List.map_map]
    conv => rhs; rw [← List.map_id s.data.toList]
    apply List.map_congr_left
    intro b _
    show UInt8.ofNat ((b.toNat : Int)).toNat = b
    rw [Int.toNat_natCast, UInt8.ofNat_toNat]
  unfold strOfNums
  rw [h]
theorem sb_str {l : List Int} (h : isB l) : sb (strOfNums l) = l := by
  simp only [sb, strOfNums_data, List.map_map]
  conv => rhs; rw [← List.map_id l]
  apply List.map_congr_left
  intro x hx
  have := h x hx
  simp [UInt8.toNat_ofNat']
  omega
theorem str_inj {l m : List Int} (hl : isB l) (hm : isB m) (h : strOfNums l = strOfNums m) : l = m := by
  rw [← sb_str hl, ← sb_str hm, h]

/-- 'append' of a string's bytes. -/
theorem wpList_appStr {P : Program} {w : World} {ops : Array Oper} {rest : List Oper} {o : Oper} {a : Act} {Q : Exit → Act → World → Prop} (hgd : o.guard = none) (sl x : Operand) (t u : TypeId)
    (ho : o.op = .call { callee := .builtin .append, args := #[sl, x], argTypes := #[t, u] })
    (base : Nat) (e : TypeId) (ht : P.underlying t = some (.slice e)) (hu : P.underlying u = some .string) (hi : (P.info? e).map (fun i => (i.zero, i.size, i.bytes)) = some (some (.int .u8 0), 1, 1))
    (v : Value) (n : Nat) (xs : List Value) (hs : a.eval sl = v) (hown : w.ownsRow base e 1 v n xs) (s : ByteArray) (hx : a.eval x = .string s)
    (h63 : n + s.size ≤ maxLen) (hbytes : n + s.size ≤ 140737488355328) (hbase : base ≤ w.heap.size)
    (h : ∀ A' c' w', w'.ownsRow base e 1 (.slice A' (n + s.size) c') (n + s.size) (xs ++ bs (sb s)) → w.grownBy w' v.ownBlock → Below base w w' → wpList P ops Q rest (a.put o.dst (.slice A' (n + s.size) c')) w') :
    wpList P ops Q (o :: rest) a w := by
  obtain ⟨i, hi0, hz, hk, hby⟩ := info_parts hi
  refine Lib.wpList_append_own_string w hgd sl x t u ho base e i ht hu hi0 hz hk hby v n xs hs hown s hx h63 hbytes hbase fun v' w' h2 h3 _ => ?_
  obtain ⟨A', c', rfl⟩ := own_slice h2
  rw [strCells_bs] at h2
  exact h A' c' w' h2 h3 ((Below.refl _ _).grown h3 hbase (bel_own hown))

theorem run_toStr {P : Program} {w : World} {B : Nat} {A : Option Addr} {c n : Nat} {l : List Int} (src dst e : TypeId) (hr : Rd w B A c 1 n (bs l)) (hs : P.underlying src = some (.slice e)) (he : P.underlying e = some (.int .u8)) (hd : P.underlying dst = some .string) :
    (convert src dst (.slice A n c)).run P w = .ok (.string (strOfNums l)) w := by
  rw [run_convert_bytes_string w src dst e A n c hs he hd]
  have hl := hr.blen
  rcases A with _ | ad
  · have := hr.2.2.2.1 rfl
    have h0 : n = 0 := by have := hr.le; omega
    have : l = [] := List.eq_nil_of_length_eq_zero (by omega)
    subst this
    simp [Conv.bytesToString]; rfl
  · rw [run_bytesToString w ad n c l, foldl_push_bytes]
    · simp [strOfNums, ByteArray.empty, ByteArray.emptyWithCapacity]; rfl
    · have := run_loadCells_list (P := P) w ad (bs l) (hr.cells rfl)
      rw [bs_length, hl] at this; exact this

/-- 'string(b)'. -/
theorem wpList_toStr {P : Program} {w : World} {ops : Array Oper} {rest : List Oper} {o : Oper} {a : Act} {Q : Exit → Act → World → Prop} (hgd : o.guard = none) (src dst : TypeId) (x : Operand) (ho : o.op = .convert src dst x)
    (e : TypeId) (hs : P.underlying src = some (.slice e)) (he : P.underlying e = some (.int .u8)) (hd : P.underlying dst = some .string)
    (B : Nat) (A : Option Addr) (c n : Nat) (l : List Int) (hx : a.eval x = .slice A n c) (hr : Rd w B A c 1 n (bs l))
    (h : wpList P ops Q rest (a.put o.dst (.string (strOfNums l))) w) : wpList P ops Q (o :: rest) a w := by
  refine wpList_plain hgd fun K hK => ?_
  have hrun := run_toStr (P := P) src dst e hr hs he hd
  unfold Oper.wp execOp
  simp only [ho, hx, Sem.run_bind, hrun, Result.andThen_ok, Sem.run_pure]
  exact hK _ _ h

theorem run_cut {P : Program} {w : World} (t e : TypeId) {z : Option Value} {k bytes : Nat} (ht : P.underlying t = some (.slice e)) (hi : (P.info? e).map (fun i => (i.zero, i.size, i.bytes)) = some (z, k, bytes))
    (A : Option Addr) (n c : Nat) (lo hig : Option Value) (kl kh : IntKind) (l m : Nat) (hlo : lo = none ∧ l = 0 ∨ lo = some (.int kl l)) (hhi : hig = none ∧ m = n ∨ hig = some (.int kh m)) (h1 : l ≤ m) (h2 : m ≤ c) :
    (Instr.sliceAt t (.slice A n c) lo hig none).run P w = .ok (.slice (if c = l then A else A.map (·.add (l * k))) (m - l) (c - l)) w := by
  obtain ⟨i, hi0, hzz⟩ := Option.map_eq_some_iff.1 hi
  simp only [Prod.mk.injEq] at hzz
  have el : P.elem t = e := by simp [Program.elem, ht]
  have ht' : P.underlying t = some (.slice (P.elem t)) := by rw [el]; exact ht
  have hs : (sizeOf (P.elem t)).run P w = .ok k w := by rw [el]; simp [sizeOf, typeInfo, hi0, hzz.2.1]
  have h3 : (Instr.sliceAt t (.slice A n c) lo hig none).run P w = (Instr.slice t (.slice A n c) lo hig none).run P w := by
    simp [Instr.sliceAt, run_underlying ht]
  rw [h3]
  rcases hlo with ⟨rfl, rfl⟩ | rfl <;> rcases hhi with ⟨rfl, rfl⟩ | rfl
  · rw [run_slice_all w t A m c ht', hs]; simp [Result.andThen, sliced]
  · rw [run_slice_h w t A n c ht' kh m (by omega) (by omega), hs]; simp [Result.andThen, sliced]
  · rw [run_slice_l w t A m c ht' kl l (by omega) (by omega), hs]; simp [Result.andThen, sliced]
  · rw [run_slice_lh w t A n c ht' kl kh l m (by omega) (by omega) (by omega), hs]; simp [Result.andThen, sliced]

/-- A cut 's[l:m]', 's[:m]', 's[l:]' of a slice that reads. What it hands on reads, too; its address stays behind a name. -/
theorem wpList_cut {P : Program} {w : World} {ops : Array Oper} {rest : List Oper} {o : Oper} {a : Act} {Q : Exit → Act → World → Prop} (hgd : o.guard = none) (t : TypeId) (x : Operand) (lo hig : Option Operand) (ho : o.op = .slice t x lo hig none)
    (e : TypeId) (z : Option Value) (k bytes : Nat) (ht : P.underlying t = some (.slice e)) (hi : (P.info? e).map (fun i => (i.zero, i.size, i.bytes)) = some (z, k, bytes))
    (B : Nat) (A : Option Addr) (c n : Nat) (xs : List Value) (hx : a.eval x = .slice A n c) (hr : Rd w B A c k n xs)
    (l m : Nat) (hlo : lo.map a.eval = none ∧ l = 0 ∨ lo.map a.eval = some (.int .i64 l)) (hhi : hig.map a.eval = none ∧ m = n ∨ hig.map a.eval = some (.int .i64 m)) (h1 : l ≤ m) (h2 : m ≤ n)
    (h : ∀ A' c', Rd w B A' c' k (m - l) ((xs.drop (l * k)).take ((m - l) * k)) → wpList P ops Q rest (a.put o.dst (.slice A' (m - l) c')) w) : wpList P ops Q (o :: rest) a w := by
  refine wpList_plain hgd fun K hK => ?_
  have hle := hr.le
  have hrun := run_cut (P := P) (w := w) t e ht hi A n c (lo.map a.eval) (hig.map a.eval) .i64 .i64 l m hlo hhi h1 (by omega)
  unfold Oper.wp execOp
  simp only [ho, hx, Option.map_none, Sem.run_bind, hrun, Result.andThen_ok, Sem.run_pure]
  exact hK _ _ (h _ _ (hr.cut h1 h2))

end Go.Proofs.Ytkpgijmpaklfgaa
