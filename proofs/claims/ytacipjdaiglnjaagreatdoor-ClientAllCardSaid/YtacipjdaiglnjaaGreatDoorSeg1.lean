/- My words for slices: 'Rd': a slice value that reads as cells; laws of append, slice and conversion for the walk. No program is named here. -/
import Derived.WalkKit
import Derived.ProofKit
import Derived.Below
import Derived.OwnWalk
import Derived.Laws.AppendOwnNone
import Derived.Laws.BytesArg
import Derived.Laws.OwnMore
import Derived.Maps.AppendAt
import Derived.Lib.Hide
import Derived.Lib.AppendStr
import Derived.Deep.DeepMust
import Derived.Deep.DeepFit
import Derived.WalkSpells
import Derived.OpenShut
import Derived.Laws.Rows
import Derived.Laws.Tables
import Derived.Deep.MidRow
import Derived.Test.YtacipjdaiglnjaaGreatDoorRows
import Derived.Laws.BitsAllLaws
import Derived.OrdersHeld
import Derived.Deep.RegionHeld3
import Derived.Tactics
import Derived.Lib.SlBytesConst
namespace Go.Proofs.YtacipjdaiglnjaaGreatDoor
open Go.RowKit

theorem add_zero_spot (b o j : Nat) : (⟨b, o, none⟩ : Addr).add j = ⟨b, o + j, none⟩ := by
  unfold Addr.add; split
  · next h => subst h; rfl
  · rfl

/-- The slice value '.slice A n c' reads as the n * k cells xs, and lies below block B. -/
def Rd (w : World) (B : Nat) (A : Option Addr) (c k n : Nat) (xs : List Value) : Prop :=
  xs.length = n * k ∧ n ≤ c ∧ c ≤ maxLen ∧ (A = none → c = 0) ∧
  (0 < n * k → ∃ b o, A = some ⟨b, o, none⟩ ∧ b < B ∧ ∀ j u, xs[j]? = some u → w.cell? ⟨b, o + j, none⟩ = some u)

section
variable {w w' : World} {B B' : Nat} {A : Option Addr} {c k n : Nat} {xs : List Value}
theorem Rd.len (h : Rd w B A c k n xs) : xs.length = n * k := h.1
theorem Rd.le (h : Rd w B A c k n xs) : n ≤ c := h.2.1
theorem Rd.cap (h : Rd w B A c k n xs) : c ≤ maxLen := h.2.2.1
theorem Rd.nil (w : World) (B k : Nat) : Rd w B none 0 k 0 [] := ⟨by simp, by omega, by simp [maxLen], fun _ => rfl, fun h => by omega⟩
theorem Rd.keep (h : Rd w B A c k n xs) (hk : ∀ p : Addr, p.block < B → w'.cell? p = w.cell? p) : Rd w' B A c k n xs :=
  ⟨h.1, h.2.1, h.2.2.1, h.2.2.2.1, fun hn => by
    obtain ⟨b, o, e, hb, hc⟩ := h.2.2.2.2 hn
    exact ⟨b, o, e, hb, fun j u hu => (hk _ hb).trans (hc j u hu)⟩⟩
theorem Rd.more (h : Rd w B A c k n xs) (hB : B ≤ B') : Rd w B' A c k n xs :=
  ⟨h.1, h.2.1, h.2.2.1, h.2.2.2.1, fun hn => by
    obtain ⟨b, o, e, hb, hc⟩ := h.2.2.2.2 hn
    exact ⟨b, o, e, by omega, hc⟩⟩
theorem Rd.below (h : Rd w B A c k n xs) (hb : Below B w w') : Rd w' B A c k n xs := h.keep fun _ hp => hb.cell hp
/-- Behind a call that made memory of its own alone. -/
theorem Rd.past (h : Rd w B A c k n xs) (hb : Below w.heap.size w w') : Rd w' B A c k n xs :=
  ⟨h.1, h.2.1, h.2.2.1, h.2.2.2.1, fun hn => by
    obtain ⟨b, o, e, hB, hc⟩ := h.2.2.2.2 hn
    exact ⟨b, o, e, hB, fun j u hu => by
      have hlt : b < w.heap.size := World.block_lt_of_cell? w _ (hc j u hu)
      exact (hb.cell (p := ⟨b, o + j, none⟩) hlt).trans (hc j u hu)⟩⟩
theorem Rd.drew (h : Rd w B A c k n xs) : Rd w.drew B A c k n xs := h
theorem Rd.alloc (h : Rd w B A c k n xs) (o : Obj) : Rd (w.alloc o) B A c k n xs := h.past ((Below.refl _ _).alloc (Nat.le_refl _) _)
theorem Rd.setCell (h : Rd w B A c k n xs) {p : Addr} (hB : B ≤ p.block) (u : Value) : Rd (w.setCell p u) B A c k n xs :=
  h.below ((Below.refl _ _).setCell hB u)
theorem Rd.tight (h : Rd w B A c k n xs) : Rd w w.heap.size A c k n xs :=
  ⟨h.1, h.2.1, h.2.2.1, h.2.2.2.1, fun hn => by
    obtain ⟨b, o, e, hB, hc⟩ := h.2.2.2.2 hn
    have h0 : 0 < xs.length := by rw [h.1]; exact hn
    exact ⟨b, o, e, World.block_lt_of_cell? w _ (hc 0 _ (List.getElem?_eq_getElem h0)), hc⟩⟩
theorem Rd.cells (h : Rd w B A c k n xs) {ad : Addr} (hA : A = some ad) : ∀ j u, xs[j]? = some u → w.cell? (ad.add j) = some u := by
  intro j u hu
  have h0 : 0 < n * k := by rw [← h.1]; exact Nat.lt_of_le_of_lt (Nat.zero_le _) (List.getElem?_eq_some_iff.1 hu).1
  obtain ⟨b, o, e, _, hc⟩ := h.2.2.2.2 h0
  rw [hA] at e; obtain rfl := Option.some.inj e
  rw [add_zero_spot]; exact hc j u hu
theorem Rd.at_ (h : Rd w B A c 1 n xs) {i : Nat} (hi : i < n) : ∃ b o, A = some ⟨b, o, none⟩ ∧ b < B ∧ w.cell? ⟨b, o + i, none⟩ = some (xs.getD i undef) := by
  obtain ⟨b, o, e, hb, hc⟩ := h.2.2.2.2 (by omega)
  have hl : i < xs.length := by have := h.1; omega
  refine ⟨b, o, e, hb, ?_⟩
  rw [hc i xs[i] (List.getElem?_eq_getElem hl)]
  simp [List.getD, List.getElem?_eq_getElem hl]
theorem Rd.of_own {base : Nat} {e : TypeId} (h : w.ownsRow base e k (.slice A n c) n xs) : Rd w w.heap.size A c k n xs := by
  refine ⟨h.1, ?_⟩
  rcases h.2 with ⟨e1, e2⟩ | ⟨g, cap, cur, e1, hb, hg, hn, hc, hs, ht⟩
  · injection e1 with e1 e3 e4; subst e1 e2 e4
    exact ⟨by omega, by simp [maxLen], fun _ => rfl, fun hh => by omega⟩
  · injection e1 with e1 e3 e4; subst e1 e4
    refine ⟨hn, hc, fun hh => (by cases hh), fun _ => ⟨g, 0, rfl, (Array.getElem?_eq_some_iff.1 hg).1, fun j u hu => ?_⟩⟩
    have := h.cells (g := g) rfl j u hu
    rwa [add_zero_spot] at this
/-- A cut 's[l:h]' of what reads. -/
theorem Rd.cut (h : Rd w B A c k n xs) {l m : Nat} (hl : l ≤ m) (hm : m ≤ n) :
    Rd w B (if c = l then A else A.map (·.add (l * k))) (c - l) k (m - l) ((xs.drop (l * k)).take ((m - l) * k)) := by
  have hle := h.le
  have hlen := h.1
  have hcap := h.cap
  have hmk : m * k ≤ n * k := Nat.mul_le_mul_right k hm
  refine ⟨?_, by omega, by omega, ?_, ?_⟩
  · rw [List.length_take, List.length_drop, hlen, Nat.sub_mul, Nat.min_eq_left (by omega)]
  · intro hh
    split at hh
    · omega
    · have := h.2.2.2.1 (by cases A <;> simp_all); omega
  · intro hn
    have hpos : 0 < n * k := by rw [Nat.sub_mul] at hn; omega
    obtain ⟨b, o, rfl, hb, hc⟩ := h.2.2.2.2 hpos
    have hne : ¬ c = l := by
      intro e; subst e
      have : m - c = 0 := by omega
      rw [this] at hn; simp at hn
    rw [if_neg hne]
    refine ⟨b, o + l * k, by simp [add_zero_spot], hb, fun j u hu => ?_⟩
    rw [Nat.add_assoc]
    refine hc (l * k + j) u ?_
    rw [List.getElem?_take] at hu
    split at hu
    · rwa [List.getElem?_drop] at hu
    · cases hu
end

theorem bel_own {w : World} {base : Nat} {e : TypeId} {k n : Nat} {v : Value} {xs : List Value} (h : w.ownsRow base e k v n xs) : ∀ g, v.ownBlock = some g → base ≤ g := fun g hg => (h.lt g hg).1

theorem own_below {w w' : World} {base : Nat} {e : TypeId} {k n : Nat} {v : Value} {xs : List Value} (h : w.ownsRow base e k v n xs) (hb : Below w.heap.size w w') : w'.ownsRow base e k v n xs :=
  h.kept (row := none) ⟨hb.os, hb.tape, hb.output, hb.size, fun k hk _ => hb.block k hk⟩ (by cases hv : v.ownBlock <;> simp)

theorem own_slice {w : World} {base : Nat} {e : TypeId} {k n : Nat} {v : Value} {xs : List Value} (h : w.ownsRow base e k v n xs) : ∃ A c, v = .slice A n c := by
  rcases h.2 with ⟨rfl, rfl⟩ | ⟨g, cap, cur, rfl, _⟩
  · exact ⟨none, 0, rfl⟩
  · exact ⟨_, _, rfl⟩

/-- 'append' onto a row of the call's own, whatever the source. -/
theorem wpList_app {P : Program} {w : World} {ops : Array Oper} {rest : List Oper} {o : Oper} {a : Act} {Q : Exit → Act → World → Prop} (hgd : o.guard = none) (s x : Operand) (t : TypeId)
    (ho : o.op = .call { callee := .builtin .append, args := #[s, x], argTypes := #[t, t] })
    (base : Nat) (e : TypeId) (z : Value) (k bytes : Nat) (ht : P.underlying t = some (.slice e)) (hi : (P.info? e).map (fun i => (i.zero, i.size, i.bytes)) = some (some z, k, bytes))
    (hzs : z.cells.size = k) (hsz : 0 < k)
    (v : Value) (n : Nat) (xs : List Value) (hs : a.eval s = v) (hown : w.ownsRow base e k v n xs)
    (B : Nat) (A : Option Addr) (c m : Nat) (news : List Value) (hx : a.eval x = .slice A m c) (hr : Rd w B A c k m news) (h1 : ∀ u ∈ news, u.oneCell' = true)
    (h63 : n + m ≤ maxLen) (hbytes : (n + m) * bytes ≤ 140737488355328) (hbase : base ≤ w.heap.size)
    (h : ∀ A' c' w', w'.ownsRow base e k (.slice A' (n + m) c') (n + m) (xs ++ news) → w.grownBy w' v.ownBlock → Below base w w' → wpList P ops Q rest (a.put o.dst (.slice A' (n + m) c')) w') :
    wpList P ops Q (o :: rest) a w := by
  obtain ⟨i, hi0, hz, hk, hby⟩ := info_parts hi
  rcases A with _ | ad
  · have hc0 := hr.2.2.2.1 rfl
    have hm : m = 0 := by have := hr.le; omega
    subst hm hc0
    have hn : news = [] := List.eq_nil_of_length_eq_zero (by simpa using hr.1)
    subst hn
    refine wpList_append_own_none hgd s x t ho base e i k ht hi0 v n xs hs hown hx ?_
    obtain ⟨A', c', rfl⟩ := own_slice hown
    exact h A' c' w (by simpa using hown) (World.grownBy.refl _ _) (Below.refl _ _)
  · refine wpList_append_own _ hgd s x t ho base e i z k bytes ht hi0 hz hk hby hzs hsz v n xs hs hown ad m c news hx hr.1 (hr.cells rfl) h1 h63 hbytes hbase fun v' w' h2 h3 _ => ?_
    obtain ⟨A', c', rfl⟩ := own_slice h2
    exact h A' c' w' h2 h3 ((Below.refl _ _).grown h3 hbase (bel_own hown))

/-- 'append' of cells that were just boxed: 'append(b, x)', 'append(b, x, y)'. -/
theorem wpList_pushes {P : Program} {w : World} {ops : Array Oper} {rest : List Oper} {o : Oper} {a : Act} {Q : Exit → Act → World → Prop} {us : Array Value} {e0 : TypeId} (hgd : o.guard = none) (s x : Operand) (t : TypeId)
    (ho : o.op = .call { callee := .builtin .append, args := #[s, x], argTypes := #[t, t] })
    (base : Nat) (e : TypeId) (z : Value) (k bytes m : Nat) (ht : P.underlying t = some (.slice e)) (hi : (P.info? e).map (fun i => (i.zero, i.size, i.bytes)) = some (some z, k, bytes))
    (hzs : z.cells.size = k) (hk : 0 < k) (hus : us.size = m * k) (hm : m ≤ maxLen)
    (A : Option Addr) (c n : Nat) (xs : List Value) (hs : a.eval s = .slice A n c) (hown : w.ownsRow base e k (.slice A n c) n xs)
    (hx : a.eval x = .slice (some ⟨w.heap.size, 0, none⟩) m m) (h1 : ∀ u ∈ us.toList, u.oneCell' = true)
    (h63 : n + m ≤ maxLen) (hbytes : (n + m) * bytes ≤ 140737488355328) (hbase : base ≤ w.heap.size)
    (h : ∀ A' c' w', w'.ownsRow base e k (.slice A' (n + m) c') (n + m) (xs ++ us.toList) → w.grownBy w' (Value.slice A n c).ownBlock → Below base w w' → wpList P ops Q rest (a.put o.dst (.slice A' (n + m) c')) w') :
    wpList P ops Q (o :: rest) a (w.alloc (.cells us e0)) :=
  have hb : Below base w (w.alloc (.cells us e0)) := (Below.refl _ _).alloc hbase _
  have hnew : (w.alloc (.cells us e0)).heap[w.heap.size]? = some (.cells us e0 (0, 0)) := heap_alloc_new w _
  wpList_app hgd s x t ho base e z k bytes ht hi hzs hk _ n xs hs (hown.alloc _) (w.heap.size + 1) (some ⟨w.heap.size, 0, none⟩) m m us.toList hx
    ⟨by simpa using hus, by omega, hm, fun hh => (by cases hh), fun _ => ⟨w.heap.size, 0, rfl, by omega, fun j v hv => by
      rw [Nat.zero_add, cell_of_row _ _ j us e0 (0, 0) hnew]; simpa using hv⟩⟩
    h1 h63 hbytes (Nat.le_trans hbase hb.size) fun A' c' w' h2 h3 h4 => h A' c' w' h2 ((World.grownBy_alloc w _ _).trans h3) (hb.trans h4)

/-- 'append' of one cell. -/
theorem wpList_push {P : Program} {w : World} {ops : Array Oper} {rest : List Oper} {o : Oper} {a : Act} {Q : Exit → Act → World → Prop} {u : Value} {e0 : TypeId} (hgd : o.guard = none) (s x : Operand) (t : TypeId)
    (ho : o.op = .call { callee := .builtin .append, args := #[s, x], argTypes := #[t, t] })
    (base : Nat) (e : TypeId) (z : Value) (bytes : Nat) (ht : P.underlying t = some (.slice e)) (hi : (P.info? e).map (fun i => (i.zero, i.size, i.bytes)) = some (some z, 1, bytes))
    (hzs : z.cells.size = 1)
    (A : Option Addr) (c n : Nat) (xs : List Value) (hs : a.eval s = .slice A n c) (hown : w.ownsRow base e 1 (.slice A n c) n xs)
    (hx : a.eval x = .slice (some ⟨w.heap.size, 0, none⟩) 1 1) (h1 : u.oneCell' = true)
    (h63 : n + 1 ≤ maxLen) (hbytes : (n + 1) * bytes ≤ 140737488355328) (hbase : base ≤ w.heap.size)
    (h : ∀ A' c' w', w'.ownsRow base e 1 (.slice A' (n + 1) c') (n + 1) (xs ++ [u]) → w.grownBy w' (Value.slice A n c).ownBlock → Below base w w' → wpList P ops Q rest (a.put o.dst (.slice A' (n + 1) c')) w') :
    wpList P ops Q (o :: rest) a (w.alloc (.cells #[u] e0)) :=
  wpList_pushes hgd s x t ho base e z 1 bytes 1 ht hi hzs (by omega) (by simp) (by simp [maxLen]) A c n xs hs hown hx (by simpa using h1) h63 hbytes hbase h

/-- A row that was just made. -/
theorem Rd.new (w : World) (us : Array Value) (e : TypeId) (k n : Nat) (hn : us.size = n * k) (hm : n ≤ maxLen) : Rd (w.alloc (.cells us e)) (w.heap.size + 1) (some ⟨w.heap.size, 0, none⟩) n k n us.toList :=
  ⟨by simpa using hn, Nat.le_refl _, hm, fun hh => (by cases hh), fun _ => ⟨w.heap.size, 0, rfl, by omega, fun j v hv => by
    rw [Nat.zero_add, cell_of_row _ _ j us e (0, 0) (heap_alloc_new w _)]; simpa using hv⟩⟩

/-- Bytes, as cells. -/
def bs (l : List Int) : List Value := l.map (Value.int .u8)
theorem bs_length (l : List Int) : (bs l).length = l.length := by simp [bs]
theorem bs_append (l m : List Int) : bs (l ++ m) = bs l ++ bs m := by simp [bs]
theorem bs_one (l : List Int) : ∀ u ∈ bs l, u.oneCell' = true := ints_oneCell .u8 l
theorem bs_getD (l : List Int) (i : Nat) (h : i < l.length) : (bs l).getD i undef = .int .u8 (l.getD i 0) := by
  simp [bs, List.getD, List.getElem?_map, List.getElem?_eq_getElem h]
theorem bs_take (l : List Int) (i : Nat) : bs (l.take i) = (bs l).take i := by simp [bs]
theorem bs_drop (l : List Int) (i : Nat) : bs (l.drop i) = (bs l).drop i := by simp [bs]

/-- Each is a byte. -/
def isB (l : List Int) : Prop := ∀ x ∈ l, 0 ≤ x ∧ x < 256
theorem isB.append {l m : List Int} (h : isB l) (h' : isB m) : isB (l ++ m) := fun x hx => (List.mem_append.1 hx).elim (h x) (h' x)
theorem isB.drop {l : List Int} (h : isB l) (i : Nat) : isB (l.drop i) := fun x hx => h x (List.mem_of_mem_drop hx)
theorem isB.take {l : List Int} (h : isB l) (i : Nat) : isB (l.take i) := fun x hx => h x (List.mem_of_mem_take hx)

theorem Rd.byte {w : World} {B : Nat} {A : Option Addr} {c n : Nat} {l : List Int} (h : Rd w B A c 1 n (bs l)) (hb : isB l) {i : Nat} (hi : i < n) :
    ∃ b o x, A = some ⟨b, o, none⟩ ∧ w.cell? ⟨b, o + i, none⟩ = some (.int .u8 x) ∧ l.drop i = x :: l.drop (i + 1) ∧ 0 ≤ x ∧ x < 256 ∧ x = l.getD i 0 := by
  have hl : i < l.length := by have := h.len; rw [bs_length] at this; omega
  obtain ⟨b, o, hA, _, hc⟩ := h.at_ hi
  refine ⟨b, o, l[i], hA, ?_, List.drop_eq_getElem_cons hl, (hb _ (List.getElem_mem hl)).1, (hb _ (List.getElem_mem hl)).2, by simp [List.getD, List.getElem?_eq_getElem hl]⟩
  rw [hc, bs_getD _ _ hl]
  simp [List.getD, List.getElem?_eq_getElem hl]
theorem Rd.blen {w : World} {B : Nat} {A : Option Addr} {c n : Nat} {l : List Int} (h : Rd w B A c 1 n (bs l)) : l.length = n := by
  have := h.len; rw [bs_length] at this; omega

/-- The bytes of a string. -/
def sb (s : ByteArray) : List Int := s.data.toList.map fun b => (b.toNat : Int)
theorem sb_length (s : ByteArray) : (sb s).length = s.size := by rw [sb, List.length_map, Array.length_toList]; rfl
theorem sb_isB (s : ByteArray) : isB (sb s) := by
  intro x hx
  obtain ⟨b, _, rfl⟩ := List.mem_map.1 hx
  have := b.toNat_lt
  omega
theorem strCells_bs (s : ByteArray) : Lib.strCells s = bs (sb s) := by rw [Lib.strCells, bs, sb, List.map_map]; rfl
theorem str_sb (s : ByteArray) : strOfNums (sb s) = s := by
  have h : (sb s).map (fun n => UInt8.ofNat n.toNat) = s.data.toList := by
    rw [sb, List.map_map]
    conv => rhs; rw [← List.map_id s.data.toList]
    apply List.map_congr_left
    intro b _
    show UInt8.ofNat ((b.toNat : Int)).toNat = b
    rw [Int.toNat_natCast, UInt8.ofNat_toNat]
  unfold strOfNums
  rw [h]
theorem sb_str {l : List Int} (h : isB l) : sb (strOfNums l) = l := by
  simp only [sb, strOfNums_data, List.map_map]
  conv => rhs; rw [← List.map_id l]
  apply List.map_congr_left
  intro x hx
  have := h x hx
  simp [UInt8.toNat_ofNat']
  omega
/-- 'append' of a string's bytes. -/
theorem wpList_appStr {P : Program} {w : World} {ops : Array Oper} {rest : List Oper} {o : Oper} {a : Act} {Q : Exit → Act → World → Prop} (hgd : o.guard = none) (sl x : Operand) (t u : TypeId)
    (ho : o.op = .call { callee := .builtin .append, args := #[sl, x], argTypes := #[t, u] })
    (base : Nat) (e : TypeId) (ht : P.underlying t = some (.slice e)) (hu : P.underlying u = some .string) (hi : (P.info? e).map (fun i => (i.zero, i.size, i.bytes)) = some (some (.int .u8 0), 1, 1))
    (v : Value) (n : Nat) (xs : List Value) (hs : a.eval sl = v) (hown : w.ownsRow base e 1 v n xs) (s : ByteArray) (hx : a.eval x = .string s)
    (h63 : n + s.size ≤ maxLen) (hbytes : n + s.size ≤ 140737488355328) (hbase : base ≤ w.heap.size)
    (h : ∀ A' c' w', w'.ownsRow base e 1 (.slice A' (n + s.size) c') (n + s.size) (xs ++ bs (sb s)) → w.grownBy w' v.ownBlock → Below base w w' → wpList P ops Q rest (a.put o.dst (.slice A' (n + s.size) c')) w') :
    wpList P ops Q (o :: rest) a w := by
  obtain ⟨i, hi0, hz, hk, hby⟩ := info_parts hi
  refine Lib.wpList_append_own_string w hgd sl x t u ho base e i ht hu hi0 hz hk hby v n xs hs hown s hx h63 hbytes hbase fun v' w' h2 h3 _ => ?_
  obtain ⟨A', c', rfl⟩ := own_slice h2
  rw [strCells_bs] at h2
  exact h A' c' w' h2 h3 ((Below.refl _ _).grown h3 hbase (bel_own hown))

theorem run_toStr {P : Program} {w : World} {B : Nat} {A : Option Addr} {c n : Nat} {l : List Int} (src dst e : TypeId) (hr : Rd w B A c 1 n (bs l)) (hs : P.underlying src = some (.slice e)) (he : P.underlying e = some (.int .u8)) (hd : P.underlying dst = some .string) :
    (convert src dst (.slice A n c)).run P w = .ok (.string (strOfNums l)) w := by
  rw [run_convert_bytes_string w src dst e A n c hs he hd]
  have hl := hr.blen
  rcases A with _ | ad
  · have := hr.2.2.2.1 rfl
    have h0 : n = 0 := by have := hr.le; omega
    have : l = [] := List.eq_nil_of_length_eq_zero (by omega)
    subst this
    simp [Conv.bytesToString]; rfl
  · rw [run_bytesToString w ad n c l, foldl_push_bytes]
    · simp [strOfNums, ByteArray.empty, ByteArray.emptyWithCapacity]; rfl
    · have := run_loadCells_list (P := P) w ad (bs l) (hr.cells rfl)
      rw [bs_length, hl] at this; exact this

/-- 'string(b)'. -/
theorem wpList_toStr {P : Program} {w : World} {ops : Array Oper} {rest : List Oper} {o : Oper} {a : Act} {Q : Exit → Act → World → Prop} (hgd : o.guard = none) (src dst : TypeId) (x : Operand) (ho : o.op = .convert src dst x)
    (e : TypeId) (hs : P.underlying src = some (.slice e)) (he : P.underlying e = some (.int .u8)) (hd : P.underlying dst = some .string)
    (B : Nat) (A : Option Addr) (c n : Nat) (l : List Int) (hx : a.eval x = .slice A n c) (hr : Rd w B A c 1 n (bs l))
    (h : wpList P ops Q rest (a.put o.dst (.string (strOfNums l))) w) : wpList P ops Q (o :: rest) a w := by
  refine wpList_plain hgd fun K hK => ?_
  have hrun := run_toStr (P := P) src dst e hr hs he hd
  unfold Oper.wp execOp
  simp only [ho, hx, Sem.run_bind, hrun, Result.andThen_ok, Sem.run_pure]
  exact hK _ _ h

theorem run_cut {P : Program} {w : World} (t e : TypeId) {z : Option Value} {k bytes : Nat} (ht : P.underlying t = some (.slice e)) (hi : (P.info? e).map (fun i => (i.zero, i.size, i.bytes)) = some (z, k, bytes))
    (A : Option Addr) (n c : Nat) (lo hig : Option Value) (kl kh : IntKind) (l m : Nat) (hlo : lo = none ∧ l = 0 ∨ lo = some (.int kl l)) (hhi : hig = none ∧ m = n ∨ hig = some (.int kh m)) (h1 : l ≤ m) (h2 : m ≤ c) :
    (Instr.sliceAt t (.slice A n c) lo hig none).run P w = .ok (.slice (if c = l then A else A.map (·.add (l * k))) (m - l) (c - l)) w := by
  obtain ⟨i, hi0, hzz⟩ := Option.map_eq_some_iff.1 hi
  simp only [Prod.mk.injEq] at hzz
  have el : P.elem t = e := by simp [Program.elem, ht]
  have ht' : P.underlying t = some (.slice (P.elem t)) := by rw [el]; exact ht
  have hs : (sizeOf (P.elem t)).run P w = .ok k w := by rw [el]; simp [sizeOf, typeInfo, hi0, hzz.2.1]
  have h3 : (Instr.sliceAt t (.slice A n c) lo hig none).run P w = (Instr.slice t (.slice A n c) lo hig none).run P w := by
    simp [Instr.sliceAt, run_underlying ht]
  rw [h3]
  rcases hlo with ⟨rfl, rfl⟩ | rfl <;> rcases hhi with ⟨rfl, rfl⟩ | rfl
  · rw [run_slice_all w t A m c ht', hs]; simp [Result.andThen, sliced]
  · rw [run_slice_h w t A n c ht' kh m (by omega) (by omega), hs]; simp [Result.andThen, sliced]
  · rw [run_slice_l w t A m c ht' kl l (by omega) (by omega), hs]; simp [Result.andThen, sliced]
  · rw [run_slice_lh w t A n c ht' kl kh l m (by omega) (by omega) (by omega), hs]; simp [Result.andThen, sliced]

/-- A cut 's[l:m]', 's[:m]', 's[l:]' of a slice that reads. What it hands on reads, too; its address stays behind a name. -/
theorem wpList_cut {P : Program} {w : World} {ops : Array Oper} {rest : List Oper} {o : Oper} {a : Act} {Q : Exit → Act → World → Prop} (hgd : o.guard = none) (t : TypeId) (x : Operand) (lo hig : Option Operand) (ho : o.op = .slice t x lo hig none)
    (e : TypeId) (z : Option Value) (k bytes : Nat) (ht : P.underlying t = some (.slice e)) (hi : (P.info? e).map (fun i => (i.zero, i.size, i.bytes)) = some (z, k, bytes))
    (B : Nat) (A : Option Addr) (c n : Nat) (xs : List Value) (hx : a.eval x = .slice A n c) (hr : Rd w B A c k n xs)
    (l m : Nat) (hlo : lo.map a.eval = none ∧ l = 0 ∨ lo.map a.eval = some (.int .i64 l)) (hhi : hig.map a.eval = none ∧ m = n ∨ hig.map a.eval = some (.int .i64 m)) (h1 : l ≤ m) (h2 : m ≤ n)
    (h : ∀ A' c', Rd w B A' c' k (m - l) ((xs.drop (l * k)).take ((m - l) * k)) → wpList P ops Q rest (a.put o.dst (.slice A' (m - l) c')) w) : wpList P ops Q (o :: rest) a w := by
  refine wpList_plain hgd fun K hK => ?_
  have hle := hr.le
  have hrun := run_cut (P := P) (w := w) t e ht hi A n c (lo.map a.eval) (hig.map a.eval) .i64 .i64 l m hlo hhi h1 (by omega)
  unfold Oper.wp execOp
  simp only [ho, hx, Option.map_none, Sem.run_bind, hrun, Result.andThen_ok, Sem.run_pure]
  exact hK _ _ (h _ _ (hr.cut h1 h2))

end Go.Proofs.YtacipjdaiglnjaaGreatDoor

/- A block of the call's own cells (a local struct or array whose address is taken). No program is named here. -/
namespace Go.Proofs.YtacipjdaiglnjaaGreatDoor
open Go.RowKit

/-- Block g holds the cells xs, none of them shared with a string. -/
def Blk (w : World) (g : Nat) (e : TypeId) (xs : List Value) : Prop := w.heap[g]? = some (.cells xs.toArray e (0, 0))

section
variable {w w' : World} {g : Nat} {e : TypeId} {xs : List Value}
theorem Blk.lt (h : Blk w g e xs) : g < w.heap.size := (Array.getElem?_eq_some_iff.1 h).1
theorem Blk.cell (h : Blk w g e xs) {i : Nat} {u : Value} (hu : xs[i]? = some u) : w.cell? ⟨g, i, none⟩ = some u := by
  rw [cell_of_row _ _ i xs.toArray e (0, 0) h]; simpa using hu
theorem Blk.free (h : Blk w g e xs) (i : Nat) : w.frozen? ⟨g, i, none⟩ = false := frozen_of_row w g i _ e h
theorem Blk.set (h : Blk w g e xs) (i : Nat) (u : Value) : Blk (w.setCell ⟨g, i, none⟩ u) g e (xs.set i u) := by
  have := heap_setCell_same w g i _ e u h
  simpa [Blk] using this
theorem Blk.new (w : World) (a : Array Value) (e : TypeId) : Blk (w.alloc (.cells a e)) w.heap.size e a.toList := by
  simpa [Blk] using heap_alloc_new w (.cells a e)
theorem Blk.below {B : Nat} (h : Blk w g e xs) (hb : Below B w w') (hg : g < B) : Blk w' g e xs := (hb.block g hg).trans h
theorem Blk.past (h : Blk w g e xs) (hb : Below w.heap.size w w') : Blk w' g e xs := h.below hb h.lt
theorem Blk.drew (h : Blk w g e xs) : Blk w.drew g e xs := h
theorem Blk.alloc (h : Blk w g e xs) (o : Obj) : Blk (w.alloc o) g e xs := h.past ((Below.refl _ _).alloc (Nat.le_refl _) _)
/-- Behind a call that wrote another block. -/
theorem Blk.far {k : Nat} (h : Blk w g e xs) (hb : w.grownBy w' (some k)) (hk : g ≠ k) : Blk w' g e xs := (hb.block g h.lt (by simpa using hk)).trans h
theorem grown_set (w : World) (g i : Nat) (v : Value) : w.grownBy (w.setCell ⟨g, i, none⟩ v) (some g) :=
  ⟨rfl, rfl, rfl, by simp [World.setCell], fun k _ hk => Below.heap_setCell _ _ _ _ (by simpa using hk)⟩
/-- Behind the store of a whole value. -/
theorem Blk.row (h : Blk w g e xs) (cs : Array Value) : Blk (w.setRow g cs) g e cs.toList := by
  have := setRow_heap w g xs.toArray cs e (0, 0) h
  simpa [Blk] using this
theorem grown_row (w : World) (g : Nat) (cs : Array Value) : w.grownBy (w.setRow g cs) (some g) :=
  ⟨rfl, rfl, rfl, by simp, fun k _ hk => setRow_other w g k cs (by simpa using hk)⟩
theorem grown_below {B : Nat} (hg : w.grownBy w' (some g)) (hB : B ≤ g) (hs : B ≤ w.heap.size) : Below B w w' := (Below.refl B w).grown hg hs (fun k hk => by cases hk; exact hB)
end
end Go.Proofs.YtacipjdaiglnjaaGreatDoor

/- What a call leaves: 'Touch S w w'': of the old blocks those of the list S alone may hold other cells. No program is named here. -/
namespace Go.Proofs.YtacipjdaiglnjaaGreatDoor
open Go.RowKit

structure Touch (S : List Nat) (w w' : World) : Prop where
  os : w'.os = w.os
  tape : w'.tape = w.tape
  output : w'.output = w.output
  size : w.heap.size ≤ w'.heap.size
  block : ∀ k, k < w.heap.size → k ∉ S → w'.heap[k]? = w.heap[k]?

section
variable {S S' : List Nat} {a b c w w' : World} {g : Nat} {e : TypeId} {xs : List Value}
theorem Touch.refl (S : List Nat) (w : World) : Touch S w w := ⟨rfl, rfl, rfl, Nat.le_refl _, fun _ _ _ => rfl⟩
theorem Touch.trans (h : Touch S a b) (k : Touch S b c) : Touch S a c :=
  ⟨k.os.trans h.os, k.tape.trans h.tape, k.output.trans h.output, Nat.le_trans h.size k.size, fun i hi hs => (k.block i (Nat.lt_of_lt_of_le hi h.size) hs).trans (h.block i hi hs)⟩
theorem Touch.wide (h : Touch S a b) (hs : ∀ k ∈ S, k ∈ S') : Touch S' a b := ⟨h.os, h.tape, h.output, h.size, fun k hk hn => h.block k hk fun hm => hn (hs k hm)⟩
theorem Touch.of_grown (h : w.grownBy w' (some g)) : Touch [g] w w' := ⟨h.os, h.tape, h.output, h.size, fun k hk hn => h.block k hk (by simpa using hn)⟩
theorem Touch.of_below (h : Below w.heap.size w w') : Touch S w w' := ⟨h.os, h.tape, h.output, h.size, fun k hk _ => h.block k hk⟩
theorem Touch.of_grown_none {row : Option Nat} (h : w.grownBy w' row) (hr : ∀ k, row = some k → k ∈ S) : Touch S w w' := ⟨h.os, h.tape, h.output, h.size, fun k hk hn => h.block k hk fun hr' => hn (hr k hr'.symm)⟩
theorem Touch.drew (h : Touch S a w) : Touch S a w.drew := ⟨h.os, h.tape, h.output, h.size, h.block⟩
theorem Touch.alloc (h : Touch S a w) (o : Obj) : Touch S a (w.alloc o) := h.trans (.of_below ((Below.refl _ _).alloc (Nat.le_refl _) _))
theorem Touch.cell (h : Touch S a w) (hg : g ∈ S) (i : Nat) (v : Value) : Touch S a (w.setCell ⟨g, i, none⟩ v) := h.trans ((Touch.of_grown (grown_set w g i v)).wide (by simpa using hg))
theorem Touch.below {B : Nat} (h : Touch S w w') (hs : ∀ k ∈ S, B ≤ k) (hB : B ≤ w.heap.size) : Below B w w' :=
  ⟨h.os, h.tape, h.output, h.size, fun k hk => h.block k (by omega) fun hm => by have := hs k hm; omega⟩
theorem Blk.touch (h : Blk w g e xs) (ht : Touch S w w') (hg : g ∉ S) : Blk w' g e xs := (ht.block g h.lt hg).trans h
/-- Blocks of two types are two. -/
theorem Blk.ne {g' : Nat} {e' : TypeId} {xs' : List Value} (h : Blk w g e xs) (h' : Blk w g' e' xs') (he : e ≠ e') : g ≠ g' := by
  rintro rfl
  have := h.symm.trans h'
  simp at this
  exact he this.2
theorem Blk.same {e' : TypeId} {xs' : List Value} (h : Blk w g e xs) (h' : Blk w g e' xs') : xs = xs' := by
  have := h.symm.trans h'
  simp at this
  exact this.1
/-- What is owned, behind a call that wrote blocks of other types. -/
theorem own_touch {base k n : Nat} {v : Value} (h : w.ownsRow base e k v n xs) (ht : Touch S w w') (hs : ∀ g ∈ S, ∀ ys, ¬ Blk w g e ys) : w'.ownsRow base e k v n xs := by
  obtain ⟨h1, h2⟩ := h
  refine ⟨h1, ?_⟩
  rcases h2 with h2 | ⟨g, cap, cur, hv, hg, hh, r⟩
  · exact .inl h2
  · refine .inr ⟨g, cap, cur, hv, hg, ?_, r⟩
    rw [ht.block g (Array.getElem?_eq_some_iff.1 hh).1 fun hm => hs g hm cur.toList (by simpa [Blk] using hh)]
    exact hh
theorem own_base {base base' k n : Nat} {v : Value} (h : w.ownsRow base e k v n xs) (hb : base' ≤ base) : w.ownsRow base' e k v n xs := by
  obtain ⟨h1, h2⟩ := h
  refine ⟨h1, ?_⟩
  rcases h2 with h2 | ⟨g, cap, cur, hv, hg, r⟩
  · exact .inl h2
  · exact .inr ⟨g, cap, cur, hv, by omega, r⟩
end
end Go.Proofs.YtacipjdaiglnjaaGreatDoor

/- Objects side by side: 'Sep': each of a list of parts holds, and none of its blocks is another's. No program is named here. -/
namespace Go.Proofs.YtacipjdaiglnjaaGreatDoor
open Go.RowKit

/-- What a block is: cells of a type that ok tells, or a map. -/
def Kd (ok : TypeId → Bool) (w : World) (k : Nat) : Prop := (∃ t ys, Blk w k t ys ∧ ok t = true) ∨ ∃ m c, w.heap[k]? = some (.map m c)
theorem Kd.lt {ok : TypeId → Bool} {w : World} {k : Nat} (h : Kd ok w k) : k < w.heap.size := by
  rcases h with ⟨t, ys, h, _⟩ | ⟨m, c, h⟩
  · exact h.lt
  · exact (Array.getElem?_eq_some_iff.1 h).1
theorem Kd.ne {ok : TypeId → Bool} {w : World} {k g : Nat} {t : TypeId} {ys : List Value} (h : Kd ok w k) (hB : Blk w g t ys) (ht : ok t = false) : g ≠ k := by
  rintro rfl
  rcases h with ⟨t', ys', h, h1⟩ | ⟨m, c, h⟩
  · exact hB.ne h (by rintro rfl; rw [ht] at h1; cases h1) rfl
  · have := hB.symm.trans h; simp at this

/-- An object with its blocks. -/
structure Part where
  F : List Nat
  P : World → Prop
/-- What is asked of it. -/
structure Part.Ok (ok : TypeId → Bool) (p : Part) : Prop where
  fr : ∀ (w w' : World) (T : List Nat), p.P w → Touch T w w' → (∀ k ∈ T, k ∉ p.F) → p.P w'
  kd : ∀ w : World, p.P w → ∀ k ∈ p.F, Kd ok w k
def allF (l : List Part) : List Nat := l.flatMap (·.F)
theorem mem_allF {l : List Part} {k : Nat} : k ∈ allF l ↔ ∃ p ∈ l, k ∈ p.F := by simp [allF]

structure Sep (ok : TypeId → Bool) (w : World) (l : List Part) : Prop where
  good : ∀ p ∈ l, p.Ok ok
  holds : ∀ p ∈ l, p.P w
  apart : l.Pairwise fun p q => ∀ k ∈ p.F, k ∉ q.F

section
variable {ok : TypeId → Bool} {w w' : World} {l a b : List Part} {p q : Part} {T : List Nat}
theorem Sep.kinds (h : Sep ok w l) : ∀ k ∈ allF l, Kd ok w k := fun k hk => by
  obtain ⟨p, hp, hk⟩ := mem_allF.1 hk
  exact (h.good p hp).kd w (h.holds p hp) k hk
theorem Sep.hi (h : Sep ok w l) : ∀ k ∈ allF l, k < w.heap.size := fun k hk => (h.kinds k hk).lt
theorem Sep.off (h : Sep ok w l) {g : Nat} {t : TypeId} {ys : List Value} (hB : Blk w g t ys) (ht : ok t = false) : g ∉ allF l := fun hk => (h.kinds g hk).ne hB ht rfl
theorem Sep.touch (h : Sep ok w l) (t : Touch T w w') (hd : ∀ k ∈ T, k ∉ allF l) : Sep ok w' l :=
  ⟨h.good, fun p hp => (h.good p hp).fr w w' T (h.holds p hp) t fun k hk hF => hd k hk (mem_allF.2 ⟨p, hp, hF⟩), h.apart⟩
theorem Sep.past (h : Sep ok w l) (hb : Below w.heap.size w w') : Sep ok w' l := h.touch (T := []) (.of_below hb) (by simp)
/-- One part is another one now. -/
theorem Sep.upd (h : Sep ok w (a ++ p :: b)) (hq : q.Ok ok) (t : Touch p.F w w') (k : q.P w') (hF : ∀ k ∈ q.F, k ∈ p.F ∨ w.heap.size ≤ k) : Sep ok w' (a ++ q :: b) := by
  have hg := h.good
  have hh := h.holds
  have hp := h.apart
  have hi := h.hi
  rw [List.pairwise_append, List.pairwise_cons] at hp
  obtain ⟨p1, ⟨p2, p3⟩, p4⟩ := hp
  refine ⟨fun r hr => ?_, fun r hr => ?_, ?_⟩
  · rcases List.mem_append.1 hr with h1 | h1
    · exact hg r (by simp [h1])
    · rcases List.mem_cons.1 h1 with rfl | h1
      · exact hq
      · exact hg r (by simp [h1])
  · rcases List.mem_append.1 hr with h1 | h1
    · exact (hg r (by simp [h1])).fr w w' p.F (hh r (by simp [h1])) t fun x hx hr' => p4 r h1 p (by simp) x hr' hx
    · rcases List.mem_cons.1 h1 with rfl | h1
      · exact k
      · exact (hg r (by simp [h1])).fr w w' p.F (hh r (by simp [h1])) t fun x hx hr' => p2 r h1 x hx hr'
  · rw [List.pairwise_append, List.pairwise_cons]
    refine ⟨p1, ⟨fun r hr x hx hr' => ?_, p3⟩, fun r hr r2 hr2 x hx hx2 => ?_⟩
    · rcases hF x hx with h1 | h1
      · exact p2 r hr x h1 hr'
      · have := hi x (mem_allF.2 ⟨r, by simp [hr], hr'⟩); omega
    · rcases List.mem_cons.1 hr2 with rfl | h2
      · rcases hF x hx2 with h1 | h1
        · exact p4 r hr p (by simp) x hx h1
        · have := hi x (mem_allF.2 ⟨r, by simp [hr], hx⟩); omega
      · exact p4 r hr r2 (by simp [h2]) x hx hx2
theorem upd_sub (hF : ∀ k ∈ q.F, k ∈ p.F ∨ w.heap.size ≤ k) : ∀ k ∈ allF (a ++ q :: b), k ∈ allF (a ++ p :: b) ∨ w.heap.size ≤ k := by
  intro k hk
  obtain ⟨r, hr, hz⟩ := mem_allF.1 hk
  rcases List.mem_append.1 hr with h1 | h1
  · exact .inl (mem_allF.2 ⟨r, by simp [h1], hz⟩)
  · rcases List.mem_cons.1 h1 with rfl | h1
    · rcases hF k hz with h2 | h2
      · exact .inl (mem_allF.2 ⟨p, by simp, h2⟩)
      · exact .inr h2
    · exact .inl (mem_allF.2 ⟨r, by simp [h1], hz⟩)
end

section
variable {ok : TypeId → Bool} {w w1 w2 : World} {F : List Nat} {l : List Part} {p q : Part} {i : Nat}
theorem Sep.get (h : Sep ok w l) (hi : l[i]? = some p) : p.P w := h.holds p (List.mem_of_getElem? hi)
theorem set_parts {l : List Part} {i : Nat} {p : Part} (hi : l[i]? = some p) (q : Part) : l = l.take i ++ p :: l.drop (i + 1) ∧ l.set i q = l.take i ++ q :: l.drop (i + 1) := by
  obtain ⟨hl, rfl⟩ := List.getElem?_eq_some_iff.1 hi
  constructor
  · rw [List.getElem_cons_drop, List.take_append_drop]
  · rw [List.set_eq_take_append_cons_drop, if_pos hl]
/-- Two of them are apart. -/
theorem Sep.two (h : Sep ok w l) {i j : Nat} (hij : i < j) (hi : l[i]? = some p) (hj : l[j]? = some q) : ∀ k ∈ p.F, k ∉ q.F := by
  obtain ⟨h1, rfl⟩ := List.getElem?_eq_some_iff.1 hi
  obtain ⟨h2, rfl⟩ := List.getElem?_eq_some_iff.1 hj
  exact List.pairwise_iff_getElem.1 h.apart i j h1 h2 hij
/-- What came of the parts whose blocks were F. -/
structure St (ok : TypeId → Bool) (w w1 : World) (F : List Nat) (l : List Part) : Prop where
  sep : Sep ok w1 l
  sub : ∀ k ∈ allF l, k ∈ F ∨ w.heap.size ≤ k
  touch : Touch F w w1
theorem St.begin (h : Sep ok w l) : St ok w w (allF l) l := ⟨h, fun _ hk => .inl hk, .refl _ _⟩
theorem St.past (s : St ok w w1 F l) (hb : Below w1.heap.size w1 w2) : St ok w w2 F l := ⟨s.sep.past hb, s.sub, s.touch.trans (.of_below hb)⟩
theorem St.drew (s : St ok w w1 F l) : St ok w w1.drew F l := s.past (Below.refl _ _).drew
theorem St.alloc (s : St ok w w1 F l) (o : Obj) : St ok w (w1.alloc o) F l := s.past ((Below.refl _ _).alloc (Nat.le_refl _) _)
theorem St.wide {T T' : List Nat} {a b : World} (h : Touch T a b) (k : Touch T' b w2) (hs : ∀ q ∈ T', q ∈ T ∨ a.heap.size ≤ q) : Touch T a w2 :=
  ⟨k.os.trans h.os, k.tape.trans h.tape, k.output.trans h.output, Nat.le_trans h.size k.size, fun i hi hn => (k.block i (Nat.lt_of_lt_of_le hi h.size) fun hm => by
    rcases hs i hm with h1 | h1
    · exact hn h1
    · omega).trans (h.block i hi hn)⟩
theorem St.set (s : St ok w w1 F l) (i : Nat) (hi : l[i]? = some p) (hq : q.Ok ok) (t : Touch p.F w1 w2) (k : q.P w2) (hF : ∀ k ∈ q.F, k ∈ p.F ∨ w1.heap.size ≤ k) : St ok w w2 F (l.set i q) := by
  obtain ⟨e1, e2⟩ := set_parts hi q
  have hs := s.sep
  rw [e1] at hs
  rw [e2]
  have hsub := s.sub
  rw [e1] at hsub
  refine ⟨hs.upd hq t k hF, fun z hz => ?_, St.wide s.touch t fun z hz => hsub z (mem_allF.2 ⟨p, by simp, hz⟩)⟩
  rcases upd_sub (w := w1) hF z hz with h1 | h1
  · exact hsub z h1
  · exact .inr (Nat.le_trans s.touch.size h1)
/-- A part that was made elsewhere, of new blocks alone, takes the place of one that is left. -/
theorem St.put (s : St ok w w1 F l) (i : Nat) (hi : l[i]? = some p) (hq : q.Ok ok) (hb : Below w1.heap.size w1 w2) (k : q.P w2) (hF : ∀ k ∈ q.F, w1.heap.size ≤ k) : St ok w w2 F (l.set i q) :=
  s.set i hi hq (.of_below hb) k (fun z hz => .inr (hF z hz))
/-- A part is let go. -/
theorem St.leave (s : St ok w w1 F l) (i : Nat) (hi : l[i]? = some p) : St ok w w1 F (l.set i ⟨[], fun _ => True⟩) :=
  s.set i hi ⟨fun _ _ _ _ _ _ => trivial, fun _ _ _ hk => by cases hk⟩ (.refl _ _) trivial (fun _ hk => by cases hk)
end

section
variable {ok : TypeId → Bool} {w w' : World} {l : List Part} {q : Part}
/-- A part that was just made, behind the others; ahead of them. -/
theorem Sep.snoc (h : Sep ok w l) (hb : Below w.heap.size w w') (hq : q.Ok ok) (k : q.P w') (hF : ∀ z ∈ q.F, w.heap.size ≤ z) : Sep ok w' (l ++ [q]) := by
  have hi := h.hi
  have h2 := h.past hb
  refine ⟨fun r hr => ?_, fun r hr => ?_, ?_⟩
  · rcases List.mem_append.1 hr with h1 | h1
    · exact h2.good r h1
    · rw [List.mem_singleton.1 h1]; exact hq
  · rcases List.mem_append.1 hr with h1 | h1
    · exact h2.holds r h1
    · rw [List.mem_singleton.1 h1]; exact k
  · rw [List.pairwise_append]
    refine ⟨h2.apart, List.pairwise_singleton _ _, fun r hr s hs z hz hz' => ?_⟩
    rw [List.mem_singleton.1 hs] at hz'
    have := hi z (mem_allF.2 ⟨r, hr, hz⟩)
    have := hF z hz'
    omega
theorem Sep.cons (h : Sep ok w l) (hb : Below w.heap.size w w') (hq : q.Ok ok) (k : q.P w') (hF : ∀ z ∈ q.F, w.heap.size ≤ z) : Sep ok w' (q :: l) := by
  have hi := h.hi
  have h2 := h.past hb
  refine ⟨fun r hr => ?_, fun r hr => ?_, ?_⟩
  · rcases List.mem_cons.1 hr with rfl | h1
    · exact hq
    · exact h2.good r h1
  · rcases List.mem_cons.1 hr with rfl | h1
    · exact k
    · exact h2.holds r h1
  · rw [List.pairwise_cons]
    refine ⟨fun r hr z hz hz' => ?_, h2.apart⟩
    have := hi z (mem_allF.2 ⟨r, hr, hz'⟩)
    have := hF z hz
    omega
/-- What is being made beside block d. -/
structure Mk (ok : TypeId → Bool) (w0 w : World) (d : Nat) (l : List Part) : Prop where
  sep : Sep ok w l
  new : ∀ k ∈ allF l, k = d ∨ w0.heap.size ≤ k
  touch : Touch [d] w0 w
theorem Mk.snoc {w0 : World} {d : Nat} (h : Mk ok w0 w d l) (hb : Below w.heap.size w w') (hq : q.Ok ok) (k : q.P w') (hF : ∀ z ∈ q.F, w.heap.size ≤ z) : Mk ok w0 w' d (l ++ [q]) := by
  refine ⟨h.sep.snoc hb hq k hF, fun z hz => ?_, h.touch.trans (.of_below hb)⟩
  obtain ⟨r, hr, hz⟩ := mem_allF.1 hz
  rcases List.mem_append.1 hr with h1 | h1
  · exact h.new z (mem_allF.2 ⟨r, h1, hz⟩)
  · rw [List.mem_singleton.1 h1] at hz
    exact .inr (Nat.le_trans h.touch.size (hF z hz))
theorem Mk.cons {w0 : World} {d : Nat} (h : Mk ok w0 w d l) (hb : Below w.heap.size w w') (hq : q.Ok ok) (k : q.P w') (hF : ∀ z ∈ q.F, w.heap.size ≤ z) : Mk ok w0 w' d (q :: l) := by
  refine ⟨h.sep.cons hb hq k hF, fun z hz => ?_, h.touch.trans (.of_below hb)⟩
  obtain ⟨r, hr, hy⟩ := mem_allF.1 hz
  rcases List.mem_cons.1 hr with rfl | h1
  · exact .inr (Nat.le_trans h.touch.size (hF z hy))
  · exact h.new z (mem_allF.2 ⟨r, h1, hy⟩)
theorem Mk.none {w0 : World} {d : Nat} (h : Mk ok w0 w d l) : Mk ok w0 w d (l ++ [⟨[], fun _ => True⟩]) :=
  h.snoc (Below.refl _ _) ⟨fun _ _ _ _ _ _ => trivial, fun _ _ _ hk => by cases hk⟩ trivial (fun _ hk => by cases hk)
end
end Go.Proofs.YtacipjdaiglnjaaGreatDoor

/- Plain mathematics of numbers as bytes: what Put writes, what Get reads. No program is named here. -/
namespace Go.Proofs.YtacipjdaiglnjaaGreatDoor.PNum

/-- 2 n, or -2 n - 1 of n below 0. -/
def zig (n : Int) : Nat := if n < 0 then (-2 * n - 1).toNat else (2 * n).toNat
def unzig (u : Nat) : Int := if u % 2 = 0 then ((u / 2 : Nat) : Int) else -((u / 2 : Nat) : Int) - 1

theorem unzig_zig (n : Int) : unzig (zig n) = n := by
  unfold unzig zig; split <;> split <;> omega
theorem zig_lt (n : Int) (h : -9223372036854775808 ≤ n) (h' : n ≤ 9223372036854775807) : zig n < 18446744073709551616 := by
  unfold zig; split <;> omega

/-- Seven bits a byte, the lowest first, as few as go. -/
def sev (u : Nat) : List Int := if u < 128 then [(u : Int)] else ((u % 128 + 128 : Nat) : Int) :: sev (u / 128)
termination_by u
decreasing_by omega

theorem sev_lo {u : Nat} (h : u < 128) : sev u = [(u : Int)] := by rw [sev, if_pos h]
theorem sev_hi {u : Nat} (h : 128 ≤ u) : sev u = ((u % 128 + 128 : Nat) : Int) :: sev (u / 128) := by rw [sev, if_neg (by omega)]
theorem sev_pos (u : Nat) : 0 < (sev u).length := by
  rcases Nat.lt_or_ge u 128 with h | h
  · rw [sev_lo h]; simp
  · rw [sev_hi h]; simp
theorem sev_length (k : Nat) : ∀ u, u < 128 ^ (k + 1) → (sev u).length ≤ k + 1 := by
  induction k with
  | zero => intro u h; rw [sev_lo (by omega)]; simp
  | succ k ih =>
    intro u h
    rcases Nat.lt_or_ge u 128 with h' | h'
    · rw [sev_lo h']; simp
    · rw [sev_hi h']
      have : u / 128 < 128 ^ (k + 1) := by
        rw [Nat.div_lt_iff_lt_mul (by omega)]; rw [Nat.pow_succ] at h; exact h
      have := ih _ this
      simp; omega
theorem sev_ten (u : Nat) (h : u < 18446744073709551616) : (sev u).length ≤ 10 := sev_length 9 u (by omega)
theorem sev_byte (u : Nat) : ∀ c ∈ sev u, 0 ≤ c ∧ c < 256 := by
  induction u using Nat.strongRecOn with
  | ind u ih =>
    intro c hc
    rcases Nat.lt_or_ge u 128 with h | h
    · rw [sev_lo h] at hc; simp at hc; omega
    · rw [sev_hi h] at hc
      rcases List.mem_cons.1 hc with rfl | hc
      · omega
      · exact ih _ (by omega) c hc

/-- What stands at the beginning of bytes, the i-th byte on, u gathered so far: the number, the bytes that it takes, 0; or 1, of no number's form; or 2, more is needed. -/
def getB : Nat → Nat → List Int → Int × Int × Int
  | _, _, [] => (0, 0, 2)
  | i, u, c :: r =>
    if i = 9 ∧ 1 < c then (0, 0, 1)
    else if c < 128 then
      if c = 0 ∧ 0 < i then (0, 0, 1) else (unzig (u + c.toNat * 128 ^ i), (i : Int) + 1, 0)
    else getB (i + 1) (u + (c.toNat - 128) * 128 ^ i) r

theorem getB_ok : ∀ (l : List Int) (i u : Nat) (x k : Int), (∀ c ∈ l, 0 ≤ c ∧ c < 256) → i ≤ 9 → u < 128 ^ i → getB i u l = (x, k, 0) →
    -9223372036854775808 ≤ x ∧ x ≤ 9223372036854775807 ∧ (i : Int) < k ∧ k ≤ i + l.length := by
  intro l
  induction l with
  | nil => intro i u x k _ _ _ h; simp [getB] at h
  | cons c r ih =>
    intro i u x k hb hi hu h
    have hc := hb c (List.mem_cons_self ..)
    unfold getB at h
    by_cases h9 : i = 9 ∧ 1 < c
    · rw [if_pos h9] at h; simp at h
    · rw [if_neg h9] at h
      by_cases h1 : c < 128
      · rw [if_pos h1] at h
        by_cases h0 : c = 0 ∧ 0 < i
        · rw [if_pos h0] at h; simp at h
        · rw [if_neg h0] at h
          simp only [Prod.mk.injEq] at h
          obtain ⟨rfl, rfl, _⟩ := h
          have hU : u + c.toNat * 128 ^ i < 18446744073709551616 := by
            by_cases e : i = 9
            · subst e
              have : c.toNat ≤ 1 := by omega
              have := Nat.mul_le_mul_right (128 ^ 9) this
              omega
            · have hm := Nat.mul_le_mul_right (128 ^ i) (show c.toNat ≤ 127 by omega)
              have h8 : (128 : Nat) ^ i ≤ 128 ^ 8 := Nat.pow_le_pow_right (by decide) (by omega)
              omega
          simp only [List.length_cons]
          refine ⟨?_, ?_, by omega, by omega⟩ <;> (unfold unzig; split <;> omega)
      · rw [if_neg h1] at h
        have hi' : i + 1 ≤ 9 := by omega
        have hm := Nat.mul_le_mul_right (128 ^ i) (show c.toNat - 128 ≤ 127 by omega)
        have := ih (i + 1) _ x k (fun d hd => hb d (List.mem_cons_of_mem _ hd)) hi' (by rw [Nat.pow_succ]; omega) h
        simp only [List.length_cons]
        omega

theorem getB_err : ∀ (l : List Int) (i u : Nat), (getB i u l).2.2 = 0 ∨ ((getB i u l).2.2 = 1 ∨ (getB i u l).2.2 = 2) ∧ (getB i u l).1 = 0 ∧ (getB i u l).2.1 = 0 := by
  intro l
  induction l with
  | nil => intro i u; exact .inr ⟨.inr rfl, rfl, rfl⟩
  | cons c r ih =>
    intro i u
    unfold getB
    split
    · exact .inr ⟨.inl rfl, rfl, rfl⟩
    · split
      · split
        · exact .inr ⟨.inl rfl, rfl, rfl⟩
        · exact .inl rfl
      · exact ih _ _

/-- The text at the beginning of bytes: its bytes, how many bytes in all, an error. -/
def getT (l : List Int) : List Int × Int × Int :=
  if (getB 0 0 l).2.2 = 0 then
    if (getB 0 0 l).1 < 0 ∨ 65536 < (getB 0 0 l).1 then ([], 0, 1)
    else if (l.length : Int) < (getB 0 0 l).2.1 + (getB 0 0 l).1 then ([], 0, 2)
    else ((l.drop (getB 0 0 l).2.1.toNat).take (getB 0 0 l).1.toNat, (getB 0 0 l).2.1 + (getB 0 0 l).1, 0)
  else ([], 0, (getB 0 0 l).2.2)

/-- What was written is read, whatever stands behind it. -/
theorem getB_sev : ∀ (f u i a : Nat) (r : List Int), u < 128 ^ f → i + f ≤ 10 → (i + f = 10 → 0 < f → u < 2 * 128 ^ (f - 1)) → (i = 0 ∨ 0 < u) → 0 < f →
    getB i a (sev u ++ r) = (unzig (a + u * 128 ^ i), ((i + (sev u).length : Nat) : Int), 0) := by
  intro f
  induction f with
  | zero => intro u i a r _ _ _ _ h; omega
  | succ f ih =>
    intro u i a r hu hi hT hz _
    rcases Nat.lt_or_ge u 128 with h | h
    · rw [sev_lo h]
      simp only [List.cons_append, List.nil_append, getB]
      have h9 : ¬ (i = 9 ∧ 1 < (u : Int)) := by
        rintro ⟨rfl, h1⟩
        have hf : f = 0 := by omega
        subst hf
        have := hT (by omega) (by omega)
        simp at this; omega
      rw [if_neg h9, if_pos (by omega), if_neg (by omega)]
      simp
    · rw [sev_hi h]
      simp only [List.cons_append, getB]
      have hf : 0 < f := by
        rcases Nat.eq_zero_or_pos f with rfl | hf
        · simp at hu; omega
        · exact hf
      rw [if_neg (by omega), if_neg (by omega)]
      have e : (((u % 128 + 128 : Nat) : Int).toNat - 128) = u % 128 := by omega
      rw [e, ih (u / 128) (i + 1) _ r ?_ (by omega) ?_ (.inr (by omega)) hf]
      · have e2 : a + u % 128 * 128 ^ i + u / 128 * 128 ^ (i + 1) = a + u * 128 ^ i := by
          rw [Nat.pow_succ]
          have : u / 128 * (128 ^ i * 128) = (u / 128 * 128) * 128 ^ i := by rw [Nat.mul_comm (128 ^ i), Nat.mul_assoc]
          rw [this, Nat.add_assoc, ← Nat.add_mul]
          have e3 : u % 128 + u / 128 * 128 = u := by omega
          rw [e3]
        rw [e2]
        simp only [List.length_cons, Prod.mk.injEq, true_and, and_true]
        omega
      · rw [Nat.div_lt_iff_lt_mul (by omega)]; rw [Nat.pow_succ] at hu; exact hu
      · intro h1 h2
        have h3 := hT (by omega) (by omega)
        obtain ⟨g, rfl⟩ : ∃ g, f = g + 1 := ⟨f - 1, by omega⟩
        simp only [Nat.add_sub_cancel] at h3 ⊢
        rw [Nat.div_lt_iff_lt_mul (by omega)]
        rw [Nat.pow_succ] at h3
        have : 2 * 128 ^ g * 128 = 2 * (128 ^ g * 128) := by rw [Nat.mul_assoc]
        omega

theorem getB_put (x : Int) (r : List Int) (h1 : -9223372036854775808 ≤ x) (h2 : x ≤ 9223372036854775807) :
    getB 0 0 (sev (zig x) ++ r) = (x, ((sev (zig x)).length : Int), 0) := by
  have h := getB_sev 10 (zig x) 0 0 r (by have := zig_lt x h1 h2; omega) (by omega) (fun _ _ => by have := zig_lt x h1 h2; omega) (.inl rfl) (by omega)
  rw [h]
  simp [unzig_zig]

end Go.Proofs.YtacipjdaiglnjaaGreatDoor.PNum

/- Plain mathematics: numbers and texts that are cut off; many numbers. -/
namespace Go.Proofs.YtacipjdaiglnjaaGreatDoor.PNum

theorem getT_put (n : Nat) (s r : List Int) (hs : s.length = n) (hn : n ≤ 65536) : getT (sev (zig n) ++ s ++ r) = (s, ((sev (zig n)).length : Int) + n, 0) := by
  have h := getB_put (n : Int) (s ++ r) (by omega) (by omega)
  rw [← List.append_assoc] at h
  unfold getT
  rw [h, if_pos rfl, if_neg (by simp; omega)]
  have hl : (sev (zig (n : Int)) ++ s ++ r).length = (sev (zig (n : Int))).length + n + r.length := by simp [hs]; omega
  rw [if_neg (by rw [hl]; show ¬ _ < ((sev (zig (n : Int))).length : Int) + (n : Int); omega)]
  simp [← hs]

end Go.Proofs.YtacipjdaiglnjaaGreatDoor.PNum

/- Plain mathematics of entries: which may be, their bytes, what is read of bytes. No program is named here. -/
namespace Go.Proofs.YtacipjdaiglnjaaGreatDoor.PNum

theorem zig_unzig (v : Nat) : zig (unzig v) = v := by
  unfold unzig zig; split <;> split <;> omega

/-- What is read as a number is what is written of it. -/
theorem getB_inv : ∀ (l : List Int) (i u : Nat) (x k : Int), isB l → getB i u l = (x, k, 0) →
    ∃ v, (0 < v ∨ i = 0) ∧ x = unzig (u + v * 128 ^ i) ∧ l.take (k - i).toNat = sev v ∧ (i : Int) < k ∧ k ≤ i + l.length := by
  intro l
  induction l with
  | nil => intro i u x k _ h; simp [getB] at h
  | cons c r ih =>
    intro i u x k hb h
    have hc := hb c (List.mem_cons_self ..)
    unfold getB at h
    by_cases h9 : i = 9 ∧ 1 < c
    · rw [if_pos h9] at h; simp at h
    · rw [if_neg h9] at h
      by_cases h1 : c < 128
      · rw [if_pos h1] at h
        by_cases h0 : c = 0 ∧ 0 < i
        · rw [if_pos h0] at h; simp at h
        · rw [if_neg h0] at h
          simp only [Prod.mk.injEq] at h
          obtain ⟨rfl, rfl, _⟩ := h
          refine ⟨c.toNat, by omega, rfl, ?_, by omega, by simp only [List.length_cons]; omega⟩
          have e : ((i : Int) + 1 - i).toNat = 1 := by omega
          rw [e, sev_lo (by omega)]
          have e2 : ((c.toNat : Nat) : Int) = c := by omega
          rw [e2]; simp
      · rw [if_neg h1] at h
        obtain ⟨v, hv, hx, ht, hk, hk2⟩ := ih (i + 1) _ x k (fun d hd => hb d (List.mem_cons_of_mem _ hd)) h
        have hv0 : 0 < v := by omega
        refine ⟨c.toNat - 128 + v * 128, by omega, ?_, ?_, by omega, by simp only [List.length_cons]; omega⟩
        · rw [hx]
          congr 1
          rw [Nat.add_mul, Nat.pow_succ, Nat.mul_assoc, Nat.mul_comm (128 ^ i) 128, Nat.add_assoc]
        · rw [sev_hi (by omega)]
          have e1 : (c.toNat - 128 + v * 128) % 128 = c.toNat - 128 := by omega
          have e2 : (c.toNat - 128 + v * 128) / 128 = v := by omega
          rw [e1, e2]
          have e3 : (k - i).toNat = (k - ((i + 1 : Nat) : Int)).toNat + 1 := by omega
          rw [e3, List.take_succ_cons, ht]
          congr 1
          omega

theorem getB_whole {l : List Int} {x k : Int} (hb : isB l) (h : getB 0 0 l = (x, k, 0)) : l.take k.toNat = sev (zig x) ∧ 0 < k ∧ k ≤ l.length := by
  obtain ⟨v, _, hx, ht, hk, hk2⟩ := getB_inv l 0 0 x k hb h
  have e : x = unzig v := by rw [hx]; simp
  rw [e, zig_unzig]
  refine ⟨?_, by omega, by omega⟩
  rw [← ht]; congr 1; omega

theorem getT_whole {l s : List Int} {k : Int} (hb : isB l) (h : getT l = (s, k, 0)) : l.take k.toNat = sev (zig s.length) ++ s ∧ 0 < k ∧ k ≤ l.length ∧ isB s := by
  unfold getT at h
  obtain ⟨⟨x, j, e⟩, hg⟩ : ∃ r, getB 0 0 l = r := ⟨_, rfl⟩
  rw [hg] at h
  by_cases h0 : e = 0
  · subst h0
    rw [if_pos rfl] at h
    obtain ⟨h1, h2, h3⟩ := getB_whole hb hg
    by_cases hx : x < 0 ∨ 65536 < x
    · rw [if_pos hx] at h; simp at h
    · rw [if_neg hx] at h
      by_cases hl : (l.length : Int) < j + x
      · rw [if_pos hl] at h; simp at h
      · rw [if_neg hl] at h
        simp only [Prod.mk.injEq, and_true] at h
        obtain ⟨rfl, rfl⟩ := h
        have e1 : ((l.drop j.toNat).take x.toNat).length = x.toNat := by rw [List.length_take, List.length_drop]; omega
        refine ⟨?_, by omega, by omega, (hb.drop _).take _⟩
        rw [e1, show (j + x).toNat = j.toNat + x.toNat by omega, List.take_add, h1, show ((x.toNat : Nat) : Int) = x by omega]
  · rw [if_neg h0] at h
    simp only [Prod.mk.injEq] at h
    exact absurd h.2.2 h0

end Go.Proofs.YtacipjdaiglnjaaGreatDoor.PNum
namespace Go.Proofs.YtacipjdaiglnjaaGreatDoor
open PNum

/-- An entry. -/
structure Ent where
  fr : Int
  boot : Int
  seq : Int
  ord : Int
  lev : Int
  stamp : Int
  data : ByteArray

namespace PEnt

/-- Each number is an int64. -/
structure Fit (e : Ent) : Prop where
  f0 : -9223372036854775808 ≤ e.fr ∧ e.fr ≤ 9223372036854775807
  f1 : -9223372036854775808 ≤ e.boot ∧ e.boot ≤ 9223372036854775807
  f2 : -9223372036854775808 ≤ e.seq ∧ e.seq ≤ 9223372036854775807
  f3 : -9223372036854775808 ≤ e.ord ∧ e.ord ≤ 9223372036854775807
  f4 : -9223372036854775808 ≤ e.lev ∧ e.lev ≤ 9223372036854775807
  f5 : -9223372036854775808 ≤ e.stamp ∧ e.stamp ≤ 9223372036854775807

/-- It may be. -/
def May (e : Ent) : Prop := (1 ≤ e.fr ∧ e.fr ≤ 7) ∧ (1 ≤ e.boot ∧ e.boot ≤ 1099511627776) ∧ (1 ≤ e.seq ∧ e.seq ≤ 1099511627776) ∧ (0 ≤ e.ord ∧ e.ord ≤ 2) ∧ (0 ≤ e.lev ∧ e.lev ≤ 2) ∧ (0 ≤ e.stamp ∧ e.stamp ≤ 1099511627776) ∧ e.data.size ≤ 16
instance (e : Ent) : Decidable (May e) := by unfold May; infer_instance
def may (e : Ent) : Bool := decide (May e)
theorem may_iff (e : Ent) : may e = true ↔ May e := by simp [may]
theorem May.fit {e : Ent} (h : May e) : Fit e := by
  obtain ⟨h0, h1, h2, h3, h4, h5, _⟩ := h
  constructor <;> constructor <;> omega

/-- One broadcast; all the same. -/
def same (a b : Ent) : Bool := a.fr == b.fr && a.boot == b.boot && a.seq == b.seq
def eqE (a b : Ent) : Bool := a.fr == b.fr && a.boot == b.boot && a.seq == b.seq && a.ord == b.ord && a.lev == b.lev && a.stamp == b.stamp && a.data.toList == b.data.toList
theorem bytes_ext {a b : ByteArray} (h : a.toList = b.toList) : a = b := by
  have h3 : a.data.toList = b.data.toList := by rw [← ByteArray.toList_eq, ← ByteArray.toList_eq, h]
  cases a; cases b; simp at h3; subst h3; rfl
theorem eqE_iff (a b : Ent) : eqE a b = true ↔ a = b := by
  obtain ⟨a0, a1, a2, a3, a4, a5, a6⟩ := a
  obtain ⟨b0, b1, b2, b3, b4, b5, b6⟩ := b
  simp only [eqE, Bool.and_eq_true, beq_iff_eq, Ent.mk.injEq]
  constructor
  · rintro ⟨⟨⟨⟨⟨⟨h0, h1⟩, h2⟩, h3⟩, h4⟩, h5⟩, h6⟩; exact ⟨h0, h1, h2, h3, h4, h5, bytes_ext h6⟩
  · rintro ⟨h0, h1, h2, h3, h4, h5, rfl⟩; exact ⟨⟨⟨⟨⟨⟨h0, h1⟩, h2⟩, h3⟩, h4⟩, h5⟩, rfl⟩
def eqL : List Ent → List Ent → Bool
  | [], [] => true
  | a :: l, b :: m => eqE a b && eqL l m
  | _, _ => false
/-- Its numbers, in their order; an entry of numbers and a text. -/
def nums (e : Ent) : List Int := [e.fr, e.boot, e.seq, e.ord, e.lev, e.stamp]
def entOf (xs : List Int) (d : ByteArray) : Ent := ⟨xs.getD 0 0, xs.getD 1 0, xs.getD 2 0, xs.getD 3 0, xs.getD 4 0, xs.getD 5 0, d⟩
/-- The bytes of numbers, of an entry, of entries. -/
def encN : List Int → List Int
  | [] => []
  | x :: r => sev (zig x) ++ encN r
def encE (e : Ent) : List Int := encN (nums e) ++ (sev (zig e.data.size) ++ sb e.data)
def enc : List Ent → List Int
  | [] => []
  | e :: r => encE e ++ enc r
/-- What is told: nothing, where one may not be. -/
def encode (l : List Ent) : List Int := if l.all may = true then enc l else []

theorem encN_append (a b : List Int) : encN (a ++ b) = encN a ++ encN b := by
  induction a with
  | nil => rfl
  | cons x r ih => simp [encN, ih]
theorem enc_append (a b : List Ent) : enc (a ++ b) = enc a ++ enc b := by
  induction a with
  | nil => rfl
  | cons x r ih => simp [enc, ih]
theorem encN_byte (l : List Int) : isB (encN l) := by
  induction l with
  | nil => intro x hx; simp [encN] at hx
  | cons x r ih => exact isB.append (sev_byte _) ih
theorem encE_byte (e : Ent) : isB (encE e) := (encN_byte _).append (isB.append (sev_byte _) (sb_isB _))
theorem enc_byte (l : List Ent) : isB (enc l) := by
  induction l with
  | nil => intro x hx; simp [enc] at hx
  | cons x r ih => exact (encE_byte x).append ih
theorem encN_pos {x : Int} (r : List Int) : 0 < (encN (x :: r)).length := by
  have := sev_pos (zig x); simp [encN]; omega
theorem encE_pos (e : Ent) : 0 < (encE e).length := by
  have := encN_pos (x := e.fr) [e.boot, e.seq, e.ord, e.lev, e.stamp]
  simp only [encE, nums, List.length_append]; omega
theorem encN_len (l : List Int) (h : ∀ x ∈ l, -9223372036854775808 ≤ x ∧ x ≤ 9223372036854775807) : (encN l).length ≤ 10 * l.length := by
  induction l with
  | nil => simp [encN]
  | cons x r ih =>
    have h1 := h x (List.mem_cons_self ..)
    have h2 := sev_ten (zig x) (zig_lt x h1.1 h1.2)
    have h3 := ih (fun y hy => h y (List.mem_cons_of_mem _ hy))
    simp only [encN, List.length_append, List.length_cons]; omega
theorem nums_fit {e : Ent} (h : Fit e) : ∀ x ∈ nums e, -9223372036854775808 ≤ x ∧ x ≤ 9223372036854775807 := by
  intro x hx
  obtain ⟨h0, h1, h2, h3, h4, h5⟩ := h
  simp only [nums, List.mem_cons, List.not_mem_nil, or_false] at hx
  rcases hx with rfl | rfl | rfl | rfl | rfl | rfl <;> assumption
theorem encE_len {e : Ent} (h : Fit e) (hd : e.data.size ≤ 65536) : (encE e).length ≤ 70 + e.data.size := by
  have h1 := encN_len (nums e) (nums_fit h)
  have h2 := sev_ten (zig e.data.size) (zig_lt _ (by omega) (by omega))
  have h3 := sb_length e.data
  simp only [encE, List.length_append, nums, List.length_cons, List.length_nil] at *
  omega
theorem enc_len (l : List Ent) (h : l.all may = true) : (enc l).length ≤ 86 * l.length := by
  induction l with
  | nil => simp [enc]
  | cons e r ih =>
    simp only [List.all_cons, Bool.and_eq_true] at h
    have hm := (may_iff e).1 h.1
    have h1 := encE_len hm.fit (by have := hm.2.2.2.2.2.2; omega)
    have h2 := ih h.2
    have h3 := hm.2.2.2.2.2.2
    simp only [enc, List.length_append, List.length_cons]; omega
/-- Numbers at the beginning of bytes, how many bytes they take. -/
def rdN : Nat → List Int → Option (List Int × Nat)
  | 0, _ => some ([], 0)
  | k + 1, l =>
    if (getB 0 0 l).2.2 = 0 then
      match rdN k (l.drop (getB 0 0 l).2.1.toNat) with
      | some (xs, m) => some ((getB 0 0 l).1 :: xs, (getB 0 0 l).2.1.toNat + m)
      | none => none
    else none
/-- What stands behind an entry's numbers xs, p bytes on. -/
def rdT (l : List Int) (xs : List Int) (p : Nat) : Option (Ent × Nat) :=
  if (getT (l.drop p)).2.2 = 0 then
    if may (entOf xs (strOfNums (getT (l.drop p)).1)) = true then some (entOf xs (strOfNums (getT (l.drop p)).1), p + (getT (l.drop p)).2.1.toNat) else none
  else none
/-- An entry at the beginning of bytes, how many bytes it takes. -/
def rdE (l : List Int) : Option (Ent × Nat) :=
  match rdN 6 l with
  | some (xs, p) => rdT l xs p
  | none => none
/-- Entries, to the end; so many at most. -/
def rdL : Nat → List Int → Option (List Ent)
  | _, [] => some []
  | 0, _ :: _ => none
  | f + 1, c :: r =>
    match rdE (c :: r) with
    | some (e, k) => (rdL f ((c :: r).drop k)).map (e :: ·)
    | none => none

theorem rdN_enc : ∀ (xs r : List Int), (∀ x ∈ xs, -9223372036854775808 ≤ x ∧ x ≤ 9223372036854775807) → rdN xs.length (encN xs ++ r) = some (xs, (encN xs).length) := by
  intro xs
  induction xs with
  | nil => intro r _; rfl
  | cons x xs ih =>
    intro r h
    have hx := h x (List.mem_cons_self ..)
    have hg := getB_put x (encN xs ++ r) hx.1 hx.2
    simp only [List.length_cons, rdN, encN, List.append_assoc]
    rw [hg, if_pos rfl]
    simp only [Int.toNat_natCast, List.drop_left, ih r (fun y hy => h y (List.mem_cons_of_mem _ hy)), List.length_append]
theorem rdN_inv : ∀ (k : Nat) (l xs : List Int) (m : Nat), isB l → rdN k l = some (xs, m) → xs.length = k ∧ m ≤ l.length ∧ l.take m = encN xs ∧ ∀ x ∈ xs, -9223372036854775808 ≤ x ∧ x ≤ 9223372036854775807 := by
  intro k
  induction k with
  | zero => intro l xs m _ h; simp [rdN] at h; obtain ⟨rfl, rfl⟩ := h; simp [encN]
  | succ k ih =>
    intro l xs m hb h
    simp only [rdN] at h
    obtain ⟨⟨x, j, e⟩, hg⟩ : ∃ r, getB 0 0 l = r := ⟨_, rfl⟩
    rw [hg] at h
    by_cases h0 : e = 0
    · subst h0
      rw [if_pos rfl] at h
      simp only at h
      obtain ⟨h1, h2, h3⟩ := getB_whole hb hg
      obtain ⟨hx1, hx2, _, _⟩ := getB_ok l 0 0 x j hb (by omega) (by decide) hg
      cases hr : rdN k (l.drop j.toNat) with
      | none => rw [hr] at h; simp at h
      | some p =>
        obtain ⟨ys, q⟩ := p
        rw [hr] at h
        simp only [Option.some.injEq, Prod.mk.injEq] at h
        obtain ⟨rfl, rfl⟩ := h
        obtain ⟨i1, i2, i3, i4⟩ := ih _ ys q (hb.drop _) hr
        rw [List.length_drop] at i2
        refine ⟨by simp [i1], by omega, ?_, ?_⟩
        · rw [List.take_add, h1, i3]; rfl
        · intro y hy
          rcases List.mem_cons.1 hy with rfl | hy
          · exact ⟨hx1, hx2⟩
          · exact i4 y hy
    · rw [if_neg h0] at h; simp at h

theorem list6 {xs : List Int} (h : xs.length = 6) (d : ByteArray) : nums (entOf xs d) = xs := by
  match xs, h with
  | [a, b, c, e, f, g], _ => rfl
theorem entOf_nums (e : Ent) : entOf (nums e) e.data = e := rfl

theorem rdE_enc {e : Ent} (h : May e) (r : List Int) : rdE (encE e ++ r) = some (e, (encE e).length) := by
  have h1 := rdN_enc (nums e) ((sev (zig e.data.size) ++ sb e.data) ++ r) (nums_fit h.fit)
  have hn : (nums e).length = 6 := rfl
  rw [hn, ← List.append_assoc] at h1
  have hd := h.2.2.2.2.2.2
  have h2 := getT_put e.data.size (sb e.data) r (sb_length _) (by omega)
  unfold rdE
  unfold encE
  rw [h1]
  simp only [rdT]
  rw [show (encN (nums e) ++ (sev (zig ↑e.data.size) ++ sb e.data) ++ r).drop (encN (nums e)).length = sev (zig ↑e.data.size) ++ sb e.data ++ r by rw [List.append_assoc, List.drop_left], h2, if_pos rfl]
  simp only [str_sb, entOf_nums]
  rw [if_pos ((may_iff e).2 h)]
  have e1 := sb_length e.data
  simp only [List.length_append, Option.some.injEq, Prod.mk.injEq, true_and]
  omega
theorem rdE_inv {l : List Int} {e : Ent} {k : Nat} (hb : isB l) (h : rdE l = some (e, k)) : May e ∧ 0 < k ∧ k ≤ l.length ∧ l.take k = encE e := by
  unfold rdE at h
  cases hr : rdN 6 l with
  | none => rw [hr] at h; simp at h
  | some p =>
    obtain ⟨xs, p⟩ := p
    rw [hr] at h
    simp only [rdT] at h
    obtain ⟨i1, i2, i3, i4⟩ := rdN_inv 6 l xs p hb hr
    obtain ⟨⟨s, j, er⟩, hg⟩ : ∃ r, getT (l.drop p) = r := ⟨_, rfl⟩
    rw [hg] at h
    by_cases h0 : er = 0
    · subst h0
      rw [if_pos rfl] at h
      simp only at h
      by_cases hm : may (entOf xs (strOfNums s)) = true
      · rw [if_pos hm] at h
        simp only [Option.some.injEq, Prod.mk.injEq] at h
        obtain ⟨rfl, rfl⟩ := h
        obtain ⟨j1, j2, j3, j4⟩ := getT_whole (hb.drop _) hg
        rw [List.length_drop] at j3
        refine ⟨(may_iff _).1 hm, by omega, by omega, ?_⟩
        unfold encE
        rw [list6 i1]
        have e1 : sb (entOf xs (strOfNums s)).data = s := sb_str j4
        have e2 : (entOf xs (strOfNums s)).data.size = s.length := by rw [← sb_length, e1]
        rw [e1, e2, List.take_add, i3, j1]
      · rw [if_neg hm] at h; simp at h
    · rw [if_neg h0] at h; simp at h

theorem rdL_enc : ∀ (es : List Ent) (f : Nat), es.all may = true → es.length ≤ f → rdL f (enc es) = some es := by
  intro es
  induction es with
  | nil => intro f _ _; cases f <;> rfl
  | cons e r ih =>
    intro f h hf
    simp only [List.all_cons, Bool.and_eq_true] at h
    obtain ⟨g, rfl⟩ : ∃ g, f = g + 1 := ⟨f - 1, by simp only [List.length_cons] at hf; omega⟩
    have hp := encE_pos e
    have hE := rdE_enc ((may_iff e).1 h.1) (enc r)
    have hI := ih g h.2 (by simp only [List.length_cons] at hf; omega)
    have hl : enc (e :: r) = encE e ++ enc r := rfl
    have hd : (encE e ++ enc r).drop (encE e).length = enc r := List.drop_left ..
    rw [hl]
    generalize encE e ++ enc r = L at *
    match L with
    | [] => simp [rdE, rdN, getB] at hE
    | c :: t =>
      simp only [rdL, hE, hd, hI, Option.map_some]
theorem rdL_inv : ∀ (f : Nat) (l : List Int) (es : List Ent), isB l → rdL f l = some es → es.all may = true ∧ enc es = l ∧ es.length ≤ f := by
  intro f
  induction f with
  | zero =>
    intro l es hb h
    cases l with
    | nil => simp [rdL] at h; subst h; simp [enc]
    | cons c r => simp [rdL] at h
  | succ f ih =>
    intro l es hb h
    cases l with
    | nil => simp [rdL] at h; subst h; simp [enc]
    | cons c r =>
      simp only [rdL] at h
      cases hr : rdE (c :: r) with
      | none => rw [hr] at h; simp at h
      | some p =>
        obtain ⟨e, k⟩ := p
        rw [hr] at h
        simp only [Option.map_eq_some_iff] at h
        obtain ⟨ts, ht, rfl⟩ := h
        obtain ⟨h1, h2, h3, h4⟩ := rdE_inv hb hr
        obtain ⟨i1, i2, i3⟩ := ih _ ts (hb.drop _) ht
        refine ⟨by simp [i1, (may_iff e).2 h1], ?_, by simp; omega⟩
        show encE e ++ enc ts = _
        rw [i2, ← h4, List.take_append_drop]
/-- What Decode tells of bytes. -/
def dec (l : List Int) : Option (List Ent) := rdL l.length l
theorem enc_count (l : List Ent) : l.length ≤ (enc l).length := by
  induction l with
  | nil => simp [enc]
  | cons e r ih => have := encE_pos e; simp only [enc, List.length_append, List.length_cons]; omega
theorem dec_enc {l : List Ent} (h : l.all may = true) : dec (enc l) = some l := rdL_enc l _ h (enc_count l)
theorem dec_inv {l : List Int} {es : List Ent} (hb : isB l) (h : dec l = some es) : es.all may = true ∧ enc es = l ∧ es.length ≤ l.length := rdL_inv _ _ _ hb h

end PEnt
end Go.Proofs.YtacipjdaiglnjaaGreatDoor

/- Plain mathematics of CRC-32: a bit at a time, half a byte at a time; it goes by exclusive or; what it tells of changed bytes. No program is named here. -/
namespace Go.Proofs.YtacipjdaiglnjaaGreatDoor.PCrc

theorem xor_mod2 (a b : Nat) : (a ^^^ b) % 2 = (a + b) % 2 := by
  have h := @Nat.xor_mod_two_eq_one a b
  omega
theorem xor_low (k : Nat) : ∀ q r : Nat, r < 2 ^ k → (2 ^ k * q) ^^^ r = 2 ^ k * q + r := by
  induction k with
  | zero => intro q r h; have : r = 0 := by simpa using h
            subst this; simp
  | succ k ih =>
    intro q r h
    have h2 : r / 2 < 2 ^ k := by rw [Nat.pow_succ] at h; omega
    have e1 : ((2 ^ (k + 1) * q) ^^^ r) / 2 = (2 ^ (k + 1) * q + r) / 2 := by
      rw [Nat.xor_div_two, show 2 ^ (k + 1) * q / 2 = 2 ^ k * q from by rw [Nat.pow_succ, Nat.mul_right_comm]; omega, ih q _ h2, Nat.pow_succ, Nat.mul_right_comm]; omega
    have e2 : ((2 ^ (k + 1) * q) ^^^ r) % 2 = (2 ^ (k + 1) * q + r) % 2 := xor_mod2 _ _
    omega

/-- A bit. -/
def st (c : Nat) : Nat := if c % 2 = 1 then c / 2 ^^^ 3988292384 else c / 2
theorem st_xor (a b : Nat) : st (a ^^^ b) = st a ^^^ st b := by
  have hm : (a ^^^ b) % 2 = (a + b) % 2 := xor_mod2 _ _
  have hd : (a ^^^ b) / 2 = a / 2 ^^^ b / 2 := Nat.xor_div_two
  unfold st
  rw [hd]
  rcases Nat.mod_two_eq_zero_or_one a with ha | ha <;> rcases Nat.mod_two_eq_zero_or_one b with hb | hb
  · rw [if_neg (by omega), if_neg (by omega), if_neg (by omega)]
  · rw [if_pos (by omega), if_neg (by omega), if_pos (by omega), Nat.xor_assoc]
  · rw [if_pos (by omega), if_pos (by omega), if_neg (by omega)]; ac_rfl
  · rw [if_neg (by omega), if_pos (by omega), if_pos (by omega)]
    have e : (a / 2 ^^^ 3988292384) ^^^ (b / 2 ^^^ 3988292384) = (a / 2 ^^^ b / 2) ^^^ (3988292384 ^^^ 3988292384) := by ac_rfl
    rw [e, Nat.xor_self, Nat.xor_zero]
theorem st_two (y : Nat) : st (2 * y) = y := by unfold st; rw [if_neg (by omega)]; omega
theorem st_lt {c : Nat} (h : c < 4294967296) : st c < 4294967296 := by
  unfold st; split
  · exact Nat.xor_lt_two_pow (n := 32) (by omega) (by omega)
  · omega
/-- So many bits. -/
def sts : Nat → Nat → Nat
  | 0, c => c
  | k + 1, c => sts k (st c)
theorem sts_xor (k : Nat) : ∀ a b, sts k (a ^^^ b) = sts k a ^^^ sts k b := by
  induction k with
  | zero => intro a b; rfl
  | succ k ih => intro a b; rw [sts, sts, sts, st_xor, ih]
theorem sts_lt (k : Nat) : ∀ {c}, c < 4294967296 → sts k c < 4294967296 := by
  induction k with
  | zero => intro c h; exact h
  | succ k ih => intro c h; exact ih (st_lt h)
theorem sts_up (k : Nat) : ∀ y, sts k (2 ^ k * y) = y := by
  induction k with
  | zero => intro y; simp [sts]
  | succ k ih => intro y; rw [sts, Nat.pow_succ, Nat.mul_right_comm, Nat.mul_comm _ 2, st_two, ih]
theorem sts_add (j k : Nat) : ∀ c, sts (j + k) c = sts k (sts j c) := by
  induction j with
  | zero => intro c; simp [sts]
  | succ j ih => intro c; rw [show j + 1 + k = (j + k) + 1 from by omega, sts, ih]; rfl
theorem st_sts (k : Nat) (c : Nat) : sts (k + 1) c = st (sts k c) := by rw [sts_add]; rfl

/-- Half a byte at a time: the table. -/
def tab : List Nat := [0, 498536548, 997073096, 651767980, 1994146192, 1802195444, 1303535960, 1342533948, 3988292384, 4027552580, 3604390888, 3412177804, 2607071920, 2262029012, 2685067896, 3183342108]
theorem tab_sts : ∀ r, r < 16 → sts 4 r = tab.getD r 0 := by decide
theorem tab_lt : ∀ r, r < 16 → tab.getD r 0 < 4294967296 := by decide
theorem half (c : Nat) : (c / 16) ^^^ tab.getD (c % 16) 0 = sts 4 c := by
  have h := xor_low 4 (c / 16) (c % 16) (Nat.mod_lt _ (by decide))
  have e : 2 ^ 4 * (c / 16) + c % 16 = c := Nat.div_add_mod c 16
  rw [e] at h
  conv => rhs; rw [← h]
  rw [sts_xor, sts_up, tab_sts _ (Nat.mod_lt _ (by decide))]

/-- The state behind some bytes. -/
def run (s : Nat) (l : List Int) : Nat := l.foldl (fun s x => sts 8 (s ^^^ x.toNat)) s
theorem run_nil (s : Nat) : run s [] = s := rfl
theorem run_cons (s : Nat) (x : Int) (l : List Int) : run s (x :: l) = run (sts 8 (s ^^^ x.toNat)) l := rfl
theorem run_append (s : Nat) (a b : List Int) : run s (a ++ b) = run (run s a) b := by
  unfold run; rw [List.foldl_append]
theorem run_lt {l : List Int} (hb : ∀ x ∈ l, 0 ≤ x ∧ x < 256) : ∀ {s}, s < 4294967296 → run s l < 4294967296 := by
  induction l with
  | nil => intro s h; rw [run_nil]; exact h
  | cons x l ih =>
    intro s h
    have h1 := hb x (by simp)
    rw [run_cons]
    refine ih (fun y hy => hb y (by simp [hy])) ?_
    refine sts_lt 8 ?_
    exact Nat.xor_lt_two_pow (n := 32) h (by omega)

/-- All bytes as one number, the first the lowest. -/
def word : List Int → Nat
  | [] => 0
  | x :: l => x.toNat ^^^ (2 ^ 8 * word l)
/-- The sum. -/
def sum (l : List Int) : Nat := 4294967295 ^^^ run 4294967295 l
theorem sum_lt {l : List Int} (hb : ∀ x ∈ l, 0 ≤ x ∧ x < 256) : sum l < 4294967296 :=
  Nat.xor_lt_two_pow (n := 32) (by decide) (run_lt hb (by decide))

/-- Four bytes, the highest first. -/
def four (u : Nat) : List Int := [((u / 16777216 % 256 : Nat) : Int), ((u / 65536 % 256 : Nat) : Int), ((u / 256 % 256 : Nat) : Int), ((u % 256 : Nat) : Int)]
def sealed (l : List Int) : List Int := l ++ four (sum l)
/-- The sum that four bytes tell. -/
def told : List Int → Nat
  | [a, b, c, d] => ((a.toNat * 256 + b.toNat) * 256 + c.toNat) * 256 + d.toNat
  | _ => 0
theorem told_four {u : Nat} (h : u < 4294967296) : told (four u) = u := by
  simp only [told, four, Int.toNat_natCast]; omega
theorem four_told {l : List Int} (hb : ∀ x ∈ l, 0 ≤ x ∧ x < 256) (h : l.length = 4) : four (told l) = l := by
  match l, h with
  | [a, b, c, d], _ =>
    have h1 := hb a (by simp); have h2 := hb b (by simp); have h3 := hb c (by simp); have h4 := hb d (by simp)
    simp only [told, four, List.cons.injEq, and_true]
    omega

end Go.Proofs.YtacipjdaiglnjaaGreatDoor.PCrc

/- Contracts of the sums: crc.Sum. -/
namespace Go.Proofs.YtacipjdaiglnjaaGreatDoor
open Go.RowKit

/-- The table lies as its initialiser lays it. -/
def Tab (w : World) : Prop := ∀ j, j < 16 → w.cell? ⟨0, j, none⟩ = some (.int .u32 (PCrc.tab.getD j 0 : Nat))
theorem Tab.past {w w' : World} (h : Tab w) (hb : Below w.heap.size w w') : Tab w' := fun j hj => (hb.cell (p := ⟨_, j, none⟩) (World.block_lt_of_cell? w _ (h j hj))).trans (h j hj)

theorem Tab.lt {w : World} (h : Tab w) : 0 < w.heap.size := World.block_lt_of_cell? w _ (h 0 (by omega))

theorem take_next {l : List Int} {i : Nat} {x : Int} (h : l.drop i = x :: l.drop (i + 1)) : l.take (i + 1) = l.take i ++ [x] := by
  have hi : i < l.length := by
    rcases Nat.lt_or_ge i l.length with h1 | h1
    · exact h1
    · rw [List.drop_eq_nil_of_le h1] at h; cases h
  rw [List.take_succ_eq_append_getElem hi]
  have := List.drop_eq_getElem_cons hi
  rw [this] at h; injection h with h1 h2; rw [h1]

theorem half_bits (a : Nat) (h : a < 4294967296) : ∃ r t b : Nat, r < 16 ∧ PCrc.tab.getD r 0 = t ∧ bits BinOp.and IntKind.u32 (a : Int) 15 = (r : Int) ∧ bits BinOp.xor IntKind.u32 ((a : Int) / 16) (t : Int) = (b : Int) ∧ b = PCrc.sts 4 a ∧ b < 4294967296 := by
  refine ⟨a % 16, _, _, Nat.mod_lt _ (by decide), rfl, ?_, ?_, rfl, PCrc.sts_lt 4 h⟩
  · have := u32_and_nat a 15 h (by decide)
    rw [show ((15 : Nat) : Int) = 15 from rfl] at this
    rw [this]
    congr 1
    exact Nat.and_two_pow_sub_one_eq_mod a 4
  · have e : ((a : Int) / 16) = ((a / 16 : Nat) : Int) := by omega
    rw [e, u32_xor_nat _ _ (by omega) (PCrc.tab_lt _ (Nat.mod_lt _ (by decide))), PCrc.half]

set_option maxRecDepth 100000 in
theorem Sum_c (w : World) (B : Nat) (A : Option Addr) (c n : Nat) (l : List Int) (h : Rd w B A c 1 n (bs l)) (hb : isB l) (ht : Tab w) :
    Calls Tryz.prog 184 #[.slice A n c] w fun e w' => e = .returned (.int .u32 (PCrc.sum l : Nat)) ∧ w = w' := by
  have hlen := h.blen
  have HL := Lib.hid hlen; clear hlen
  have hm := h.le
  have hm2 := h.cap
  have hn : n ≤ 9223372036854775807 := by unfold maxLen at hm2; omega
  clear hm hm2
  go_enter Tryz.func184, Tryz.ntmps184
  go_wp2
  go_loop [3, 8] (fun s3 s8 => ∃ (i s : Nat), s3 = .int .u32 s ∧ s8 = .int .i64 i ∧ i ≤ n ∧ s < 4294967296 ∧ PCrc.run 4294967295 (l.take i) = s)
    (fun _ s8 => n - (intOf s8).toNat)
  case atStart => exact ⟨0, 4294967295, rfl, rfl, by omega, by omega, rfl⟩
  case round =>
    obtain ⟨i, s, rfl, rfl, hi, hs, hg⟩ := hrel
    have HG := Lib.hid hg; clear hg
    by_cases hlt : i < n
    · obtain ⟨b, o, x, rfl, hc, hd, hx0, hx1, hxl⟩ := h.byte hb hlt
      clear hxl
      have HD := Lib.hid hd; clear hd
      obtain ⟨y, rfl⟩ := Int.eq_ofNat_of_zero_le hx0
      have hy : y < 4294967296 := by omega
      have e1 := u32_xor_nat s y hs hy
      have ha : s ^^^ y < 4294967296 := Nat.xor_lt_two_pow (n := 32) hs hy
      generalize hsy : s ^^^ y = a at e1 ha
      have HSY := Lib.hid hsy; clear hsy
      obtain ⟨r, t, a2, hr, ht1, e2, e3, ha2, hl2⟩ := half_bits a ha
      have hc1 := ht r hr
      rw [ht1] at hc1
      have HA2 := Lib.hid ha2; clear ht1 ha2
      obtain ⟨r2, t2, a3, hr2, ht2, e4, e5, ha3, hl3⟩ := half_bits a2 hl2
      have hc2 := ht r2 hr2
      rw [ht2] at hc2
      have HA3 := Lib.hid ha3; clear ht2 ha3
      have HT := Lib.hid ht; clear ht
      go_wp2
      go_round
      case rel =>
        refine ⟨i + 1, a3, rfl, by go_num, by omega, hl3, ?_⟩
        rw [take_next HD.out, PCrc.run_append, HG.out, PCrc.run_cons, PCrc.run_nil, Int.toNat_natCast, HSY.out, HA3.out, HA2.out, ← PCrc.sts_add]
      case measure => simp [intOf]; omega
    · have e1 := u32_xor_nat 4294967295 s (by decide) hs
      have fin : Ending.returned (.int .u32 (bits BinOp.xor IntKind.u32 IntKind.u32.max (s : Int))) = Ending.returned (.int .u32 (PCrc.sum l : Nat)) := by
        rw [show IntKind.u32.max = 4294967295 from rfl, show (4294967295 : Int) = ((4294967295 : Nat) : Int) from rfl, e1]
        have e2 := HG.out
        rw [List.take_of_length_le (by have := HL.out; omega)] at e2
        rw [PCrc.sum, e2]
      have FIN := Lib.hid fin; clear fin e1
      have sg : IntKind.u32.signed = false := rfl
      go_wp2
      go_ret
      exact ⟨FIN.out, rfl⟩

set_option maxRecDepth 100000 in
theorem rSum_c (w : World) (B : Nat) (A : Option Addr) (c n : Nat) (l : List Int) (h : Rd w B A c 1 n (bs l)) (hb : isB l) :
    Calls Tryz.prog 104 #[.slice A n c] w fun e w' => e = .returned (.int .u32 (PCrc.sum l : Nat)) ∧ w = w' := by
  have hlen := h.blen
  have HL := Lib.hid hlen; clear hlen
  have hm := h.le
  have hm2 := h.cap
  have hn : n ≤ 9223372036854775807 := by unfold maxLen at hm2; omega
  clear hm hm2
  have sg : IntKind.u32.signed = false := rfl
  go_enter Tryz.func104, Tryz.ntmps104
  go_wp2
  go_loop [3, 4] (fun s3 s4 => ∃ (i s : Nat), s3 = .int .u32 s ∧ s4 = .int .i64 i ∧ i ≤ n ∧ s < 4294967296 ∧ PCrc.run 4294967295 (l.take i) = s)
    (fun _ s4 => n - (intOf s4).toNat)
  case atStart => exact ⟨0, 4294967295, rfl, rfl, by omega, by omega, rfl⟩
  case round =>
    obtain ⟨i, s, rfl, rfl, hi, hs, hg⟩ := hrel
    have HG := Lib.hid hg; clear hg
    by_cases hlt : i < n
    · obtain ⟨b, o, x, rfl, hc, hd, hx0, hx1, hxl⟩ := h.byte hb hlt
      clear hxl
      have HD := Lib.hid hd; clear hd
      obtain ⟨y, rfl⟩ := Int.eq_ofNat_of_zero_le hx0
      have hy : y < 4294967296 := by omega
      have e1 := u32_xor_nat s y hs hy
      have ha : s ^^^ y < 4294967296 := Nat.xor_lt_two_pow (n := 32) hs hy
      generalize hsy : s ^^^ y = a at e1 ha
      have HSY := Lib.hid hsy; clear hsy
      go_wp2
      go_loop [3, 5] (fun s3 s5 => ∃ (k u : Nat), s3 = .int .u32 u ∧ s5 = .int .i64 k ∧ k ≤ 8 ∧ u < 4294967296 ∧ PCrc.sts k a = u)
        (fun _ s5 => 8 - (intOf s5).toNat)
      case atStart => exact ⟨0, a, rfl, rfl, by omega, ha, rfl⟩
      case round =>
        obtain ⟨k, u, rfl, rfl, hk, hu, hku⟩ := hrel
        have HKU := Lib.hid hku; clear hku
        by_cases hk8 : k < 8
        · have hst := PCrc.st_lt hu
          by_cases h2 : u % 2 = 1
          · have e2 : ((u : Int) % 2) = 1 := by omega
            have e3 : bits BinOp.xor IntKind.u32 ((u : Int) / 2) 3988292384 = (PCrc.st u : Int) := by
              have := u32_xor_nat (u / 2) 3988292384 (by omega) (by decide)
              rw [show ((u / 2 : Nat) : Int) = (u : Int) / 2 from by omega] at this
              rw [show (3988292384 : Int) = ((3988292384 : Nat) : Int) from rfl, this, PCrc.st, if_pos h2]
            have H2 := Lib.hid h2; clear h2
            go_wp2
            go_round
            case rel => exact ⟨k + 1, PCrc.st u, rfl, by go_num, by omega, hst, by rw [PCrc.st_sts, HKU.out]⟩
            case measure => simp [intOf]; omega
          · have e2 : (((u : Int) % 2) == 1) = false := by simp; omega
            have e3 : ((u : Int) / 2) = (PCrc.st u : Int) := by rw [PCrc.st, if_neg h2]; omega
            have E3 := Lib.hid e3
            clear e3 h2
            go_wp2
            go_round
            case rel => exact ⟨k + 1, PCrc.st u, by rw [E3.out], by go_num, by omega, hst, by rw [PCrc.st_sts, HKU.out]⟩
            case measure => simp [intOf]; omega
        · obtain rfl : k = 8 := by omega
          go_wp2
          go_round
          case rel =>
            refine ⟨i + 1, u, rfl, by go_num, by omega, hu, ?_⟩
            rw [take_next HD.out, PCrc.run_append, HG.out, PCrc.run_cons, PCrc.run_nil, Int.toNat_natCast, HSY.out, HKU.out]
          case measure => simp [intOf]; omega
    · have e1 := u32_xor_nat 4294967295 s (by decide) hs
      have fin : Ending.returned (.int .u32 (bits BinOp.xor IntKind.u32 IntKind.u32.max (s : Int))) = Ending.returned (.int .u32 (PCrc.sum l : Nat)) := by
        rw [show IntKind.u32.max = 4294967295 from rfl, show (4294967295 : Int) = ((4294967295 : Nat) : Int) from rfl, e1]
        have e2 := HG.out
        rw [List.take_of_length_le (by have := HL.out; omega)] at e2
        rw [PCrc.sum, e2]
      have FIN := Lib.hid fin; clear fin e1
      go_wp2
      go_ret
      exact ⟨FIN.out, rfl⟩

end Go.Proofs.YtacipjdaiglnjaaGreatDoor

/- A region that draws its order, walked in ONE order: what yields in every world that keeps the old blocks is taken first; a call or a write must be the only one that may come up. No program is named here. -/
namespace Go.Proofs.YtacipjdaiglnjaaGreatDoor
open Go.RowKit

section
variable {P : Program} {ops : Array Oper} {Q : Exit → Act → World → Prop}

/-- Whatever order is drawn from here on; what lies below block B stays as it is in w. -/
def Hb (P : Program) (ops : Array Oper) (Q : Exit → Act → World → Prop) (B n : Nat) (listed : Array Bool) (a : Act) (w : World) : Prop :=
  wpAnyH P .any ops (NoPanic Q) (Below B w) n listed a w

theorem wpAnyH_less {md : Region.Mode} {S S' : World → Prop} (hs : ∀ w, S' w → S w) : ∀ (n : Nat) (listed : Array Bool) (a : Act) (w : World), wpAnyH P md ops Q S' n listed a w → wpAnyH P md ops Q S n listed a w
  | 0, _, _, _, h => h
  | n + 1, _, _, _, h => ⟨h.1, fun i hi => wpOp_mono (fun a' w' h' => ⟨hs _ h'.1, wpAnyH_less hs n _ a' w' h'.2⟩) (h.2 i hi)⟩

/-- From a world on to a later one, with more that stays. -/
theorem Hb.on {B B' n : Nat} {listed : Array Bool} {a : Act} {w w' : World} (hb : Below B w w') (hB : B ≤ B') (h : Hb P ops Q B' n listed a w') : wpAnyH P .any ops (NoPanic Q) (Below B w) n listed a w' :=
  wpAnyH_less (fun _ h' => hb.trans (h'.mono hB)) _ _ _ _ h

theorem Hb.begin {id : Nat} {a : Act} {w : World} (h : Hb P ops Q w.heap.size ops.size (Array.replicate ops.size false) a w.drew) (hm : P.follows .mixedOrders = true := by kernel_rfl) : (Code.region id ops true).wp P Q a w :=
  wp_region_noPanic (wp_region_held (S := Below w.heap.size w.drew) hm h)

/-- Where the region stores into a block that stands ahead of it: only what lies below B stays. -/
theorem Hb.beginB {B id : Nat} {a : Act} {w : World} (h : Hb P ops Q B ops.size (Array.replicate ops.size false) a w.drew) (hm : P.follows .mixedOrders = true := by kernel_rfl) : (Code.region id ops true).wp P Q a w :=
  wp_region_noPanic (wp_region_held (S := Below B w.drew) hm h)

/-- Number i may come up, and may be taken first. -/
def firstB (ops : Array Oper) (listed : Array Bool) (i : Nat) : Bool := Region.noSelect ops && (Region.free .any ops listed i && (Region.ready .any ops listed).contains i)
theorem firstB_parts {listed : Array Bool} {i : Nat} (h : firstB ops listed i = true) : Region.noSelect ops = true ∧ Region.free .any ops listed i = true ∧ (Region.ready .any ops listed).contains i = true := by
  simpa [firstB] using h

/-- It may be taken first. -/
theorem Hb.take {B n : Nat} {listed : Array Bool} {a a' : Act} {w : World} {o : Oper} {v : Value} (i d : Nat)
    (hi : ops[i]? = some o) (h : Hb P ops Q B n (listed.setIfInBounds i true) a' w) (hy : ∀ w', Below B w w' → (execOp a.eval o).run P w' = .ok (.value v) w')
    (hf : firstB ops listed i = true := by kernel_rfl) (hw : Region.wanted o (yielded ops a.tmps) = true := by rfl) (hd : o.dst = some d := by rfl)
    (ha : a.put (some d) v = a' := by simp only [Act.put, List.setIfInBounds_toArray, List.set_cons_succ, List.set_cons_zero]; rfl) : Hb P ops Q B (n + 1) listed a w := by
  subst ha
  rw [← hd] at h
  obtain ⟨h1, h2, h3⟩ := firstB_parts hf
  exact wpAnyH_take hi h1 h2 h3 (fun _ _ _ h => h) (.inl ⟨hw, hy⟩) (Below.refl _ _) h

/-- Its guard shuts it out. -/
theorem Hb.pass {B n : Nat} {listed : Array Bool} {a a' : Act} {w : World} {o : Oper} (i d : Nat) (hi : ops[i]? = some o) (h : Hb P ops Q B n (listed.setIfInBounds i true) a' w)
    (hf : firstB ops listed i = true := by kernel_rfl) (hw : Region.wanted o (yielded ops a.tmps) = false := by rfl) (hd : o.dst = some d := by rfl)
    (ha : a.put (some d) undef = a' := by simp only [Act.put, List.setIfInBounds_toArray, List.set_cons_succ, List.set_cons_zero]; rfl) : Hb P ops Q B (n + 1) listed a w := by
  subst ha
  rw [← hd] at h
  obtain ⟨h1, h2, h3⟩ := firstB_parts hf
  exact wpAnyH_take hi h1 h2 h3 (fun _ _ _ h => h) (.inr ⟨hw, rfl⟩) (Below.refl _ _) h

/-- Behind one operation. -/
def Nx (Q : Exit → Act → World → Prop) (K : Act → World → Prop) : Exit → Act → World → Prop
  | .normal, a, w => K a w
  | e, a, w => NoPanic Q e a w

/-- An operation whose guard lets it go: as one without a guard. -/
theorem wpList_unguard {a : Act} {w : World} {o : Oper} {rest : List Oper} (hw : Region.wanted o (yielded ops a.tmps) = true) (h : wpList P ops Q ({ o with guard := none } :: rest) a w) : wpList P ops Q (o :: rest) a w := by
  unfold wpList at h ⊢
  have hw' : Region.wanted { o with guard := none } (yielded ops a.tmps) = true := rfl
  rw [if_pos hw'] at h
  rw [if_pos hw]
  exact h

/-- It alone may come up. -/
theorem Hb.only {B n : Nat} {listed : Array Bool} {a : Act} {w : World} {o : Oper} (i : Nat) (d : Option Nat) (hi : ops[i]? = some o)
    (h : wpList P ops (Nx Q fun a' w' => Below B w w' ∧ ∃ B', B ≤ B' ∧ Hb P ops Q B' n (listed.setIfInBounds i true) a' w') [{ o with guard := none, dst := d }] a w)
    (hr : Region.ready .any ops listed = [i] := by kernel_rfl) (hw : Region.wanted o (yielded ops a.tmps) = true := by rfl) (hd : o.dst = d := by rfl) : Hb P ops Q B (n + 1) listed a w := by
  subst hd
  refine wpAnyH_all hr (by simp) fun j hj => ?_
  obtain rfl : j = i := by simpa using hj
  unfold wpOp
  simp only [hi, hw, if_true]
  have he : execOp a.eval { o with guard := none } = execOp a.eval o := rfl
  unfold wpList at h
  have hw' : Region.wanted { o with guard := none } (yielded ops a.tmps) = true := rfl
  rw [if_pos hw'] at h
  rcases h with h | ⟨h, q⟩
  · refine .inl ?_
    unfold Oper.wp at *
    rw [he] at h
    generalize (execOp a.eval o).run P w = r at *
    have step : ∀ a' w', wpList P ops (Nx Q fun a' w' => Below B w w' ∧ ∃ B', B ≤ B' ∧ Hb P ops Q B' n (listed.setIfInBounds j true) a' w') [] a' w' → Below B w w' ∧ wpAnyH P .any ops (NoPanic Q) (Below B w) n (listed.setIfInBounds j true) a' w' := by
      rintro a' w' ⟨hb, B', hB, hh⟩
      exact ⟨hb, hh.on hb hB⟩
    cases r with
    | ok n w' =>
      cases n <;> simp only [Oper.upon] at h ⊢ <;>
        first
          | exact step _ _ h
          | exact Calls.mono h (fun e w'' he => by
              cases e
              · exact step _ _ he
              · exact he
              · exact he)
          | exact Rows.mono h (fun _ _ he => step _ _ he)
    | halt x w' => cases x <;> simp only [Oper.upon] at h ⊢ <;> exact h
  · exact .inr ⟨h, q⟩

/-- A call of a Go function, it alone. -/
theorem Hb.call {B n : Nat} {listed : Array Bool} {a : Act} {w : World} {o : Oper} {f : FuncId} {args : Array Value} (i d : Nat) (hi : ops[i]? = some o)
    (h : Calls P f args w fun e w' => ∃ v a', e = .returned v ∧ a.put (some d) v = a' ∧ Below B w w' ∧ ∃ B', B ≤ B' ∧ Hb P ops Q B' n (listed.setIfInBounds i true) a' w')
    (hrun : (execOp a.eval o).run P w = .ok (.enter f args) w)
    (hr : Region.ready .any ops listed = [i] := by kernel_rfl) (hw : Region.wanted o (yielded ops a.tmps) = true := by rfl) (hd : o.dst = some d := by rfl) : Hb P ops Q B (n + 1) listed a w := by
  rw [← hd] at h
  refine wpAnyH_all hr (by simp) fun j hj => ?_
  obtain rfl : j = i := by simpa using hj
  unfold wpOp
  simp only [hi, hw, if_true]
  refine .inl ?_
  unfold Oper.wp
  rw [hrun]
  refine h.mono fun e w' => ?_
  rintro ⟨v, a', rfl, rfl, hb, B', hB, hh⟩
  exact ⟨hb, hh.on hb hB⟩

/-- Behind a call: on with what lies below B' kept. -/
theorem Hb.back {B B' n d : Nat} {listed : Array Bool} {a a' : Act} {w w' : World} {v : Value} (hb : Below B w w') (hB : B ≤ B') (h : Hb P ops Q B' n listed a' w')
    (ha : a.put (some d) v = a' := by simp only [Act.put, List.setIfInBounds_toArray, List.set_cons_succ, List.set_cons_zero]; rfl) :
    ∃ v' a', Ending.returned v = .returned v' ∧ a.put (some d) v' = a' ∧ Below B w w' ∧ ∃ B', B ≤ B' ∧ Hb P ops Q B' n listed a' w' := ⟨v, a', rfl, ha, hb, B', hB, h⟩
/-- Behind an operation that was alone. -/
theorem Hb.next {B B' n : Nat} {listed : Array Bool} {a a' : Act} {w w' : World} (hb : Below B w w') (hB : B ≤ B') (h : Hb P ops Q B' n listed a' w')
    (ha : a = a' := by simp only [Act.put, List.setIfInBounds_toArray, List.set_cons_succ, List.set_cons_zero]; rfl) :
    wpList P ops (Nx Q fun a' w' => Below B w w' ∧ ∃ B', B ≤ B' ∧ Hb P ops Q B' n listed a' w') [] a w' := by subst ha; exact ⟨hb, B', hB, h⟩

theorem Hb.done {B n : Nat} {listed : Array Bool} {a : Act} {w : World} (h : Q .normal a w) (hr : Region.ready .any ops listed = [] := by kernel_rfl) : Hb P ops Q B n listed a w :=
  wpAnyH_done hr (show NoPanic Q .normal a w from h) _

theorem wrap_in {n : Int} (h1 : -9223372036854775808 ≤ n) (h2 : n ≤ 9223372036854775807) : IntKind.i64.wrap n = n := by
  simp [IntKind.wrap, IntKind.bits, IntKind.signed]; omega

/-- A cut 's[l:m]' ahead of its region. -/
theorem cut_any {w : World} (t e : TypeId) {z : Option Value} {k bytes : Nat} (ht : P.underlying t = some (.slice e)) (hi : (P.info? e).map (fun i => (i.zero, i.size, i.bytes)) = some (z, k, bytes))
    {B : Nat} {A : Option Addr} {c n : Nat} {xs : List Value} (hr : Rd w B A c k n xs) (lo hig : Option Value) (l m : Nat) (L M : Int) (hlo : lo = none ∧ l = 0 ∨ lo = some (.int .i64 L) ∧ L = l) (hhi : hig = none ∧ m = n ∨ hig = some (.int .i64 M) ∧ M = m) (h1 : l ≤ m) (h2 : m ≤ n) :
    ∃ A' c', (∀ w', (Instr.sliceAt t (.slice A n c) lo hig none).run P w' = .ok (.slice A' (m - l) c') w') ∧ Rd w B A' c' k (m - l) ((xs.drop (l * k)).take ((m - l) * k)) := by
  have hle := hr.le
  refine ⟨_, _, fun w' => run_cut t e ht hi A n c lo hig .i64 .i64 l m (hlo.imp id fun ⟨h1, h2⟩ => by rw [h1, h2]) (hhi.imp id fun ⟨h1, h2⟩ => by rw [h1, h2]) h1 (by omega), hr.cut h1 h2⟩
theorem run_sliceOp {w : World} {dst : Option Tmp} {t : TypeId} {x : Operand} {lo hig : Option Operand} {ty : TypeId} {pos : String} {after : Array Edge} {guard : Option (Nat × Bool)} {ρ : Operand → Value} {v : Value}
    (h : (Instr.sliceAt t (ρ x) (lo.map ρ) (hig.map ρ) none).run P w = .ok v w) : (execOp ρ { dst, op := .slice t x lo hig none, type := ty, pos, after, guard }).run P w = .ok (.value v) w := by
  unfold execOp
  simp only [Option.map_none, Sem.run_bind, h, Result.andThen_ok, Sem.run_pure]
/-- A call, said by the function's row. -/
theorem run_callf {w : World} {dst : Option Tmp} {f : FuncId} {xs : Array Operand} {ats : Array TypeId} {ty : TypeId} {pos : String} {after : Array Edge} {guard : Option (Nat × Bool)} {a : Act} {args : Array Value} {fn : Func}
    (hf : P.funcs[f]? = some fn) (hn : (fn.name == "runtime.NumGoroutine") = false) (hb : fn.body.isNone = false) (hx : xs.map a.eval = args) :
    (execOp a.eval { dst, op := .call { callee := .value (.func f), args := xs, argTypes := ats }, type := ty, pos, after, guard }).run P w = .ok (.enter f args) w := by
  rw [execOp_call_go, ← hx]
  have h1 : fn.name ≠ "runtime.NumGoroutine" := by simpa using hn
  have h2 : fn.body ≠ none := by
    intro h; rw [h] at hb; cases hb
  simp [callFunc, hf, h1, h2]
end
end Go.Proofs.YtacipjdaiglnjaaGreatDoor

/- A byte's cells in the program. -/
namespace Go.Proofs.YtacipjdaiglnjaaGreatDoor
open Go.RowKit

theorem byte_info : (Tryz.prog.info? 5).map (fun i => (i.zero, i.size, i.bytes)) = some (some (.int .u8 0), 1, 1) := by kernel_rfl

theorem Rd.lit (w : World) (us : Array Value) (e : TypeId) (fr : Nat × Nat) (k n : Nat) (hn : us.size = n * k) (hm : n ≤ maxLen) : Rd (w.alloc (.cells us e fr)) (w.heap.size + 1) (some ⟨w.heap.size, 0, none⟩) n k n us.toList :=
  ⟨by simpa using hn, Nat.le_refl _, hm, fun hh => (by cases hh), fun _ => ⟨w.heap.size, 0, rfl, by omega, fun j v hv => by
    rw [Nat.zero_add, cell_of_row _ _ j us e fr (heap_alloc_new w _)]; simpa using hv⟩⟩

end Go.Proofs.YtacipjdaiglnjaaGreatDoor

/- Contract of the reference's Seal. -/
namespace Go.Proofs.YtacipjdaiglnjaaGreatDoor
open Go.RowKit


theorem four_cells (s : Nat) (h : s < 4294967296) : #[Value.int .u8 ((s : Int) / 16777216), .int .u8 ((s : Int) / 65536 % 256), .int .u8 ((s : Int) / 256 % 256), .int .u8 ((s : Int) % 256)].toList = bs (PCrc.four s) := by
  simp only [bs, PCrc.four, List.map_cons, List.map_nil]
  have e : (s : Int) / 16777216 = ((s / 16777216 % 256 : Nat) : Int) := by omega
  have e2 : (s : Int) / 65536 % 256 = ((s / 65536 % 256 : Nat) : Int) := by omega
  have e3 : (s : Int) / 256 % 256 = ((s / 256 % 256 : Nat) : Int) := by omega
  have e4 : (s : Int) % 256 = ((s % 256 : Nat) : Int) := by omega
  rw [e, e2, e3, e4]
theorem isB_four (u : Nat) : isB (PCrc.four u) := by
  intro x hx
  simp only [PCrc.four, List.mem_cons, List.not_mem_nil, or_false] at hx
  omega
theorem isB_sealed {l : List Int} (h : isB l) : isB (PCrc.sealed l) := h.append (isB_four _)
theorem sealed_length (l : List Int) : (PCrc.sealed l).length = l.length + 4 := by simp [PCrc.sealed, PCrc.four]
set_option maxRecDepth 100000 in
theorem rSeal_c (w : World) (B : Nat) (A : Option Addr) (c n : Nat) (l : List Int) (h : Rd w B A c 1 n (bs l)) (hb : isB l) (hn : n ≤ 140000000000000) :
    Calls Tryz.prog 60 #[.slice A n c] w fun e w' => ∃ A' c', e = .returned (.slice A' (n + 4) c') ∧ w'.ownsRow w.heap.size 5 1 (.slice A' (n + 4) c') (n + 4) (bs (PCrc.sealed l)) ∧ Below w.heap.size w w' := by
  have hs := PCrc.sum_lt hb
  have h4 := four_cells _ hs
  have H4 := Lib.hid h4; clear h4
  go_enter Tryz.func60, Tryz.ntmps60
  go_wp2_with fail
  refine (rSum_c w B A c n l h hb).mono ?_
  rintro e w1 ⟨rfl, rfl⟩
  have hse : PCrc.sealed l = l ++ PCrc.four (PCrc.sum l) := rfl
  have HSE := Lib.hid hse; clear hse
  generalize PCrc.sum l = s at *
  go_wp2_with (at_builtin; refine wpList_app rfl (.const (.slice none 0 0)) (.tmp 6) _ rfl w.heap.size 5 _ 1 1 Tryz.underlying68 byte_info rfl (by omega) _ 0 [] rfl (World.ownsRow_nil _ _ _ _) B A c n (bs l) rfl h (bs_one l) (by unfold maxLen; omega) (by omega) (Nat.le_refl _) ?_)
  intro A' c' w1 hown1 hgrow1 hbel1
  have hown1' : w1.ownsRow w.heap.size 5 1 (.slice A' n c') n (bs l) := by simpa using hown1
  clear hown1
  have hsz1 := hbel1.size
  go_wp2_with (at_builtin; go_must (refine wpList_pushes rfl (.tmp 7) (.tmp 19) _ rfl w.heap.size 5 _ 1 1 4 Tryz.underlying68 byte_info rfl (by omega) rfl (by simp [maxLen]) A' c' n (bs l) rfl hown1' rfl ?c1 ?c2 ?c3 ?c4 ?_))
  case c1 => exact ⟨rfl, rfl, rfl, rfl⟩
  case c2 => unfold maxLen; omega
  case c3 => omega
  case c4 => omega
  intro A2 c2 w2 hown2 hgrow2 hbel2
  rw [H4.out, ← bs_append, ← HSE.out] at hown2
  go_wp2_with fail
  go_ret
  exact ⟨A2, c2, rfl, hown2, hbel1.trans hbel2⟩
end Go.Proofs.YtacipjdaiglnjaaGreatDoor

/- What crc.Open answers, in plain words (its contract is XCrcD). -/
namespace Go.Proofs.YtacipjdaiglnjaaGreatDoor
open Go.RowKit

/-- What Open answers. -/
def openP (l : List Int) : List Int × Bool := if 4 ≤ l.length ∧ PCrc.sum (l.take (l.length - 4)) = PCrc.told (l.drop (l.length - 4)) then (l.take (l.length - 4), true) else ([], false)

/-- A slice with the bytes of the first, and whether there are any. -/
def OpenPost (w : World) (r : List Int × Bool) (e : Ending) (w' : World) : Prop :=
  ∃ A' c', e = .returned (.tuple #[.slice A' r.1.length c', .bool r.2]) ∧ Rd w' w'.heap.size A' c' 1 r.1.length (bs r.1) ∧ Below w.heap.size w w'

theorem openPost_no {w w' : World} {l : List Int} (h : openP l = ([], false)) (hb : Below w.heap.size w w') : OpenPost w (openP l) (.returned (.tuple #[.slice none 0 0, .bool false])) w' := by
  rw [h]; exact ⟨none, 0, rfl, Rd.nil _ _ _, hb⟩
end Go.Proofs.YtacipjdaiglnjaaGreatDoor

/- Plain mathematics of CRC-32, more: bytes that were changed. No program is named here. -/
namespace Go.Proofs.YtacipjdaiglnjaaGreatDoor.PCrc

end Go.Proofs.YtacipjdaiglnjaaGreatDoor.PCrc

/- What Open answers of sealed bytes, whole or changed in a place. No program is named here. -/
namespace Go.Proofs.YtacipjdaiglnjaaGreatDoor
open Go.RowKit

theorem openP_by_seal {l : List Int} (hb : isB l) : openP l = if 4 ≤ l.length ∧ PCrc.sealed (l.take (l.length - 4)) = l then (l.take (l.length - 4), true) else ([], false) := by
  unfold openP
  have h : 4 ≤ l.length → (PCrc.sum (l.take (l.length - 4)) = PCrc.told (l.drop (l.length - 4)) ↔ PCrc.sealed (l.take (l.length - 4)) = l) := by
    intro h4
    have e : l = l.take (l.length - 4) ++ l.drop (l.length - 4) := (List.take_append_drop _ _).symm
    have hl : (l.drop (l.length - 4)).length = 4 := by rw [List.length_drop]; omega
    constructor
    · intro hs
      unfold PCrc.sealed
      rw [hs, PCrc.four_told (hb.drop _) hl, List.take_append_drop]
    · intro hs
      conv at hs => rhs; rw [e]
      unfold PCrc.sealed at hs
      have := List.append_cancel_left hs
      rw [← this, PCrc.told_four (PCrc.sum_lt (hb.take _))]
  by_cases h4 : 4 ≤ l.length
  · simp only [h4, true_and, h h4]
  · simp [h4]

theorem openP_sealed {l : List Int} (hb : isB l) : openP (PCrc.sealed l) = (l, true) := by
  have hl : (PCrc.sealed l).length = l.length + 4 := sealed_length l
  unfold openP
  have e1 : (PCrc.sealed l).take ((PCrc.sealed l).length - 4) = l := by
    rw [hl, Nat.add_sub_cancel]; unfold PCrc.sealed; exact List.take_left
  have e2 : (PCrc.sealed l).drop ((PCrc.sealed l).length - 4) = PCrc.four (PCrc.sum l) := by
    rw [hl, Nat.add_sub_cancel]; unfold PCrc.sealed; exact List.drop_left
  rw [e1, e2, PCrc.told_four (PCrc.sum_lt hb), if_pos ⟨by omega, rfl⟩]

end Go.Proofs.YtacipjdaiglnjaaGreatDoor

